import Derived.Test.YtheponmdbmloaaaGreatDoorFnal
import Derived.Test.YtheponmdbmloaaaGreatDoorFnam
import Derived.Test.YtheponmdbmloaaaGreatDoorFnan
import Derived.Test.YtheponmdbmloaaaGreatDoorFnab
import Derived.Test.YtheponmdbmloaaaGreatDoorFnak
import Derived.Test.YtheponmdbmloaaaGreatDoorFnaa
import Derived.Laws.EntriesVeiled
import Derived.Test.YtheponmdbmloaaaGreatDoorFnZ
namespace Go.Proofs.YtheponmdbmloaaaGreatDoor
open Go.RowKit
set_option linter.unusedVariables false
set_option linter.unusedSimpArgs false
set_option maxRecDepth 100000
theorem run_bldG40 (a b : Int) (w : World) : (Instr.build 29 #[(0, .int .i64 a), (1, .int .i64 b), (2, .int .i64 40)]).run Tryz.prog w = .ok (.agg #[.int .i64 a, .int .i64 b, .int .i64 40]) w := by kernel_rfl
theorem exec_bldG40 {ρ : Operand → Value} {o : Oper} {x y z : Operand} {w : World} {a b : Int} (ho : o.op = .build 29 #[(0, x), (1, y), (2, z)]) (hx : ρ x = .int .i64 a) (hy : ρ y = .int .i64 b) (hz : ρ z = .int .i64 40) : (execOp ρ o).run Tryz.prog w = .ok (.value (.agg #[.int .i64 a, .int .i64 b, .int .i64 40])) w := by
  unfold execOp
  simp only [ho, hx, hy, hz, List.map_toArray, List.map_cons, List.map_nil, Sem.run_bind, run_bldG40, Result.andThen_ok, Sem.run_pure]
theorem szK_ok {N : Nat} {s : Int} (hN : N ≤ 16) (hs : 1 ≤ s ∧ s ≤ 64) : newOk (szK N s) := by
  refine ⟨by rw [szK_len]; omega, by rw [szK_len]; omega, fun k hk => ?_⟩
  unfold szK at hk
  rcases List.mem_append.1 hk with h | h
  · have := (List.mem_replicate.1 h).2; omega
  · simp at h; omega
theorem hnw_new {N : Nat} {s : Int} (h1 : 3 ≤ N) (h2 : N ≤ 16) (h3 : 1 ≤ s ∧ s ≤ 64) {ev : Nat} (hev : ev ≤ 2305843009213693952) : hnwB (newS6 (szK N s)) 9 ev (neR N s) = true := by
  have hsec : ∀ k, k ≤ N → secK (newS6 (szK N s)) (neR N s) k = true := fun k hk => by
    induction k with
    | zero => rfl
    | succ k ih =>
      refine secK_step (ih (by omega)) ?_
      have e : seN6 (newS6 (szK N s)) (k : Int) = ((2 + s).toNat : Int) := by
        unfold seN6
        rw [if_pos (hasE_ok (by rw [newK_len]; omega))]
        show (((newS6 (szK N s)).ds.getD k bm).S.length : Int) = _
        rw [newK_at (by omega)]
        show ((List.replicate (2 + s).toNat ao).length : Int) = _
        rw [List.length_replicate]
      rw [e]
      show ¬ (((2 + s).toNat : Nat) : Int) < 2 + s
      omega
  unfold hnwB
  rw [neR_fine h1 h2 h3.1 h3.2, newK_len, show (neR N s).m.toNat = N from neR_m N s, hsec N (Nat.le_refl _), decide_eq_false (show ¬ (9 : Nat) = 0 by decide), decide_eq_false (show ¬ 2305843009213693952 < ev by omega), decide_eq_true (show ((N + 1 : Nat) : Int) = (neR N s).m + 1 from rfl)]
  rfl
theorem ne_new {N : Nat} {s : Int} (h1 : 3 ≤ N) (h2 : N ≤ 16) (h3 : 1 ≤ s ∧ s ≤ 64) : newX (neR N s) = neR N s ∧ newEr (neR N s) = 0 := by
  have hg : geoB (neR N s) = true := decide_eq_true ⟨by show 3 ≤ (N : Int); omega, by show (N : Int) ≤ 16; omega, h3.1, h3.2, by show (40 : Int) ≤ 40; omega, by show (40 : Int) ≤ 256; omega⟩
  constructor
  · unfold newX; rw [hg]; rfl
  · unfold newEr; rw [hg]; rfl
set_option maxHeartbeats 4000000 in
theorem l_both19 (C : HulI) (a N : Nat) (w : World) (T : Tab w) (ha : a < 256) (hN : 3 + a % 4 = N) : Calls Tryz.prog 5 #[.int .u8 (a : Int)] w fun e w' => ∃ p q p2 q2, e = .returned (.tuple #[.pointer (some ⟨p, 0, none⟩), .pointer (some ⟨q, 0, none⟩), .pointer (some ⟨p2, 0, none⟩)]) ∧ HAt C w w.heap.size (fun b => b = p2) w' q p ⟨newS6 (szK N 4), 9, 0, neR N 4⟩ ∧ RHu w' p2 q2 9 0 (neR N 4) := by
  have h1 : 3 ≤ N := by omega
  have h2 : N ≤ 16 := by omega
  have HT := Lib.hid T
  have HN := Lib.hid h2
  have HOK := Lib.hid (szK_ok (N := N) (s := 4) h2 (by omega))
  have HNW := Lib.hid (ne_new (N := N) (s := 4) h1 h2 (by omega))
  have HH := Lib.hid (hnw_new (N := N) (s := 4) h1 h2 (by omega) (ev := 0) (by omega))
  have HRA : Hid ((a : Int).tmod 4 = ((a % 4 : Nat) : Int)) := Lib.hid rfl
  have HCA : Hid (IntKind.i64.wrap ((a % 4 : Nat) : Int) = ((a % 4 : Nat) : Int)) := Lib.hid (i64q_ (by omega))
  have HAA : Hid (IntKind.i64.wrap (3 + ((a % 4 : Nat) : Int)) = (N : Int)) := Lib.hid (by rw [i64q_ (by omega)]; omega)
  clear T ha hN h1 h2
  go_enter Tryz.func5, Tryz.ntmps5
  go_upto_region 1 with fail
  refine wp_region_lit ?_
  refine af rfl (ag rfl (ev rfl)) ?_
  simp only [Act.put, aa, ac, ae]
  refine af rfl (exec_rem8 rfl (ev rfl) evk (by decide) HRA.out) ?_
  simp only [Act.put, aa, ac, ae]
  refine af rfl (exec_cv8 rfl (ev rfl) HCA.out) ?_
  simp only [Act.put, aa, ac, ae]
  refine af rfl (bD rfl evk (ev rfl) HAA.out) ?_
  simp only [Act.put, aa, ac, ae]
  refine af rfl (aj rfl (ev rfl)) ?_
  simp only [Act.put, aa, ac, ae]
  refine wpList_nil ?_
  go_wp2_with fail
  go_loopw [6, 7] (fun v z wr => ∃ i : Nat, z = .int .i64 i ∧ i ≤ N ∧ aJ IntE wr w.heap.size v (List.replicate i (2 + 4)) ∧ Below w.heap.size w wr) (fun _ z _ => N - (intOf z).toNat)
  case atStart => exact ⟨0, by go_num, Nat.zero_le _, aJ.nil _ _, Below.refl _ _⟩
  case round =>
    obtain ⟨i, rfl, hi, hm, hb⟩ := hrel
    have HM := Lib.hid hm
    have HW := Lib.hid hb
    have HBS : Hid (w.heap.size ≤ wr.heap.size) := Lib.hid hb.size
    clear hm hb
    by_cases hlt : i < N
    · have HI := Lib.hid hlt
      have HLT : Hid (decide ((i : Int) < (N : Int)) = true) := Lib.hid (decide_eq_true (by omega))
      have HA : Hid (IntKind.i64.wrap ((i : Int) + 1) = ((i + 1 : Nat) : Int)) := Lib.hid (by have := HN.out; rw [i64q_ ⟨by omega, by omega⟩]; omega)
      have hsz : (wr.alloc (.cells #[.int .i64 6] 3)).heap.size = wr.heap.size + 1 := World.size_alloc ..
      obtain ⟨v2, w2, hrun, hm2, hg2⟩ := run_appE IntE (wr.alloc (.cells #[.int .i64 6] 3)) 57 w.heap.size (wr.heap.size + 1) 1 1 u6 (List.replicate i (2 + 4)) [6] (some ⟨wr.heap.size, 0, none⟩) (aJ.below HM.out ((Below.refl _ _).alloc (Nat.le_refl _) _)) (rdE_new (E := IntE) (l := [6]) wr #[.int .i64 6] 3 rfl) (by have := HBS.out; omega) (by have := HN.out; simp; omega)
      have HRUN := Lib.hid hrun
      have HM2 : Hid (aJ IntE w2 w.heap.size v2 (List.replicate (i + 1) (2 + 4))) := Lib.hid (by rw [List.replicate_succ']; exact hm2)
      have HW2 : Hid (Below w.heap.size w w2) := Lib.hid ((HW.out.trans ((Below.refl _ _).alloc HBS.out _)).grown hg2 (by have := HBS.out; omega) (fun j' hj' => HM.out.lt_own j' hj'))
      clear hi hlt hsz hrun hm2 hg2
      go_upto_region 4 with fail
      refine wp_region_lit ?_
      refine af rfl (ag rfl (ev rfl)) ?_
      simp only [Act.put, aa, ac, ae]
      refine af rfl (ag rfl (ev rfl)) ?_
      simp only [Act.put, aa, ac, ae]
      refine af (v := .bool true) rfl (bu true rfl (ev rfl) (ev rfl) HLT.out) ?_
      simp only [Act.put, aa, ac, ae]
      refine wpList_nil ?_
      go_upto_region 6 with fail
      refine wp_region_lit ?_
      refine af rfl (ag rfl (ev rfl)) ?_
      simp only [Act.put, aa, ac, ae]
      refine af rfl (dx (E := IntE) (a := 6) rfl evk rfl (by decide)) ?_
      simp only [Act.put, aa, ac, ae]
      refine af rfl (exec_appE (E := IntE) rfl (ev rfl) (ev rfl) HRUN.out) ?_
      simp only [Act.put, aa, ac, ae]
      refine af rfl (aj rfl (ev rfl)) ?_
      simp only [Act.put, aa, ac, ae]
      refine wpList_nil ?_
      go_upto_region 5 with fail
      refine wp_region_lit ?_
      refine af rfl (ag rfl (ev rfl)) ?_
      simp only [Act.put, aa, ac, ae]
      refine af rfl (bD rfl (ev rfl) evk HA.out) ?_
      simp only [Act.put, aa, ac, ae]
      refine af rfl (aj rfl (ev rfl)) ?_
      simp only [Act.put, aa, ac, ae]
      refine wpList_nil ?_
      go_wp2_with fail
      go_roundw
      case rel => exact ⟨i + 1, by go_num, HI.out, HM2.out, HW2.out⟩
      case measure => have := HI.out; simp [intOf]; omega
    have hin : i = N := by omega
    subst hin
    have HLT : Hid (decide ((i : Int) < (i : Int)) = false) := Lib.hid (decide_eq_false (by omega))
    have hsz : (wr.alloc (.cells #[.int .i64 50] 3)).heap.size = wr.heap.size + 1 := World.size_alloc ..
    obtain ⟨v2, w2, hrun, hm2, hg2⟩ := run_appE IntE (wr.alloc (.cells #[.int .i64 50] 3)) 57 w.heap.size (wr.heap.size + 1) 1 1 u6 (List.replicate i (2 + 4)) [50] (some ⟨wr.heap.size, 0, none⟩) (aJ.below HM.out ((Below.refl _ _).alloc (Nat.le_refl _) _)) (rdE_new (E := IntE) (l := [50]) wr #[.int .i64 50] 3 rfl) (by have := HBS.out; omega) (by have := HN.out; simp; omega)
    have HRUN := Lib.hid hrun
    have HM2 : Hid (aJ IntE w2 w.heap.size v2 (szK i 4)) := Lib.hid hm2
    have HB2 : Hid (Below w.heap.size w w2) := Lib.hid ((HW.out.trans ((Below.refl _ _).alloc HBS.out _)).grown hg2 (by have := HBS.out; omega) (fun j' hj' => HM.out.lt_own j' hj'))
    clear hi hlt hsz hrun hm2 hg2
    go_upto_region 4 with fail
    refine wp_region_lit ?_
    refine af rfl (ag rfl (ev rfl)) ?_
    simp only [Act.put, aa, ac, ae]
    refine af rfl (ag rfl (ev rfl)) ?_
    simp only [Act.put, aa, ac, ae]
    refine af (v := .bool false) rfl (bu false rfl (ev rfl) (ev rfl) HLT.out) ?_
    simp only [Act.put, aa, ac, ae]
    refine wpList_nil ?_
    go_upto_region 7 with fail
    refine wp_region_lit ?_
    refine af rfl (ag rfl (ev rfl)) ?_
    simp only [Act.put, aa, ac, ae]
    refine af rfl (dx (E := IntE) (a := 50) rfl evk rfl (by decide)) ?_
    simp only [Act.put, aa, ac, ae]
    refine af rfl (exec_appE (E := IntE) rfl (ev rfl) (ev rfl) HRUN.out) ?_
    simp only [Act.put, aa, ac, ae]
    refine af rfl (aj rfl (ev rfl)) ?_
    simp only [Act.put, aa, ac, ae]
    refine wpList_nil ?_
    obtain ⟨A2, c2, rfl, e21, e22⟩ := HM2.out.form
    have HR2 := Lib.hid HM2.out.rd
    have HC2 := Lib.hid (And.intro e21 e22)
    clear e21 e22
    go_upto_region 8 with fail
    refine wp_region_lit ?_
    refine af rfl (ag rfl (ev rfl)) ?_
    simp only [Act.put, aa, ac, ae]
    refine ak rfl (ap Tryz.call14 rfl (evc (ev rfl) evn)) ?_
    refine (C.R.new HR2.out HC2.out.1 HC2.out.2).mono ?_
    rintro e w3 ⟨b3, h3⟩
    obtain ⟨_, q, F, rfl, n3, f3⟩ | ⟨h3, _⟩ := h3
    rotate_left 1
    · exact absurd HOK.out h3
    have HB3 := Lib.hid (HB2.out.trans (b3.mono HB2.out.size))
    have HN3 := Lib.hid n3
    have HF3 : Hid (∀ b, F b → w.heap.size ≤ b) := Lib.hid fun b hb => Nat.le_trans HB2.out.size (f3 b hb)
    have HR3 := Lib.hid (HM2.out.below b3).rd
    clear b3 n3 f3
    refine ⟨_, rfl, ?_⟩
    simp only [Act.put, aa, ac, ae]
    refine af rfl (ag rfl (ev rfl)) ?_
    simp only [Act.put, aa, ac, ae]
    refine af rfl (ax rfl (ev rfl) rfl) ?_
    simp only [Act.put, aa, ac, ae]
    refine af rfl (ax rfl (ev rfl) rfl) ?_
    simp only [Act.put, aa, ac, ae]
    refine af rfl (aj rfl (ev rfl)) ?_
    simp only [Act.put, aa, ac, ae]
    refine af rfl (aj rfl (ev rfl)) ?_
    simp only [Act.put, aa, ac, ae]
    refine wpList_nil ?_
    go_upto_region 9 with fail
    refine wp_region_lit ?_
    refine af rfl (ag rfl (ev rfl)) ?_
    simp only [Act.put, aa, ac, ae]
    refine ak rfl (ap Tryz.call15 rfl (evc (ev rfl) evn)) ?_
    refine (cj.new HR3.out HC2.out.1 HC2.out.2).mono ?_
    rintro e w5 ⟨b5, h5⟩
    obtain ⟨_, q5, F5, rfl, n5, f5⟩ | ⟨h5, _⟩ := h5
    rotate_left 1
    · exact absurd HOK.out h5
    have HB5 := Lib.hid (HB3.out.trans (b5.mono HB3.out.size))
    have HN5 := Lib.hid (C.R.toBen.below HN3.out b5)
    have HD5 := Lib.hid n5
    clear b5 n5 f5
    refine ⟨_, rfl, ?_⟩
    simp only [Act.put, aa, ac, ae]
    refine af rfl (ag rfl (ev rfl)) ?_
    simp only [Act.put, aa, ac, ae]
    refine af rfl (ax rfl (ev rfl) rfl) ?_
    simp only [Act.put, aa, ac, ae]
    refine af rfl (ax rfl (ev rfl) rfl) ?_
    simp only [Act.put, aa, ac, ae]
    refine af rfl (aj rfl (ev rfl)) ?_
    simp only [Act.put, aa, ac, ae]
    refine af rfl (aj rfl (ev rfl)) ?_
    simp only [Act.put, aa, ac, ae]
    refine wpList_nil ?_
    go_upto_region 10 with fail
    refine wp_region_lit ?_
    refine af rfl (ag rfl (ev rfl)) ?_
    simp only [Act.put, aa, ac, ae]
    refine af rfl (exec_bldG40 rfl (ev rfl) evk evk) ?_
    simp only [Act.put, aa, ac, ae]
    refine ak rfl (ap Tryz.call16 rfl (evc (ev rfl) evn)) ?_
    refine (rnew_v (x := neR i 4) (w := w5) HNW.out.1 HNW.out.2).mono ?_
    rintro e w6 ⟨rfl, b6⟩
    have HB6 := Lib.hid (HB5.out.trans (b6.mono HB5.out.size))
    have HN6 := Lib.hid (C.R.toBen.below HN5.out b6)
    have HD6 := Lib.hid (cj.below HD5.out b6)
    clear b6
    refine ⟨_, rfl, ?_⟩
    simp only [Act.put, aa, ac, ae]
    refine af rfl (ag rfl (ev rfl)) ?_
    simp only [Act.put, aa, ac, ae]
    refine af rfl (ax rfl (ev rfl) rfl) ?_
    simp only [Act.put, aa, ac, ae]
    refine af rfl (ax rfl (ev rfl) rfl) ?_
    simp only [Act.put, aa, ac, ae]
    refine af rfl (bK rfl) ?_
    simp only [Act.put, aa, ac, ae]
    refine av rfl (exec_fillR rfl (ev rfl) (ev rfl)) ?_
    simp only [Act.put, aa, ac, ae]
    have hx := (Below.refl w6.heap.size w6).alloc (Nat.le_refl _) (.cells (aC (neR i 4)).toArray 32)
    have HB7 := Lib.hid (HB6.out.trans (hx.mono HB6.out.size))
    have HN7 := Lib.hid (C.R.toBen.below HN6.out hx)
    have HD7 := Lib.hid (cj.below HD6.out hx)
    have HX7 := Lib.hid (a6.new w6 (neR i 4))
    clear hx
    obtain ⟨qx, hqx⟩ : ∃ qx, w6.heap.size = qx := ⟨_, rfl⟩
    rw [hqx] at HX7 ⊢
    clear hqx
    generalize w6.alloc (.cells (aC (neR i 4)).toArray 32) = w7 at *
    refine af rfl (aj rfl (ev rfl)) ?_
    simp only [Act.put, aa, ac, ae]
    refine wpList_nil ?_
    go_upto_region 11 with fail
    refine wp_region_lit ?_
    refine af rfl (ag rfl (ev rfl)) ?_
    simp only [Act.put, aa, ac, ae]
    refine af (v := .bool false) rfl (aE false rfl (ev rfl) evk rfl) ?_
    simp only [Act.put, aa, ac, ae]
    refine af (v := .bool false) rfl (ag rfl (ev rfl)) ?_
    simp only [Act.put, aa, ac, ae]
    refine ah (ai rfl rfl rfl rfl) (ag rfl (ev rfl)) ?_
    simp only [Act.put, aa, ac, ae]
    refine ah (v := .bool false) (ai rfl rfl rfl rfl) (aE false rfl (ev rfl) evk rfl) ?_
    simp only [Act.put, aa, ac, ae]
    refine af (v := .bool false) rfl (aI rfl (ev rfl) (ev rfl)) ?_
    simp only [Act.put, aa, ac, ae]
    refine af (v := .bool false) rfl (ag rfl (ev rfl)) ?_
    simp only [Act.put, aa, ac, ae]
    refine ah (ai rfl rfl rfl rfl) (ag rfl (ev rfl)) ?_
    simp only [Act.put, aa, ac, ae]
    refine ah (v := .bool false) (ai rfl rfl rfl rfl) (aE false rfl (ev rfl) evk rfl) ?_
    simp only [Act.put, aa, ac, ae]
    refine af (v := .bool false) rfl (aI rfl (ev rfl) (ev rfl)) ?_
    simp only [Act.put, aa, ac, ae]
    refine wpList_nil ?_
    go_upto_region 13 with fail
    refine wp_region_lit ?_
    refine af rfl (ag rfl (ev rfl)) ?_
    simp only [Act.put, aa, ac, ae]
    refine af rfl (aP rfl (ev rfl) HX7.out.range) ?_
    simp only [Act.put, aa, ac, ae]
    refine ak rfl (ap Tryz.call17 rfl (evc (ev rfl) (evc evk (evc evk (evc (ev rfl) evn))))) ?_
    refine (C.new_ 9 0 (neR i 4) (by omega) (by omega) HN7.out).mono ?_
    rintro e w8 ⟨b8, h8⟩
    obtain ⟨_, p, G, rfl, j8, g8⟩ | ⟨h8, _⟩ := h8
    rotate_left 1
    · exact absurd (HH.out.symm.trans h8) (by decide)
    have HB8 := Lib.hid (HB7.out.trans (b8.mono HB7.out.size))
    have HX8 := Lib.hid (HX7.out.below (aF HX7.out) b8)
    have HD8 := Lib.hid (cj.below HD7.out b8)
    have HJ8 := Lib.hid j8
    have HGG : Hid (∀ b, G b → w.heap.size ≤ b) := Lib.hid fun b hb => by
      rcases g8 b hb with e | e
      · exact HF3.out b e
      · exact Nat.le_trans HB7.out.size e
    clear b8 j8 g8
    refine ⟨_, rfl, ?_⟩
    simp only [Act.put, aa, ac, ae]
    refine af rfl (ag rfl (ev rfl)) ?_
    simp only [Act.put, aa, ac, ae]
    refine af rfl (ax rfl (ev rfl) rfl) ?_
    simp only [Act.put, aa, ac, ae]
    refine af rfl (ax rfl (ev rfl) rfl) ?_
    simp only [Act.put, aa, ac, ae]
    refine af rfl (aj rfl (ev rfl)) ?_
    simp only [Act.put, aa, ac, ae]
    refine af rfl (aj rfl (ev rfl)) ?_
    simp only [Act.put, aa, ac, ae]
    refine wpList_nil ?_
    go_upto_region 14 with fail
    refine wp_region_lit ?_
    refine af rfl (ag rfl (ev rfl)) ?_
    simp only [Act.put, aa, ac, ae]
    refine af rfl (aP rfl (ev rfl) HX8.out.range) ?_
    simp only [Act.put, aa, ac, ae]
    refine ak rfl (ap Tryz.call18 rfl (evc (ev rfl) (evc evk (evc evk (evc (ev rfl) evn))))) ?_
    refine (rhnew 9 0 (neR i 4) w8 HD8.out).mono ?_
    rintro e w9 ⟨b9, h9⟩
    obtain ⟨_, p2, rfl, j9, g9⟩ | ⟨h9, _⟩ := h9
    rotate_left 1
    · exact absurd (HH.out.symm.trans h9) (by decide)
    have HB9 := Lib.hid (HB8.out.trans (b9.mono HB8.out.size))
    have HJ9 := Lib.hid (C.below HJ8.out b9)
    have HP9 := Lib.hid j9
    have HPL : Hid (∀ b, b = p2 → ¬ G b ∧ b < w9.heap.size) := Lib.hid fun b e => ⟨fun hg => by subst e; have := C.lt HJ8.out b hg; omega, by subst e; exact aF j9⟩
    clear b9 j9 g9
    refine ⟨_, rfl, ?_⟩
    simp only [Act.put, aa, ac, ae]
    refine af rfl (ag rfl (ev rfl)) ?_
    simp only [Act.put, aa, ac, ae]
    refine af rfl (ax rfl (ev rfl) rfl) ?_
    simp only [Act.put, aa, ac, ae]
    refine af rfl (ax rfl (ev rfl) rfl) ?_
    simp only [Act.put, aa, ac, ae]
    refine af rfl (aj rfl (ev rfl)) ?_
    simp only [Act.put, aa, ac, ae]
    refine af rfl (aj rfl (ev rfl)) ?_
    simp only [Act.put, aa, ac, ae]
    refine wpList_nil ?_
    go_upto_region 15 with fail
    refine wp_region_lit ?_
    refine af rfl (ag rfl (ev rfl)) ?_
    simp only [Act.put, aa, ac, ae]
    refine af (v := .bool false) rfl (aE false rfl (ev rfl) evk rfl) ?_
    simp only [Act.put, aa, ac, ae]
    refine af (v := .bool false) rfl (ag rfl (ev rfl)) ?_
    simp only [Act.put, aa, ac, ae]
    refine ah (ai rfl rfl rfl rfl) (ag rfl (ev rfl)) ?_
    simp only [Act.put, aa, ac, ae]
    refine ah (v := .bool false) (ai rfl rfl rfl rfl) (aE false rfl (ev rfl) evk rfl) ?_
    simp only [Act.put, aa, ac, ae]
    refine af (v := .bool false) rfl (aI rfl (ev rfl) (ev rfl)) ?_
    simp only [Act.put, aa, ac, ae]
    refine wpList_nil ?_
    go_upto_region 17 with fail
    refine wp_region_lit ?_
    refine af rfl (ag rfl (ev rfl)) ?_
    simp only [Act.put, aa, ac, ae]
    refine af rfl (ag rfl (ev rfl)) ?_
    simp only [Act.put, aa, ac, ae]
    refine af rfl (ag rfl (ev rfl)) ?_
    simp only [Act.put, aa, ac, ae]
    refine af rfl (aj rfl (ev rfl)) ?_
    simp only [Act.put, aa, ac, ae]
    refine af rfl (aj rfl (ev rfl)) ?_
    simp only [Act.put, aa, ac, ae]
    refine af rfl (aj rfl (ev rfl)) ?_
    simp only [Act.put, aa, ac, ae]
    refine wpList_nil ?_
    go_wp2_with fail
    go_ret3
    exact ⟨p, q, p2, q5, rfl, ⟨G, HJ9.out, HGG.out, HB9.out, HBas.start HT.out, HPL.out⟩, HP9.out⟩
def lvL : List Blk := [ao.set 0 1, ao.set 0 2, ao.set 0 3]
theorem lvL_f : fold lvL = ao := by decide +kernel
theorem bldF (i : Nat) (hi : i < 3) (w : World) : (Instr.build 38 #[(0, .int .u8 ((i + 1 : Nat) : Int))]).run Tryz.prog w = .ok (blk (lvL.getD i ao)) w := by
  rcases (show i = 0 ∨ i = 1 ∨ i = 2 by omega) with rfl | rfl | rfl <;> kernel_rfl
theorem bldF2 (w : World) : (Instr.build 38 #[(0, .int .u8 2)]).run Tryz.prog w = .ok (blk (lvL.getD 1 ao)) w := by kernel_rfl
theorem bldPl1 (m : Int) (w : World) : (Instr.build 43 #[(1, .int .i64 m)]).run Tryz.prog w = .ok (.agg #[.int .i64 0, .int .i64 m]) w := by kernel_rfl
theorem exec_bldPl1 {ρ : Operand → Value} {o : Oper} {x : Operand} {w : World} {m : Int} (ho : o.op = .build 43 #[(1, x)]) (hx : ρ x = .int .i64 m) : (execOp ρ o).run Tryz.prog w = .ok (.value (.agg #[.int .i64 0, .int .i64 m])) w := by
  unfold execOp
  simp [ho, hx, bldPl1, Result.andThen]
theorem exec_cvI8 {ρ : Operand → Value} {o : Oper} {x : Operand} {w : World} {n : Nat} (ho : o.op = .convert 3 5 x) (hx : ρ x = .int .i64 (n : Int)) (hn : n < 256) : (execOp ρ o).run Tryz.prog w = .ok (.value (.int .u8 (n : Int))) w := by
  have h : IntKind.u8.wrap (n : Int) = (n : Int) := by rw [IntKind.wrap_u8]; exact Int.emod_eq_of_lt (by omega) (by omega)
  have hc : (convert 3 5 (.int .i64 (n : Int))).run Tryz.prog w = .ok (.int .u8 (n : Int)) w := by simp [convert, go_sem, h]
  unfold execOp
  simp only [ho, hx, Sem.run_bind, hc, Result.andThen_ok, Sem.run_pure]
set_option maxHeartbeats 4000000 in
theorem flives (C : HulI) (D : FetI C) (w : World) (T : Tab w) : Calls Tryz.prog 12 #[] w fun e w' => e = .returned (.bool true) ∧ Below w.heap.size w w' := by
  have HT := Lib.hid T
  have HL3 : Hid (lvL.length = 3) := Lib.hid rfl
  clear T
  go_enter Tryz.func12, Tryz.ntmps12
  go_upto_region 1 with fail
  refine wp_region_lit ?_
  refine ak rfl (ap Tryz.call5 rfl (evc evk evn)) ?_
  refine (l_both19 C 0 3 w HT.out (by omega) rfl).mono ?_
  rintro e w1 ⟨p, q, p2, q2, rfl, a1, _⟩
  have HA1 := Lib.hid a1
  clear a1
  refine ⟨_, rfl, ?_⟩
  simp only [Act.put, aa, ac, ae]
  refine af rfl (ag rfl (ev rfl)) ?_
  simp only [Act.put, aa, ac, ae]
  refine af rfl (ax rfl (ev rfl) rfl) ?_
  simp only [Act.put, aa, ac, ae]
  refine af rfl (ax rfl (ev rfl) rfl) ?_
  simp only [Act.put, aa, ac, ae]
  refine af rfl (ax rfl (ev rfl) rfl) ?_
  simp only [Act.put, aa, ac, ae]
  refine af rfl (aj rfl (ev rfl)) ?_
  simp only [Act.put, aa, ac, ae]
  refine af rfl (aj rfl (ev rfl)) ?_
  simp only [Act.put, aa, ac, ae]
  refine af rfl (aj rfl (ev rfl)) ?_
  simp only [Act.put, aa, ac, ae]
  refine wpList_nil ?_
  go_upto_region 2 with fail
  refine wp_region_lit ?_
  refine af rfl (ag rfl (ev rfl)) ?_
  simp only [Act.put, aa, ac, ae]
  refine af (v := .bool false) rfl (dG false Tryz.underlying23 rfl (ev rfl) evk rfl) ?_
  simp only [Act.put, aa, ac, ae]
  refine wpList_nil ?_
  go_wp2_with fail
  go_loopw [4] (fun z wr => ∃ (i : Nat) (h : HuS), z = .int .i64 i ∧ i ≤ 3 ∧ HAt C w w.heap.size (fun b => b = p2) wr q p h ∧ Fws 3 4 0 lvL i h) (fun z _ => 3 - (intOf z).toNat)
  case atStart => exact ⟨0, _, by go_num, Nat.zero_le _, HA1.out, fws_new 3 4 0 lvL⟩
  case round =>
    obtain ⟨i, h, rfl, hi, ha, hf⟩ := hrel
    have HAi := Lib.hid ha
    clear ha
    by_cases hlt : i < 3
    · have HI := Lib.hid hlt
      have HLT : Hid (decide ((i : Int) < 3) = true) := Lib.hid (decide_eq_true (by omega))
      have HIA : Hid (IntKind.i64.wrap ((i : Int) + 1) = ((i + 1 : Nat) : Int)) := Lib.hid (by rw [i64q_ ⟨by omega, by omega⟩]; omega)
      have HI8 : Hid (i + 1 < 256) := Lib.hid (by omega)
      obtain ⟨e1, f1, r1⟩ := fws_wr (s := 0) rosC4 (Nat.le_refl 3) (by omega) (by omega) hf hlt (by rw [HL3.out]; exact hlt)
      have HWR := Lib.hid e1
      have HFW := Lib.hid f1
      have HRM := Lib.hid r1
      clear hi hlt hf e1 f1 r1
      go_upto_region 5 with fail
      refine wp_region_lit ?_
      refine af rfl (ag rfl (ev rfl)) ?_
      simp only [Act.put, aa, ac, ae]
      refine af (v := .bool true) rfl (bu true rfl (ev rfl) evk HLT.out) ?_
      simp only [Act.put, aa, ac, ae]
      refine wpList_nil ?_
      go_upto_region 7 with fail
      refine wp_region_lit ?_
      refine af rfl (ag rfl (ev rfl)) ?_
      simp only [Act.put, aa, ac, ae]
      refine af rfl (ag rfl (ev rfl)) ?_
      simp only [Act.put, aa, ac, ae]
      refine af rfl (exec_bldPl1 rfl (ev rfl)) ?_
      simp only [Act.put, aa, ac, ae]
      refine af rfl (ag rfl (ev rfl)) ?_
      simp only [Act.put, aa, ac, ae]
      refine af rfl (bD rfl (ev rfl) evk HIA.out) ?_
      simp only [Act.put, aa, ac, ae]
      refine af rfl (exec_cvI8 rfl (ev rfl) HI8.out) ?_
      simp only [Act.put, aa, ac, ae]
      refine af rfl (exec_bld1 rfl (ev rfl) (bldF i HI.out _)) ?_
      simp only [Act.put, aa, ac, ae]
      refine ak rfl (ap Tryz.call7 rfl (evc (ev rfl) (evc (ev rfl) (evc (ev rfl) evn)))) ?_
      refine (HAi.out.write 0 (i : Int) (lvL.getD i ao) HRM.out.1 HRM.out.2 (hwrK_is HWR.out (by decide) (by decide))).mono ?_
      rintro e w2 ⟨rfl, a2, _⟩
      have HA2 := Lib.hid a2
      clear a2
      rw [show hwrE h 0 (i : Int) (lvL.getD i ao) = 0 from HWR.out]
      refine ⟨_, rfl, ?_⟩
      simp only [Act.put, aa, ac, ae]
      refine af (v := .bool false) rfl (aE false rfl (ev rfl) evk rfl) ?_
      simp only [Act.put, aa, ac, ae]
      refine wpList_nil ?_
      go_upto_region 6 with fail
      refine wp_region_lit ?_
      refine af rfl (ag rfl (ev rfl)) ?_
      simp only [Act.put, aa, ac, ae]
      refine af rfl (bD rfl (ev rfl) evk HIA.out) ?_
      simp only [Act.put, aa, ac, ae]
      refine af rfl (aj rfl (ev rfl)) ?_
      simp only [Act.put, aa, ac, ae]
      refine wpList_nil ?_
      go_wp2_with fail
      go_roundw
      case rel => exact ⟨i + 1, _, by go_num, HI.out, HA2.out, HFW.out⟩
      case measure => have := HI.out; simp [intOf]; omega
    have hin : i = 3 := by omega
    subst hin
    have HLT : Hid (decide (((3 : Nat) : Int) < 3) = false) := Lib.hid (decide_eq_false (by omega))
    obtain ⟨h2, M4, ⟨s1, s2⟩, ⟨f1, f2⟩, ⟨c1, c2⟩, ⟨t1, t2⟩, ⟨g1, g2⟩, d1, d2⟩ := lvF lvL rfl lvL_f hf
    have S1 := Lib.hid (And.intro s1 s2)
    have F1 := Lib.hid (And.intro f1 f2)
    have C1 := Lib.hid (And.intro c1 c2)
    have T1 := Lib.hid (And.intro t1 t2)
    have G1 := Lib.hid (And.intro g1 g2)
    have D1 := Lib.hid (And.intro d1 d2)
    clear hi hlt hf s1 s2 f1 f2 c1 c2 t1 t2 g1 g2 d1 d2
    go_upto_region 5 with fail
    refine wp_region_lit ?_
    refine af rfl (ag rfl (ev rfl)) ?_
    simp only [Act.put, aa, ac, ae]
    refine af (v := .bool false) rfl (bu false rfl (ev rfl) evk HLT.out) ?_
    simp only [Act.put, aa, ac, ae]
    refine wpList_nil ?_
    have HA2 := Lib.hid HAi.out
    go_upto_region 9 with fail
    refine wp_region_lit ?_
    refine af rfl (ag rfl (ev rfl)) ?_
    simp only [Act.put, aa, ac, ae]
    refine ak rfl (ap Tryz.call8 rfl (evc (ev rfl) (evc evk evn))) ?_
    refine (HAt.sound D 0 HA2.out S1.out.2 S1.out.1).mono ?_
    rintro e w3 ⟨rfl, a3, k3⟩
    have HA3 := Lib.hid a3
    clear a3 k3
    refine ⟨_, rfl, ?_⟩
    simp only [Act.put, aa, ac, ae]
    refine af rfl (ag rfl (ev rfl)) ?_
    simp only [Act.put, aa, ac, ae]
    refine af rfl (ax rfl (ev rfl) rfl) ?_
    simp only [Act.put, aa, ac, ae]
    refine af rfl (ax rfl (ev rfl) rfl) ?_
    simp only [Act.put, aa, ac, ae]
    refine af rfl (aj rfl (ev rfl)) ?_
    simp only [Act.put, aa, ac, ae]
    refine af rfl (aj rfl (ev rfl)) ?_
    simp only [Act.put, aa, ac, ae]
    refine wpList_nil ?_
    go_upto_region 10 with fail
    refine wp_region_lit ?_
    refine af rfl (ag rfl (ev rfl)) ?_
    simp only [Act.put, aa, ac, ae]
    refine ak rfl (ap Tryz.call9 rfl (evc (ev rfl) (evc evk evn))) ?_
    refine (HA3.out.ben fun hb => C.R.fail 1 hb).mono ?_
    rintro e w4 ⟨rfl, a4, k4⟩
    have HA4 := Lib.hid a4
    clear a4 k4
    rw [show hasE (h).M 1 = 0 from F1.out.1]
    refine ⟨_, rfl, ?_⟩
    simp only [Act.put, aa, ac, ae]
    refine wpList_nil ?_
    go_upto_region 11 with fail
    refine wp_region_lit ?_
    refine af rfl (ag rfl (ev rfl)) ?_
    simp only [Act.put, aa, ac, ae]
    refine af rfl (exec_bldPl1 rfl evk) ?_
    simp only [Act.put, aa, ac, ae]
    refine ak rfl (ap Tryz.call13 rfl (evc (ev rfl) (evc (ev rfl) evn))) ?_
    refine (HAt.cell D 0 1 HA4.out C1.out.2 C1.out.1).mono ?_
    rintro e w5 ⟨rfl, a5, k5⟩
    have HA5 := Lib.hid a5
    clear a5 k5
    refine ⟨_, rfl, ?_⟩
    simp only [Act.put, aa, ac, ae]
    refine af rfl (ag rfl (ev rfl)) ?_
    simp only [Act.put, aa, ac, ae]
    refine af rfl (ax rfl (ev rfl) rfl) ?_
    simp only [Act.put, aa, ac, ae]
    refine af rfl (ax rfl (ev rfl) rfl) ?_
    simp only [Act.put, aa, ac, ae]
    refine af rfl (aR rfl) ?_
    simp only [Act.put, aa, ac, ae]
    refine av rfl (cB (c := lvL.getD 1 ao) rfl (ev rfl) (ev rfl)) ?_
    simp only [Act.put, aa, ac, ae]
    have hx := (Below.refl w5.heap.size w5).alloc (Nat.le_refl _) (.cells (cel (lvL.getD 1 ao)).toArray 38)
    have HQ6 := Lib.hid (heap_alloc_new w5 (.cells (cel (lvL.getD 1 ao)).toArray 38))
    have HA6 := Lib.hid (HAt.guard (K' := fun b => b = w5.heap.size) HA5.out hx fun b e => .inr (by subst e; rw [World.size_alloc]; omega))
    clear hx
    obtain ⟨b6, hb6⟩ : ∃ b6, w5.heap.size = b6 := ⟨_, rfl⟩
    rw [hb6] at HQ6 HA6 ⊢
    clear hb6
    generalize w5.alloc (.cells (cel (lvL.getD 1 ao)).toArray 38) = w6 at *
    refine af rfl (aj rfl (ev rfl)) ?_
    simp only [Act.put, aa, ac, ae]
    refine wpList_nil ?_
    go_upto_region 12 with fail
    refine wp_region_lit ?_
    refine af rfl (ag rfl (ev rfl)) ?_
    simp only [Act.put, aa, ac, ae]
    refine ak rfl (ap Tryz.call8 rfl (evc (ev rfl) (evc evk evn))) ?_
    refine (HAt.sound D 0 HA6.out T1.out.2 T1.out.1).mono ?_
    rintro e w7 ⟨rfl, a7, k7⟩
    have HA7 := Lib.hid a7
    have HQ7 := Lib.hid ((k7 b6 rfl).trans HQ6.out)
    clear a7 k7
    refine ⟨_, rfl, ?_⟩
    simp only [Act.put, aa, ac, ae]
    refine af rfl (ag rfl (ev rfl)) ?_
    simp only [Act.put, aa, ac, ae]
    refine af rfl (ax rfl (ev rfl) rfl) ?_
    simp only [Act.put, aa, ac, ae]
    refine af rfl (ax rfl (ev rfl) rfl) ?_
    simp only [Act.put, aa, ac, ae]
    refine af rfl (aj rfl (ev rfl)) ?_
    simp only [Act.put, aa, ac, ae]
    refine af rfl (aj rfl (ev rfl)) ?_
    simp only [Act.put, aa, ac, ae]
    refine wpList_nil ?_
    go_upto_region 13 with fail
    refine wp_region_lit ?_
    refine af rfl (ag rfl (ev rfl)) ?_
    simp only [Act.put, aa, ac, ae]
    refine ak rfl (ap Tryz.call9 rfl (evc (ev rfl) (evc evk evn))) ?_
    refine (HA7.out.ben fun hb => C.R.fail 0 hb).mono ?_
    rintro e w8 ⟨rfl, a8, k8⟩
    have HA8 := Lib.hid a8
    have HQ8 := Lib.hid ((k8 b6 rfl).trans HQ7.out)
    clear a8 k8
    rw [show hasE (h2).M 0 = 0 from G1.out.1]
    refine ⟨_, rfl, ?_⟩
    simp only [Act.put, aa, ac, ae]
    refine wpList_nil ?_
    go_upto_region 14 with fail
    refine wp_region_lit ?_
    refine af rfl (ag rfl (ev rfl)) ?_
    simp only [Act.put, aa, ac, ae]
    refine af rfl (exec_bldPl1 rfl evk) ?_
    simp only [Act.put, aa, ac, ae]
    refine ak rfl (ap Tryz.call13 rfl (evc (ev rfl) (evc (ev rfl) evn))) ?_
    refine (HAt.cell D 0 1 HA8.out D1.out.2 D1.out.1).mono ?_
    rintro e w9 ⟨rfl, a9, k9⟩
    have HA9 := Lib.hid a9
    have HQ9 := Lib.hid ((k9 b6 rfl).trans HQ8.out)
    clear a9 k9
    refine ⟨_, rfl, ?_⟩
    simp only [Act.put, aa, ac, ae]
    refine af rfl (ag rfl (ev rfl)) ?_
    simp only [Act.put, aa, ac, ae]
    refine af rfl (ax rfl (ev rfl) rfl) ?_
    simp only [Act.put, aa, ac, ae]
    refine af rfl (ax rfl (ev rfl) rfl) ?_
    simp only [Act.put, aa, ac, ae]
    refine af rfl (aR rfl) ?_
    simp only [Act.put, aa, ac, ae]
    refine av rfl (cB (c := ao) rfl (ev rfl) (ev rfl)) ?_
    simp only [Act.put, aa, ac, ae]
    have hx := (Below.refl w9.heap.size w9).alloc (Nat.le_refl _) (.cells (cel ao).toArray 38)
    have HQ10 := Lib.hid (am HQ9.out hx)
    have HA10 := Lib.hid (HAt.below HA9.out hx)
    clear hx
    generalize w9.alloc (.cells (cel ao).toArray 38) = w10 at *
    refine af rfl (aj rfl (ev rfl)) ?_
    simp only [Act.put, aa, ac, ae]
    refine wpList_nil ?_
    go_upto_region 15 with fail
    refine wp_region_lit ?_
    refine af (v := .bool true) rfl (ag rfl (ev rfl)) ?_
    simp only [Act.put, aa, ac, ae]
    refine af (v := .bool true) rfl (ag rfl (ev rfl)) ?_
    simp only [Act.put, aa, ac, ae]
    refine ah (ai rfl rfl rfl rfl) (ag rfl (ev rfl)) ?_
    simp only [Act.put, aa, ac, ae]
    refine ah (v := .bool true) (ai rfl rfl rfl rfl) (ar true rfl (ev rfl) evk rfl) ?_
    simp only [Act.put, aa, ac, ae]
    refine af (v := .bool true) rfl (aK rfl (ev rfl) (ev rfl)) ?_
    simp only [Act.put, aa, ac, ae]
    refine af (v := .bool true) rfl (ag rfl (ev rfl)) ?_
    simp only [Act.put, aa, ac, ae]
    refine ah (ai rfl rfl rfl rfl) (aV rfl (ev rfl) (aN HQ10.out)) ?_
    simp only [Act.put, aa, ac, ae]
    refine ah (ai rfl rfl rfl rfl) (exec_bld1 rfl evk (bldF2 _)) ?_
    simp only [Act.put, aa, ac, ae]
    refine ah (v := .bool true) (ai rfl rfl rfl rfl) (exec_eqlB true rfl (ev rfl) (ev rfl) (decide_eq_true rfl)) ?_
    simp only [Act.put, aa, ac, ae]
    refine af (v := .bool true) rfl (aK rfl (ev rfl) (ev rfl)) ?_
    simp only [Act.put, aa, ac, ae]
    refine af (v := .bool true) rfl (ag rfl (ev rfl)) ?_
    simp only [Act.put, aa, ac, ae]
    refine ah (ai rfl rfl rfl rfl) (ag rfl (ev rfl)) ?_
    simp only [Act.put, aa, ac, ae]
    refine ah (v := .bool true) (ai rfl rfl rfl rfl) (ar true rfl (ev rfl) evk rfl) ?_
    simp only [Act.put, aa, ac, ae]
    refine af (v := .bool true) rfl (aK rfl (ev rfl) (ev rfl)) ?_
    simp only [Act.put, aa, ac, ae]
    refine af (v := .bool true) rfl (ag rfl (ev rfl)) ?_
    simp only [Act.put, aa, ac, ae]
    refine ah (ai rfl rfl rfl rfl) (ag rfl (ev rfl)) ?_
    simp only [Act.put, aa, ac, ae]
    refine ah (v := .bool true) (ai rfl rfl rfl rfl) (ar true rfl (ev rfl) evk rfl) ?_
    simp only [Act.put, aa, ac, ae]
    refine af (v := .bool true) rfl (aK rfl (ev rfl) (ev rfl)) ?_
    simp only [Act.put, aa, ac, ae]
    refine af (v := .bool true) rfl (ag rfl (ev rfl)) ?_
    simp only [Act.put, aa, ac, ae]
    refine ah (ai rfl rfl rfl rfl) (ag rfl (ev rfl)) ?_
    simp only [Act.put, aa, ac, ae]
    refine ah (v := .bool true) (ai rfl rfl rfl rfl) (ar true rfl (ev rfl) evk rfl) ?_
    simp only [Act.put, aa, ac, ae]
    refine af (v := .bool true) rfl (aK rfl (ev rfl) (ev rfl)) ?_
    simp only [Act.put, aa, ac, ae]
    refine af (v := .bool true) rfl (aj rfl (ev rfl)) ?_
    simp only [Act.put, aa, ac, ae]
    refine wpList_nil ?_
    go_wp2_with fail
    go_ret
    exact ⟨rfl, HA10.out.bel⟩
theorem faPc0 {b : Nat} {w : World} : (Instr.fieldAt 43 (.pointer (some ⟨b, 0, none⟩)) 0).run Tryz.prog w = .ok (.pointer (some ⟨b, 0, none⟩)) w := by kernel_rfl
set_option maxHeartbeats 4000000 in
theorem wfetchNil (C : HulI) (D : FetI C) (s m : Int) (z : Bool) (w : World) (T : Tab w) : Calls Tryz.prog 4 #[.agg #[.int .i64 s, .int .i64 m], .bool z] w fun e w' => e = .returned (.bool true) ∧ Below w.heap.size w w' := by
  have HB0 : Hid (Below w.heap.size w w) := Lib.hid (Below.refl _ _)
  have HT := Lib.hid T
  clear T
  go_enter Tryz.func4, Tryz.ntmps4
  go_upto_region 0 with fail
  refine wp_region_lit ?_
  refine af rfl (bS (cs := ([.int .i64 s, .int .i64 m] : List Value)) rfl (ev rfl)) ?_
  simp only [Act.put, aa, ac, ae]
  have hbx := (Below.refl w.heap.size w).alloc (Nat.le_refl _) (.cells ([.int .i64 s, .int .i64 m] : List Value).toArray 43)
  have HB2 := Lib.hid (HB0.out.trans (hbx.mono HB0.out.size))
  have P2 := Lib.hid (heap_alloc_new w (.cells ([.int .i64 s, .int .i64 m] : List Value).toArray 43))
  clear hbx
  generalize w.alloc (.cells ([.int .i64 s, .int .i64 m] : List Value).toArray 43) = w2 at *
  refine af (v := .bool false) rfl (aj rfl evk) ?_
  simp only [Act.put, aa, ac, ae]
  refine wpList_nil ?_
  go_upto_region 1 with fail
  refine wp_region_lit ?_
  refine af rfl (aj rfl evk) ?_
  simp only [Act.put, aa, ac, ae]
  refine wpList_nil ?_
  cases z
  · go_upto_region 2 with fail
    refine wp_region_lit ?_
    refine af (v := .bool false) rfl (ag rfl (ev rfl)) ?_
    simp only [Act.put, aa, ac, ae]
    refine wpList_nil ?_
    obtain ⟨w3, hw3⟩ : ∃ w3, w2 = w3 := ⟨_, rfl⟩
    have HB3 := HB2
    have P3 := P2
    rw [hw3] at HB3 P3
    have HN3 := Lib.hid (C.no_nil w3)
    rw [hw3]
    go_upto_region 4 with fail
    refine wp_region_lit ?_
    refine af rfl (ag rfl (ev rfl)) ?_
    simp only [Act.put, aa, ac, ae]
    refine af rfl (bF (cs := ([.int .i64 s, .int .i64 m] : List Value)) Tryz.underlying43 rfl (by kernel_rfl) rfl (ev rfl) (aN P3.out)) ?_
    simp only [Act.put, aa, ac, ae]
    refine ak rfl (ap Tryz.call13 rfl (evc (ev rfl) (evc (ev rfl) evn))) ?_
    refine (D.no_cell w3 _ s m HN3.out).mono ?_
    rintro e w4 ⟨⟨y, rfl⟩, b3⟩
    have HB4 := Lib.hid (HB3.out.trans (b3.mono HB3.out.size))
    have P4 := Lib.hid (am P3.out b3)
    have HN4 := Lib.hid (C.no_below HN3.out b3)
    clear b3
    refine ⟨_, rfl, ?_⟩
    simp only [Act.put, aa, ac, ae]
    refine af rfl (ag rfl (ev rfl)) ?_
    simp only [Act.put, aa, ac, ae]
    refine af rfl (ax rfl (ev rfl) rfl) ?_
    simp only [Act.put, aa, ac, ae]
    refine af rfl (ax rfl (ev rfl) rfl) ?_
    simp only [Act.put, aa, ac, ae]
    refine af rfl (aR rfl) ?_
    simp only [Act.put, aa, ac, ae]
    refine av rfl (cB (c := y) rfl (ev rfl) (ev rfl)) ?_
    simp only [Act.put, aa, ac, ae]
    have hbx := (Below.refl w4.heap.size w4).alloc (Nat.le_refl _) (.cells (cel y).toArray 38)
    have HB5 := Lib.hid (HB4.out.trans (hbx.mono HB4.out.size))
    have P5 := Lib.hid (am P4.out hbx)
    have HN5 := Lib.hid (C.no_below HN4.out hbx)
    clear hbx
    generalize w4.alloc (.cells (cel y).toArray 38) = w5 at *
    refine af rfl (aj rfl (ev rfl)) ?_
    simp only [Act.put, aa, ac, ae]
    refine wpList_nil ?_
    go_upto_region 5 with fail
    refine wp_region_lit ?_
    refine af rfl (ag rfl (ev rfl)) ?_
    simp only [Act.put, aa, ac, ae]
    refine af rfl (al rfl (ev rfl) faPc0) ?_
    simp only [Act.put, aa, ac, ae]
    refine af rfl (au rfl (ev rfl) (bq (k := s) ((aN P5.out) 0 _ rfl))) ?_
    simp only [Act.put, aa, ac, ae]
    refine ak rfl (ap Tryz.call10 rfl (evc (ev rfl) (evc (ev rfl) evn))) ?_
    refine (D.no_stripe w5 _ s HN5.out).mono ?_
    rintro e w6 ⟨rfl, b3⟩
    have HB6 := Lib.hid (HB5.out.trans (b3.mono HB5.out.size))
    have P6 := Lib.hid (am P5.out b3)
    have HN6 := Lib.hid (C.no_below HN5.out b3)
    clear b3
    refine ⟨_, rfl, ?_⟩
    simp only [Act.put, aa, ac, ae]
    refine af rfl (ag rfl (ev rfl)) ?_
    simp only [Act.put, aa, ac, ae]
    refine af rfl (ax rfl (ev rfl) rfl) ?_
    simp only [Act.put, aa, ac, ae]
    refine af rfl (ax rfl (ev rfl) rfl) ?_
    simp only [Act.put, aa, ac, ae]
    refine af rfl (aj rfl (ev rfl)) ?_
    simp only [Act.put, aa, ac, ae]
    refine af rfl (aj rfl (ev rfl)) ?_
    simp only [Act.put, aa, ac, ae]
    refine wpList_nil ?_
    go_upto_region 6 with fail
    refine wp_region_lit ?_
    refine af rfl (ag rfl (ev rfl)) ?_
    simp only [Act.put, aa, ac, ae]
    refine af rfl (al rfl (ev rfl) faPc0) ?_
    simp only [Act.put, aa, ac, ae]
    refine af rfl (au rfl (ev rfl) (bq (k := s) ((aN P6.out) 0 _ rfl))) ?_
    simp only [Act.put, aa, ac, ae]
    refine ak rfl (ap Tryz.call8 rfl (evc (ev rfl) (evc (ev rfl) evn))) ?_
    refine (D.no_sound w6 _ s HN6.out).mono ?_
    rintro e w7 ⟨rfl, b3⟩
    have HB7 := Lib.hid (HB6.out.trans (b3.mono HB6.out.size))
    have P7 := Lib.hid (am P6.out b3)
    have HN7 := Lib.hid (C.no_below HN6.out b3)
    clear b3
    refine ⟨_, rfl, ?_⟩
    simp only [Act.put, aa, ac, ae]
    refine af rfl (ag rfl (ev rfl)) ?_
    simp only [Act.put, aa, ac, ae]
    refine af rfl (ax rfl (ev rfl) rfl) ?_
    simp only [Act.put, aa, ac, ae]
    refine af rfl (ax rfl (ev rfl) rfl) ?_
    simp only [Act.put, aa, ac, ae]
    refine af rfl (aj rfl (ev rfl)) ?_
    simp only [Act.put, aa, ac, ae]
    refine af rfl (aj rfl (ev rfl)) ?_
    simp only [Act.put, aa, ac, ae]
    refine wpList_nil ?_
    go_upto_region 7 with fail
    refine wp_region_lit ?_
    refine af rfl (ag rfl (ev rfl)) ?_
    simp only [Act.put, aa, ac, ae]
    refine af (v := .bool true) rfl (ar true rfl (ev rfl) evk rfl) ?_
    simp only [Act.put, aa, ac, ae]
    refine af (v := .bool true) rfl (ag rfl (ev rfl)) ?_
    simp only [Act.put, aa, ac, ae]
    refine ah (ai rfl rfl rfl rfl) (ag rfl (ev rfl)) ?_
    simp only [Act.put, aa, ac, ae]
    refine ah (v := .bool true) (ai rfl rfl rfl rfl) (ar true rfl (ev rfl) evk rfl) ?_
    simp only [Act.put, aa, ac, ae]
    refine af (v := .bool true) rfl (aK rfl (ev rfl) (ev rfl)) ?_
    simp only [Act.put, aa, ac, ae]
    refine af (v := .bool true) rfl (ag rfl (ev rfl)) ?_
    simp only [Act.put, aa, ac, ae]
    refine ah (ai rfl rfl rfl rfl) (ag rfl (ev rfl)) ?_
    simp only [Act.put, aa, ac, ae]
    refine ah (v := .bool true) (ai rfl rfl rfl rfl) (ar true rfl (ev rfl) evk rfl) ?_
    simp only [Act.put, aa, ac, ae]
    refine af (v := .bool true) rfl (aK rfl (ev rfl) (ev rfl)) ?_
    simp only [Act.put, aa, ac, ae]
    refine af (v := .bool true) rfl (ag rfl (ev rfl)) ?_
    simp only [Act.put, aa, ac, ae]
    refine ak (ai rfl rfl rfl rfl) (ap Tryz.call12 rfl evn) ?_
    refine (flives C D w7 (fun i hi => (World.cell?_of_block (w := w) (HB7.out.block _ (HBas.start HT.out).lo)).trans (HT.out i hi))).mono ?_
    rintro e wz ⟨rfl, b9⟩
    have HZ := Lib.hid (HB7.out.trans (b9.mono HB7.out.size))
    clear b9
    refine ⟨_, rfl, ?_⟩
    simp only [Act.put, aa, ac, ae]
    refine af (v := .bool true) rfl (aK rfl (ev rfl) (ev rfl)) ?_
    simp only [Act.put, aa, ac, ae]
    refine af (v := .bool true) rfl (aj rfl (ev rfl)) ?_
    simp only [Act.put, aa, ac, ae]
    refine wpList_nil ?_
    go_wp2_with fail
    go_ret
    exact ⟨rfl, HZ.out⟩
  · go_upto_region 2 with fail
    refine wp_region_lit ?_
    refine af (v := .bool true) rfl (ag rfl (ev rfl)) ?_
    simp only [Act.put, aa, ac, ae]
    refine wpList_nil ?_
    go_upto_region 3 with fail
    refine wp_region_lit ?_
    refine af rfl (exec_bld0 rfl (C.bld0 _)) ?_
    simp only [Act.put, aa, ac, ae]
    refine af rfl (bS (cs := C.zc) rfl (ev rfl)) ?_
    simp only [Act.put, aa, ac, ae]
    have hbx := (Below.refl w2.heap.size w2).alloc (Nat.le_refl _) (.cells C.zc.toArray 53)
    have HN3 := Lib.hid (C.no_zero w2)
    have HB3 := Lib.hid (HB2.out.trans (hbx.mono HB2.out.size))
    have P3 := Lib.hid (am P2.out hbx)
    clear hbx
    generalize w2.alloc (.cells C.zc.toArray 53) = w3 at *
    refine af rfl (aj rfl (ev rfl)) ?_
    simp only [Act.put, aa, ac, ae]
    refine wpList_nil ?_
    go_upto_region 4 with fail
    refine wp_region_lit ?_
    refine af rfl (ag rfl (ev rfl)) ?_
    simp only [Act.put, aa, ac, ae]
    refine af rfl (bF (cs := ([.int .i64 s, .int .i64 m] : List Value)) Tryz.underlying43 rfl (by kernel_rfl) rfl (ev rfl) (aN P3.out)) ?_
    simp only [Act.put, aa, ac, ae]
    refine ak rfl (ap Tryz.call13 rfl (evc (ev rfl) (evc (ev rfl) evn))) ?_
    refine (D.no_cell w3 _ s m HN3.out).mono ?_
    rintro e w4 ⟨⟨y, rfl⟩, b3⟩
    have HB4 := Lib.hid (HB3.out.trans (b3.mono HB3.out.size))
    have P4 := Lib.hid (am P3.out b3)
    have HN4 := Lib.hid (C.no_below HN3.out b3)
    clear b3
    refine ⟨_, rfl, ?_⟩
    simp only [Act.put, aa, ac, ae]
    refine af rfl (ag rfl (ev rfl)) ?_
    simp only [Act.put, aa, ac, ae]
    refine af rfl (ax rfl (ev rfl) rfl) ?_
    simp only [Act.put, aa, ac, ae]
    refine af rfl (ax rfl (ev rfl) rfl) ?_
    simp only [Act.put, aa, ac, ae]
    refine af rfl (aR rfl) ?_
    simp only [Act.put, aa, ac, ae]
    refine av rfl (cB (c := y) rfl (ev rfl) (ev rfl)) ?_
    simp only [Act.put, aa, ac, ae]
    have hbx := (Below.refl w4.heap.size w4).alloc (Nat.le_refl _) (.cells (cel y).toArray 38)
    have HB5 := Lib.hid (HB4.out.trans (hbx.mono HB4.out.size))
    have P5 := Lib.hid (am P4.out hbx)
    have HN5 := Lib.hid (C.no_below HN4.out hbx)
    clear hbx
    generalize w4.alloc (.cells (cel y).toArray 38) = w5 at *
    refine af rfl (aj rfl (ev rfl)) ?_
    simp only [Act.put, aa, ac, ae]
    refine wpList_nil ?_
    go_upto_region 5 with fail
    refine wp_region_lit ?_
    refine af rfl (ag rfl (ev rfl)) ?_
    simp only [Act.put, aa, ac, ae]
    refine af rfl (al rfl (ev rfl) faPc0) ?_
    simp only [Act.put, aa, ac, ae]
    refine af rfl (au rfl (ev rfl) (bq (k := s) ((aN P5.out) 0 _ rfl))) ?_
    simp only [Act.put, aa, ac, ae]
    refine ak rfl (ap Tryz.call10 rfl (evc (ev rfl) (evc (ev rfl) evn))) ?_
    refine (D.no_stripe w5 _ s HN5.out).mono ?_
    rintro e w6 ⟨rfl, b3⟩
    have HB6 := Lib.hid (HB5.out.trans (b3.mono HB5.out.size))
    have P6 := Lib.hid (am P5.out b3)
    have HN6 := Lib.hid (C.no_below HN5.out b3)
    clear b3
    refine ⟨_, rfl, ?_⟩
    simp only [Act.put, aa, ac, ae]
    refine af rfl (ag rfl (ev rfl)) ?_
    simp only [Act.put, aa, ac, ae]
    refine af rfl (ax rfl (ev rfl) rfl) ?_
    simp only [Act.put, aa, ac, ae]
    refine af rfl (ax rfl (ev rfl) rfl) ?_
    simp only [Act.put, aa, ac, ae]
    refine af rfl (aj rfl (ev rfl)) ?_
    simp only [Act.put, aa, ac, ae]
    refine af rfl (aj rfl (ev rfl)) ?_
    simp only [Act.put, aa, ac, ae]
    refine wpList_nil ?_
    go_upto_region 6 with fail
    refine wp_region_lit ?_
    refine af rfl (ag rfl (ev rfl)) ?_
    simp only [Act.put, aa, ac, ae]
    refine af rfl (al rfl (ev rfl) faPc0) ?_
    simp only [Act.put, aa, ac, ae]
    refine af rfl (au rfl (ev rfl) (bq (k := s) ((aN P6.out) 0 _ rfl))) ?_
    simp only [Act.put, aa, ac, ae]
    refine ak rfl (ap Tryz.call8 rfl (evc (ev rfl) (evc (ev rfl) evn))) ?_
    refine (D.no_sound w6 _ s HN6.out).mono ?_
    rintro e w7 ⟨rfl, b3⟩
    have HB7 := Lib.hid (HB6.out.trans (b3.mono HB6.out.size))
    have P7 := Lib.hid (am P6.out b3)
    have HN7 := Lib.hid (C.no_below HN6.out b3)
    clear b3
    refine ⟨_, rfl, ?_⟩
    simp only [Act.put, aa, ac, ae]
    refine af rfl (ag rfl (ev rfl)) ?_
    simp only [Act.put, aa, ac, ae]
    refine af rfl (ax rfl (ev rfl) rfl) ?_
    simp only [Act.put, aa, ac, ae]
    refine af rfl (ax rfl (ev rfl) rfl) ?_
    simp only [Act.put, aa, ac, ae]
    refine af rfl (aj rfl (ev rfl)) ?_
    simp only [Act.put, aa, ac, ae]
    refine af rfl (aj rfl (ev rfl)) ?_
    simp only [Act.put, aa, ac, ae]
    refine wpList_nil ?_
    go_upto_region 7 with fail
    refine wp_region_lit ?_
    refine af rfl (ag rfl (ev rfl)) ?_
    simp only [Act.put, aa, ac, ae]
    refine af (v := .bool true) rfl (ar true rfl (ev rfl) evk rfl) ?_
    simp only [Act.put, aa, ac, ae]
    refine af (v := .bool true) rfl (ag rfl (ev rfl)) ?_
    simp only [Act.put, aa, ac, ae]
    refine ah (ai rfl rfl rfl rfl) (ag rfl (ev rfl)) ?_
    simp only [Act.put, aa, ac, ae]
    refine ah (v := .bool true) (ai rfl rfl rfl rfl) (ar true rfl (ev rfl) evk rfl) ?_
    simp only [Act.put, aa, ac, ae]
    refine af (v := .bool true) rfl (aK rfl (ev rfl) (ev rfl)) ?_
    simp only [Act.put, aa, ac, ae]
    refine af (v := .bool true) rfl (ag rfl (ev rfl)) ?_
    simp only [Act.put, aa, ac, ae]
    refine ah (ai rfl rfl rfl rfl) (ag rfl (ev rfl)) ?_
    simp only [Act.put, aa, ac, ae]
    refine ah (v := .bool true) (ai rfl rfl rfl rfl) (ar true rfl (ev rfl) evk rfl) ?_
    simp only [Act.put, aa, ac, ae]
    refine af (v := .bool true) rfl (aK rfl (ev rfl) (ev rfl)) ?_
    simp only [Act.put, aa, ac, ae]
    refine af (v := .bool true) rfl (ag rfl (ev rfl)) ?_
    simp only [Act.put, aa, ac, ae]
    refine ak (ai rfl rfl rfl rfl) (ap Tryz.call12 rfl evn) ?_
    refine (flives C D w7 (fun i hi => (World.cell?_of_block (w := w) (HB7.out.block _ (HBas.start HT.out).lo)).trans (HT.out i hi))).mono ?_
    rintro e wz ⟨rfl, b9⟩
    have HZ := Lib.hid (HB7.out.trans (b9.mono HB7.out.size))
    clear b9
    refine ⟨_, rfl, ?_⟩
    simp only [Act.put, aa, ac, ae]
    refine af (v := .bool true) rfl (aK rfl (ev rfl) (ev rfl)) ?_
    simp only [Act.put, aa, ac, ae]
    refine af (v := .bool true) rfl (aj rfl (ev rfl)) ?_
    simp only [Act.put, aa, ac, ae]
    refine wpList_nil ?_
    go_wp2_with fail
    go_ret
    exact ⟨rfl, HZ.out⟩
theorem pslot_b (a b : Blk) (k : Nat) (w : World) (T : Tab w) (h : sloT a b = k) : Calls Tryz.prog 87 #[blk a, blk b] w fun e w' => e = .returned (.int .i64 (k : Nat)) ∧ Below w.heap.size w w' := by
  subst h
  exact pslot a b w T
structure HpS where
  id : Nat
  ev : Nat
  us : Nat
  R : Ros
def phC (qa : Option Addr) (x : HpS) : List Value := .pointer qa :: .int .u64 (x.id : Int) :: .int .u64 (x.ev : Int) :: (aC x.R ++ [.int .u64 (x.us : Int)])
theorem phC_len (qa : Option Addr) (x : HpS) : (phC qa x).length = 25 := by simp [phC, aS]
def PHo (w : World) (p : Nat) (qa : Option Addr) (x : HpS) : Prop := w.heap[p]? = some (.cells (phC qa x).toArray 53 (0, 0))
abbrev PHu (w : World) (p q : Nat) (x : HpS) : Prop := PHo w p (some ⟨q, 0, none⟩) x
section
variable {w w' : World} {p : Nat} {qa : Option Addr} {x : HpS} {G : Nat → Prop}
theorem PHo.only (h : PHo w p qa x) (ho : Only G w w') (hn : ¬ G p) : PHo w' p qa x := ho.keep h hn
theorem PHo.below (h : PHo w p qa x) (hb : Below w.heap.size w w') : PHo w' p qa x := am h hb
theorem PHo.lt (h : PHo w p qa x) : p < w.heap.size := aF h
theorem PHo.c0 (h : PHo w p qa x) : w.cell? ⟨p, 0, none⟩ = some (.pointer qa) := (aN h) 0 _ rfl
theorem PHo.c1 (h : PHo w p qa x) : w.cell? ⟨p, 1, none⟩ = some (.int .u64 (x.id : Int)) := (aN h) 1 _ rfl
theorem PHo.c2 (h : PHo w p qa x) : w.cell? ⟨p, 2, none⟩ = some (.int .u64 (x.ev : Int)) := (aN h) 2 _ rfl
theorem PHo.c24 (h : PHo w p qa x) : w.cell? ⟨p, 24, none⟩ = some (.int .u64 (x.us : Int)) := (aN h) 24 _ (by
  show (aC x.R ++ [_])[21]? = _
  rw [List.getElem?_append_right (by rw [aS]; exact Nat.le_refl _), aS]; rfl)
theorem PHo.ros (h : PHo w p qa x) : w.rangeAt p 3 (aC x.R) := by
  have := dk (k := 3) (ds := [.pointer qa, .int .u64 (x.id : Int), .int .u64 (x.ev : Int)]) (es := aC x.R) (fs := [.int .u64 (x.us : Int)]) (aN h) (by simp [phC]) rfl
  rwa [Nat.zero_add] at this
theorem PHo.geo (h : PHo w p qa x) : w.rangeAt p 3 (celG x.R) := dk (cs := aC x.R) (ds := []) (k := 0) h.ros rfl rfl
theorem PHo.free_ (h : PHo w p qa x) (j : Nat) : w.frozen? ⟨p, j, none⟩ = false := frozen_of_row w p j _ _ h
theorem PHo.there (h : PHo w p qa x) {o n : Nat} (hn : o + n ≤ 25) : w.there p o n := cF h (by rw [phC_len]; exact hn)
theorem faHp0 : (Instr.fieldAt 53 (.pointer (some ⟨p, 0, none⟩)) 0).run Tryz.prog w = .ok (.pointer (some ⟨p, 0, none⟩)) w := by kernel_rfl
theorem faHp1 : (Instr.fieldAt 53 (.pointer (some ⟨p, 0, none⟩)) 1).run Tryz.prog w = .ok (.pointer (some ⟨p, 1, none⟩)) w := by kernel_rfl
theorem faHp2 : (Instr.fieldAt 53 (.pointer (some ⟨p, 0, none⟩)) 2).run Tryz.prog w = .ok (.pointer (some ⟨p, 2, none⟩)) w := by kernel_rfl
theorem faHp3 : (Instr.fieldAt 53 (.pointer (some ⟨p, 0, none⟩)) 3).run Tryz.prog w = .ok (.pointer (some ⟨p, 3, none⟩)) w := by kernel_rfl
theorem faHp4 : (Instr.fieldAt 53 (.pointer (some ⟨p, 0, none⟩)) 4).run Tryz.prog w = .ok (.pointer (some ⟨p, 24, none⟩)) w := by kernel_rfl
theorem faHr0 : (Instr.fieldAt 32 (.pointer (some ⟨p, 3, none⟩)) 0).run Tryz.prog w = .ok (.pointer (some ⟨p, 3, none⟩)) w := by kernel_rfl
theorem ldHb {ad : Addr} {a : Option Addr} (h : w.cell? ad = some (.pointer a)) : (Instr.loadAt 24 (.pointer (some ad))).run Tryz.prog w = .ok (.pointer a) w := by simp [go_sem, h]
theorem ldHp {ad : Addr} {a : Option Addr} (h : w.cell? ad = some (.pointer a)) : (Instr.loadAt 23 (.pointer (some ad))).run Tryz.prog w = .ok (.pointer a) w := by simp [go_sem, h]
theorem PHo.set {y : HpS} (h : PHo w p qa x) {j : Nat} {u : Value} (hy : (phC qa x).set j u = phC qa y) : PHo (w.setCell ⟨p, j, none⟩ u) p qa y := by
  have := heap_setCell_same w p j _ 53 u h
  rw [List.setIfInBounds_toArray, hy] at this
  exact this
theorem PHo.put (h : PHo w p qa x) (y : Ros) : PHo (w.setCells p 3 (aC y)) p qa { x with R := y } :=
  heap_put p 53 [.int .u64 (x.us : Int)] (aC y) (aC x.R) [.pointer qa, .int .u64 (x.id : Int), .int .u64 (x.ev : Int)] w (by rw [aS, aS]) h
theorem phC_ev (qa : Option Addr) (x : HpS) (e : Nat) : (phC qa x).set 2 (.int .u64 (e : Int)) = phC qa { x with ev := e } := rfl
theorem phC_us (qa : Option Addr) (x : HpS) (e : Nat) : (phC qa x).set 24 (.int .u64 (e : Int)) = phC qa { x with us := e } := by
  show _ :: _ :: _ :: (aC x.R ++ [_]).set 21 _ = _
  rw [List.set_append_right _ _ (by rw [aS]; exact Nat.le_refl _), aS]
  rfl
end
def HJ (w0 : World) (H K : Nat → Prop) (w : World) (p q : Nat) (M : BenS) (x : HpS) : Prop :=
  ∃ G, aT.Bn w G q M ∧ PHu w p q x ∧ ¬ G p ∧ Only H w0 w ∧ Grow w0 H (fun b => G b ∨ b = p) ∧ (∀ b, K b → ¬ G b ∧ b ≠ p ∧ b < w.heap.size) ∧ CrG w0 H
section
variable {w0 w w' : World} {H K K' : Nat → Prop} {p q : Nat} {M : BenS} {x y : HpS}
theorem HJ.hul (h : HJ w0 H K w p q M x) : PHu w p q x := by obtain ⟨_, _, h, _⟩ := h; exact h
theorem HJ.tab (h : HJ w0 H K w p q M x) : Tab w := by
  obtain ⟨_, _, _, _, h, _, _, hT⟩ := h
  intro i hi
  have := hT.t i hi
  exact (h.cell (p := ⟨0, i, none⟩) (dL this) hT.off).trans this
theorem HJ.lt (h : HJ w0 H K w p q M x) {b : Nat} (hb : K b) : b < w.heap.size := by obtain ⟨_, _, _, _, _, _, h, _⟩ := h; exact (h b hb).2.2
theorem HJ.ne (h : HJ w0 H K w p q M x) {b : Nat} (hb : K b) : b ≠ p := by obtain ⟨_, _, _, _, _, _, h, _⟩ := h; exact (h b hb).2.1
theorem HJ.size (h : HJ w0 H K w p q M x) : w0.heap.size ≤ w.heap.size := by obtain ⟨_, _, _, _, h, _⟩ := h; exact h.size
theorem HJ.guard (h : HJ w0 H K w p q M x) (hb : Below w.heap.size w w') (hK : ∀ b, K' b → K b ∨ (w.heap.size ≤ b ∧ b < w'.heap.size)) : HJ w0 H K' w' p q M x := by
  obtain ⟨G, h1, h2, h3, h4, h5, h6, h7⟩ := h
  have hlt := aT.lt h1
  have hp := h2.lt
  have hs := hb.size
  refine ⟨G, aT.below h1 hb, h2.below hb, h3, h4.then_below hb, h5, fun b e => ?_, h7⟩
  rcases hK b e with e | ⟨e1, e2⟩
  · obtain ⟨g1, g2, g3⟩ := h6 b e
    exact ⟨g1, g2, by omega⟩
  · exact ⟨fun hg => by have := hlt b hg; omega, by omega, e2⟩
theorem HJ.below (h : HJ w0 H K w p q M x) (hb : Below w.heap.size w w') : HJ w0 H K w' p q M x := h.guard hb fun b e => .inl e
theorem HJ.drew (h : HJ w0 H K w p q M x) : HJ w0 H K w.drew p q M x := h.below (bd (Below.refl _ _))
theorem HJ.less (h : HJ w0 H K w p q M x) (hK : ∀ b, K' b → K b) : HJ w0 H K' w p q M x := h.guard (Below.refl _ _) fun b e => .inl (hK b e)
def up (K : Nat → Prop) (n m : Nat) : Nat → Prop := fun b => K b ∨ (n ≤ b ∧ b < m)
theorem HJ.up (h : HJ w0 H K w p q M x) (hb : Below w.heap.size w w') : HJ w0 H (Proofs.YtheponmdbmloaaaGreatDoor.up K w.heap.size w'.heap.size) w' p q M x := h.guard hb fun b e => e
theorem HJ.kept (h : HJ w0 H K w p q M x) (hb : Below w.heap.size w w') : bk K w w' := fun b e => hb.block b (h.lt e)
theorem HJ.turn {G G' : Nat → Prop} {M' : BenS} (h1 : aT.Bn w G q M) (h2 : PHu w p q x) (h3 : ¬ G p) (h4 : Only H w0 w) (h5 : Grow w0 H (fun b => G b ∨ b = p)) (h6 : ∀ b, K b → ¬ G b ∧ b ≠ p ∧ b < w.heap.size) (h7 : CrG w0 H)
    (k1 : aT.Bn w' G' q M') (k2 : Only G w w') (k3 : Grow w G G') : HJ w0 H K w' p q M' x ∧ bk K w w' := by
  have hs := k2.size
  have hs0 := h4.size
  have hp := h2.lt
  refine ⟨⟨G', k1, h2.only k2 h3, fun e => ?_, h4.trans k2 fun b e => h5 b (.inl e), fun b e => ?_, fun b e => ?_, h7⟩, fun b e => k2.block b (h6 b e).2.2 (h6 b e).1⟩
  · rcases k3 p e with e | e
    · exact h3 e
    · omega
  · rcases e with e | e
    · rcases k3 b e with e | e
      · exact h5 b (.inl e)
      · exact .inr (by omega)
    · exact h5 b (.inr e)
  · obtain ⟨g1, g2, g3⟩ := h6 b e
    refine ⟨fun hg => ?_, g2, by omega⟩
    rcases k3 b hg with e | e
    · exact g1 e
    · omega
theorem HJ.write (d n : Int) (b : Blk) (hr : Room M 1) (h : HJ w0 H K w p q M x) : Calls Tryz.prog 22 #[.pointer (some ⟨q, 0, none⟩), .int .i64 d, .int .i64 n, blk b] w fun e w' => e = .returned (.int .i64 (wrE6 M d n)) ∧ HJ w0 H K w' p q (wrS6 M d n b) x ∧ bk K w w' := by
  obtain ⟨G, h1, h2, h3, h4, h5, h6, h7⟩ := h
  exact (aT.write d n b hr h1).mono fun e w' ⟨k0, G', k1, k2, k3⟩ => ⟨k0, HJ.turn h1 h2 h3 h4 h5 h6 h7 k1 k2 k3⟩
theorem HJ.flush (d : Int) (hr : Room M 1) (h : HJ w0 H K w p q M x) : Calls Tryz.prog 88 #[.pointer (some ⟨q, 0, none⟩), .int .i64 d] w fun e w' => e = .returned (.int .i64 (flE6 M d)) ∧ HJ w0 H K w' p q (flS6 M d) x ∧ bk K w w' := by
  obtain ⟨G, h1, h2, h3, h4, h5, h6, h7⟩ := h
  exact (aT.flush d hr h1).mono fun e w' ⟨k0, G', k1, k2, k3⟩ => ⟨k0, HJ.turn h1 h2 h3 h4 h5 h6 h7 k1 k2 k3⟩
theorem HJ.read (d n : Int) (h : HJ w0 H K w p q M x) : Calls Tryz.prog 54 #[.pointer (some ⟨q, 0, none⟩), .int .i64 d, .int .i64 n] w fun e w' => e = .returned (.tuple #[blk (rdB6 M d n), .int .i64 (bN M d n)]) ∧ Below w.heap.size w w' := by
  obtain ⟨G, h1, _⟩ := h
  exact aT.read d n h1
theorem HJ.obj (h : HJ w0 H K w p q M x) (ho : Only (fun b => b = p) w w') (hp : PHu w' p q y) : HJ w0 H K w' p q M y ∧ bk K w w' := by
  obtain ⟨G, h1, h2, h3, h4, h5, h6, h7⟩ := h
  have hs := ho.size
  refine ⟨⟨G, aT.only h1 ho fun b hb e => h3 (e ▸ hb), hp, h3, h4.trans ho fun b e => h5 b (.inr e), h5, fun b e => ?_, h7⟩, fun b e => ho.block b (h6 b e).2.2 (h6 b e).2.1⟩
  obtain ⟨g1, g2, g3⟩ := h6 b e
  exact ⟨g1, g2, by omega⟩
theorem HJ.mine {g : Nat} (h : HJ w0 H K w p q M x) (hg : K g) (hg0 : w0.heap.size ≤ g) (ho : Only (fun b => b = g) w w') : HJ w0 H K w' p q M x := by
  obtain ⟨G, h1, h2, h3, h4, h5, h6, h7⟩ := h
  have hs := ho.size
  obtain ⟨g1, g2, g3⟩ := h6 g hg
  refine ⟨G, aT.only h1 ho fun b hb e => g1 (e ▸ hb), h2.only ho fun e => g2 e.symm, h3, h4.trans ho fun b e => .inr (by omega), h5, fun b e => ?_, h7⟩
  obtain ⟨g1, g2, g3⟩ := h6 b e
  exact ⟨g1, g2, by omega⟩
end
theorem bk.refl (K : Nat → Prop) (w : World) : bk K w w := fun _ _ => rfl
theorem bk.trans {K : Nat → Prop} {w1 w2 w3 : World} (h : bk K w1 w2) (k : bk K w2 w3) : bk K w1 w3 := fun b e => (k b e).trans (h b e)
theorem bk.less {K K' : Nat → Prop} {w1 w2 : World} (h : bk K w1 w2) (hK : ∀ b, K' b → K b) : bk K' w1 w2 := fun b e => h b (hK b e)
theorem bk.at_ {K : Nat → Prop} {w w' : World} {b : Nat} {o : Obj} (k : bk K w w') (hb : K b) (ho : w.heap[b]? = some o) : w'.heap[b]? = some o := (k b hb).trans ho
theorem bk.of_only {K : Nat → Prop} {w w' : World} {g : Nat} (ho : Only (fun b => b = g) w w') (hK : ∀ b, K b → b ≠ g ∧ b < w.heap.size) : bk K w w' := fun b e => ho.block b (hK b e).2 (hK b e).1
structure Fu where
  f : FuncId
  cap : List Value
  ok : ∀ (args : Array Value) (w : World), (callFunc f args).run Tryz.prog w = .ok (.enter f args) w
def Fu.val (s : Fu) : Value := .func (.func s.f) #[] s.cap.toArray
section
variable {ρ : Operand → Value} {o : Oper} {x y : Operand} {w : World} {s : Fu} {v : Value}
theorem ldFu1 {ad : Addr} (h : w.cell? ad = some s.val) : (Instr.loadAt 46 (.pointer (some ad))).run Tryz.prog w = .ok s.val w := by unfold Fu.val at *; simp [go_sem, h]
theorem exec_callU0 {a : Act} {ats : Array TypeId} (ho : o.op = .call { callee := .value x, args := #[], argTypes := ats }) (hx : a.eval x = s.val) : (execOp a.eval o).run Tryz.prog w = .ok (.enter s.f s.cap.toArray) w := by
  unfold Fu.val at hx
  unfold execOp
  simp [ho, resolve, Deferred.ofValue, invoke, hx, s.ok]
theorem exec_callU1 {a : Act} {ats : Array TypeId} (ho : o.op = .call { callee := .value x, args := #[y], argTypes := ats }) (hx : a.eval x = s.val) (hy : a.eval y = v) : (execOp a.eval o).run Tryz.prog w = .ok (.enter s.f (v :: s.cap).toArray) w := by
  unfold Fu.val at hx
  unfold execOp
  simp [ho, resolve, Deferred.ofValue, invoke, hx, hy, s.ok]
end
end Go.Proofs.YtheponmdbmloaaaGreatDoor
