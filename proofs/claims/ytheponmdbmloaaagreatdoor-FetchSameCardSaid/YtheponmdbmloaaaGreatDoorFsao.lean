import Derived.Test.YtheponmdbmloaaaGreatDoorFsal
import Derived.Test.YtheponmdbmloaaaGreatDoorFsam
import Derived.Test.YtheponmdbmloaaaGreatDoorFsan
import Derived.Test.YtheponmdbmloaaaGreatDoorFsab
import Derived.Test.YtheponmdbmloaaaGreatDoorFsZ
namespace Go.Proofs.YtheponmdbmloaaaGreatDoor
open Go.RowKit
set_option linter.unusedVariables false
set_option linter.unusedSimpArgs false
set_option maxRecDepth 100000
theorem run_bldG40 (a b : Int) (w : World) : (Instr.build 29 #[(0, .int .i64 a), (1, .int .i64 b), (2, .int .i64 40)]).run Tryz.prog w = .ok (.agg #[.int .i64 a, .int .i64 b, .int .i64 40]) w := by kernel_rfl
theorem exec_bldG40 {ρ : Operand → Value} {o : Oper} {x y z : Operand} {w : World} {a b : Int} (ho : o.op = .build 29 #[(0, x), (1, y), (2, z)]) (hx : ρ x = .int .i64 a) (hy : ρ y = .int .i64 b) (hz : ρ z = .int .i64 40) : (execOp ρ o).run Tryz.prog w = .ok (.value (.agg #[.int .i64 a, .int .i64 b, .int .i64 40])) w := by
  unfold execOp
  simp only [ho, hx, hy, hz, List.map_toArray, List.map_cons, List.map_nil, Sem.run_bind, run_bldG40, Result.andThen_ok, Sem.run_pure]
theorem szK_ok {N : Nat} {s : Int} (hN : N ≤ 16) (hs : 1 ≤ s ∧ s ≤ 64) : newOk (szK N s) := by
  refine ⟨by rw [szK_len]; omega, by rw [szK_len]; omega, fun k hk => ?_⟩
  unfold szK at hk
  rcases List.mem_append.1 hk with h | h
  · have := (List.mem_replicate.1 h).2; omega
  · simp at h; omega
theorem hnw_new {N : Nat} {s : Int} (h1 : 3 ≤ N) (h2 : N ≤ 16) (h3 : 1 ≤ s ∧ s ≤ 64) {ev : Nat} (hev : ev ≤ 2305843009213693952) : hnwB (dj (szK N s)) 9 ev (neR N s) = true := by
  have hsec : ∀ k, k ≤ N → secK (dj (szK N s)) (neR N s) k = true := fun k hk => by
    induction k with
    | zero => rfl
    | succ k ih =>
      refine secK_step (ih (by omega)) ?_
      have e : seN6 (dj (szK N s)) (k : Int) = ((2 + s).toNat : Int) := by
        unfold seN6
        rw [if_pos (hasE_ok (by rw [newK_len]; omega))]
        show (((dj (szK N s)).ds.getD k bp).S.length : Int) = _
        rw [newK_at (by omega)]
        show ((List.replicate (2 + s).toNat al).length : Int) = _
        rw [List.length_replicate]
      rw [e]
      show ¬ (((2 + s).toNat : Nat) : Int) < 2 + s
      omega
  unfold hnwB
  rw [neR_fine h1 h2 h3.1 h3.2, newK_len, show (neR N s).m.toNat = N from neR_m N s, hsec N (Nat.le_refl _), decide_eq_false (show ¬ (9 : Nat) = 0 by decide), decide_eq_false (show ¬ 2305843009213693952 < ev by omega), decide_eq_true (show ((N + 1 : Nat) : Int) = (neR N s).m + 1 from rfl)]
  rfl
theorem ne_new {N : Nat} {s : Int} (h1 : 3 ≤ N) (h2 : N ≤ 16) (h3 : 1 ≤ s ∧ s ≤ 64) : newX (neR N s) = neR N s ∧ newEr (neR N s) = 0 := by
  have hg : geoB (neR N s) = true := decide_eq_true ⟨by show 3 ≤ (N : Int); omega, by show (N : Int) ≤ 16; omega, h3.1, h3.2, by show (40 : Int) ≤ 40; omega, by show (40 : Int) ≤ 256; omega⟩
  constructor
  · unfold newX; rw [hg]; rfl
  · unfold newEr; rw [hg]; rfl
set_option maxHeartbeats 4000000 in
theorem l_both19 (C : HulI) (a N : Nat) (w : World) (T : Tab w) (ha : a < 256) (hN : 3 + a % 4 = N) : Calls Tryz.prog 5 #[.int .u8 (a : Int)] w fun e w' => ∃ p q p2 q2, e = .returned (.tuple #[.pointer (some ⟨p, 0, none⟩), .pointer (some ⟨q, 0, none⟩), .pointer (some ⟨p2, 0, none⟩)]) ∧ HAt C w w.heap.size (fun b => b = p2) w' q p ⟨dj (szK N 4), 9, 0, neR N 4⟩ ∧ RHu w' p2 q2 9 0 (neR N 4) := by
  have h1 : 3 ≤ N := by omega
  have h2 : N ≤ 16 := by omega
  have HT := Lib.hid T
  have HN := Lib.hid h2
  have HOK := Lib.hid (szK_ok (N := N) (s := 4) h2 (by omega))
  have HNW := Lib.hid (ne_new (N := N) (s := 4) h1 h2 (by omega))
  have HH := Lib.hid (hnw_new (N := N) (s := 4) h1 h2 (by omega) (ev := 0) (by omega))
  have HRA : Hid ((a : Int).tmod 4 = ((a % 4 : Nat) : Int)) := Lib.hid rfl
  have HCA : Hid (IntKind.i64.wrap ((a % 4 : Nat) : Int) = ((a % 4 : Nat) : Int)) := Lib.hid (dn (by omega))
  have HAA : Hid (IntKind.i64.wrap (3 + ((a % 4 : Nat) : Int)) = (N : Int)) := Lib.hid (by rw [dn (by omega)]; omega)
  clear T ha hN h1 h2
  go_enter Tryz.func5, Tryz.ntmps5
  go_upto_region 1 with fail
  refine wp_region_lit ?_
  refine af rfl (ag rfl (ev rfl)) ?_
  simp only [Act.put, aa, ac, ae]
  refine af rfl (exec_rem8 rfl (ev rfl) evk (by decide) HRA.out) ?_
  simp only [Act.put, aa, ac, ae]
  refine af rfl (exec_cv8 rfl (ev rfl) HCA.out) ?_
  simp only [Act.put, aa, ac, ae]
  refine af rfl (bu rfl evk (ev rfl) HAA.out) ?_
  simp only [Act.put, aa, ac, ae]
  refine af rfl (aj rfl (ev rfl)) ?_
  simp only [Act.put, aa, ac, ae]
  refine wpList_nil ?_
  go_wp2_with fail
  go_loopw [6, 7] (fun v z wr => ∃ i : Nat, z = .int .i64 i ∧ i ≤ N ∧ aK IntE wr w.heap.size v (List.replicate i (2 + 4)) ∧ Below w.heap.size w wr) (fun _ z _ => N - (intOf z).toNat)
  case atStart => exact ⟨0, by go_num, Nat.zero_le _, aK.nil _ _, Below.refl _ _⟩
  case round =>
    obtain ⟨i, rfl, hi, hm, hb⟩ := hrel
    have HM := Lib.hid hm
    have HW := Lib.hid hb
    have HBS : Hid (w.heap.size ≤ wr.heap.size) := Lib.hid hb.size
    clear hm hb
    by_cases hlt : i < N
    · have HI := Lib.hid hlt
      have HLT : Hid (decide ((i : Int) < (N : Int)) = true) := Lib.hid (decide_eq_true (by omega))
      have HA : Hid (IntKind.i64.wrap ((i : Int) + 1) = ((i + 1 : Nat) : Int)) := Lib.hid (by have := HN.out; rw [dn ⟨by omega, by omega⟩]; omega)
      have hsz : (wr.alloc (.cells #[.int .i64 6] 3)).heap.size = wr.heap.size + 1 := World.size_alloc ..
      obtain ⟨v2, w2, hrun, hm2, hg2⟩ := run_appE IntE (wr.alloc (.cells #[.int .i64 6] 3)) 57 w.heap.size (wr.heap.size + 1) 1 1 u6 (List.replicate i (2 + 4)) [6] (some ⟨wr.heap.size, 0, none⟩) (aK.below HM.out ((Below.refl _ _).alloc (Nat.le_refl _) _)) (rdE_new (E := IntE) (l := [6]) wr #[.int .i64 6] 3 rfl) (by have := HBS.out; omega) (by have := HN.out; simp; omega)
      have HRUN := Lib.hid hrun
      have HM2 : Hid (aK IntE w2 w.heap.size v2 (List.replicate (i + 1) (2 + 4))) := Lib.hid (by rw [List.replicate_succ']; exact hm2)
      have HW2 : Hid (Below w.heap.size w w2) := Lib.hid ((HW.out.trans ((Below.refl _ _).alloc HBS.out _)).grown hg2 (by have := HBS.out; omega) (fun j' hj' => HM.out.lt_own j' hj'))
      clear hi hlt hsz hrun hm2 hg2
      go_upto_region 4 with fail
      refine wp_region_lit ?_
      refine af rfl (ag rfl (ev rfl)) ?_
      simp only [Act.put, aa, ac, ae]
      refine af rfl (ag rfl (ev rfl)) ?_
      simp only [Act.put, aa, ac, ae]
      refine af (v := .bool true) rfl (bi true rfl (ev rfl) (ev rfl) HLT.out) ?_
      simp only [Act.put, aa, ac, ae]
      refine wpList_nil ?_
      go_upto_region 6 with fail
      refine wp_region_lit ?_
      refine af rfl (ag rfl (ev rfl)) ?_
      simp only [Act.put, aa, ac, ae]
      refine af rfl (dO (E := IntE) (a := 6) rfl evk rfl (by decide)) ?_
      simp only [Act.put, aa, ac, ae]
      refine af rfl (exec_appE (E := IntE) rfl (ev rfl) (ev rfl) HRUN.out) ?_
      simp only [Act.put, aa, ac, ae]
      refine af rfl (aj rfl (ev rfl)) ?_
      simp only [Act.put, aa, ac, ae]
      refine wpList_nil ?_
      go_upto_region 5 with fail
      refine wp_region_lit ?_
      refine af rfl (ag rfl (ev rfl)) ?_
      simp only [Act.put, aa, ac, ae]
      refine af rfl (bu rfl (ev rfl) evk HA.out) ?_
      simp only [Act.put, aa, ac, ae]
      refine af rfl (aj rfl (ev rfl)) ?_
      simp only [Act.put, aa, ac, ae]
      refine wpList_nil ?_
      go_wp2_with fail
      go_roundw
      case rel => exact ⟨i + 1, by go_num, HI.out, HM2.out, HW2.out⟩
      case measure => have := HI.out; simp [intOf]; omega
    have hin : i = N := by omega
    subst hin
    have HLT : Hid (decide ((i : Int) < (i : Int)) = false) := Lib.hid (decide_eq_false (by omega))
    have hsz : (wr.alloc (.cells #[.int .i64 50] 3)).heap.size = wr.heap.size + 1 := World.size_alloc ..
    obtain ⟨v2, w2, hrun, hm2, hg2⟩ := run_appE IntE (wr.alloc (.cells #[.int .i64 50] 3)) 57 w.heap.size (wr.heap.size + 1) 1 1 u6 (List.replicate i (2 + 4)) [50] (some ⟨wr.heap.size, 0, none⟩) (aK.below HM.out ((Below.refl _ _).alloc (Nat.le_refl _) _)) (rdE_new (E := IntE) (l := [50]) wr #[.int .i64 50] 3 rfl) (by have := HBS.out; omega) (by have := HN.out; simp; omega)
    have HRUN := Lib.hid hrun
    have HM2 : Hid (aK IntE w2 w.heap.size v2 (szK i 4)) := Lib.hid hm2
    have HB2 : Hid (Below w.heap.size w w2) := Lib.hid ((HW.out.trans ((Below.refl _ _).alloc HBS.out _)).grown hg2 (by have := HBS.out; omega) (fun j' hj' => HM.out.lt_own j' hj'))
    clear hi hlt hsz hrun hm2 hg2
    go_upto_region 4 with fail
    refine wp_region_lit ?_
    refine af rfl (ag rfl (ev rfl)) ?_
    simp only [Act.put, aa, ac, ae]
    refine af rfl (ag rfl (ev rfl)) ?_
    simp only [Act.put, aa, ac, ae]
    refine af (v := .bool false) rfl (bi false rfl (ev rfl) (ev rfl) HLT.out) ?_
    simp only [Act.put, aa, ac, ae]
    refine wpList_nil ?_
    go_upto_region 7 with fail
    refine wp_region_lit ?_
    refine af rfl (ag rfl (ev rfl)) ?_
    simp only [Act.put, aa, ac, ae]
    refine af rfl (dO (E := IntE) (a := 50) rfl evk rfl (by decide)) ?_
    simp only [Act.put, aa, ac, ae]
    refine af rfl (exec_appE (E := IntE) rfl (ev rfl) (ev rfl) HRUN.out) ?_
    simp only [Act.put, aa, ac, ae]
    refine af rfl (aj rfl (ev rfl)) ?_
    simp only [Act.put, aa, ac, ae]
    refine wpList_nil ?_
    obtain ⟨A2, c2, rfl, e21, e22⟩ := HM2.out.form
    have HR2 := Lib.hid HM2.out.rd
    have HC2 := Lib.hid (And.intro e21 e22)
    clear e21 e22
    go_upto_region 8 with fail
    refine wp_region_lit ?_
    refine af rfl (ag rfl (ev rfl)) ?_
    simp only [Act.put, aa, ac, ae]
    refine ak rfl (ap Tryz.call14 rfl (evc (ev rfl) evn)) ?_
    refine (C.R.new HR2.out HC2.out.1 HC2.out.2).mono ?_
    rintro e w3 ⟨b3, h3⟩
    obtain ⟨_, q, F, rfl, n3, f3⟩ | ⟨h3, _⟩ := h3
    rotate_left 1
    · exact absurd HOK.out h3
    have HB3 := Lib.hid (HB2.out.trans (b3.mono HB2.out.size))
    have HN3 := Lib.hid n3
    have HF3 : Hid (∀ b, F b → w.heap.size ≤ b) := Lib.hid fun b hb => Nat.le_trans HB2.out.size (f3 b hb)
    have HR3 := Lib.hid (HM2.out.below b3).rd
    clear b3 n3 f3
    refine ⟨_, rfl, ?_⟩
    simp only [Act.put, aa, ac, ae]
    refine af rfl (ag rfl (ev rfl)) ?_
    simp only [Act.put, aa, ac, ae]
    refine af rfl (ax rfl (ev rfl) rfl) ?_
    simp only [Act.put, aa, ac, ae]
    refine af rfl (ax rfl (ev rfl) rfl) ?_
    simp only [Act.put, aa, ac, ae]
    refine af rfl (aj rfl (ev rfl)) ?_
    simp only [Act.put, aa, ac, ae]
    refine af rfl (aj rfl (ev rfl)) ?_
    simp only [Act.put, aa, ac, ae]
    refine wpList_nil ?_
    go_upto_region 9 with fail
    refine wp_region_lit ?_
    refine af rfl (ag rfl (ev rfl)) ?_
    simp only [Act.put, aa, ac, ae]
    refine ak rfl (ap Tryz.call15 rfl (evc (ev rfl) evn)) ?_
    refine (cm.new HR3.out HC2.out.1 HC2.out.2).mono ?_
    rintro e w5 ⟨b5, h5⟩
    obtain ⟨_, q5, F5, rfl, n5, f5⟩ | ⟨h5, _⟩ := h5
    rotate_left 1
    · exact absurd HOK.out h5
    have HB5 := Lib.hid (HB3.out.trans (b5.mono HB3.out.size))
    have HN5 := Lib.hid (C.R.toBen.below HN3.out b5)
    have HD5 := Lib.hid n5
    clear b5 n5 f5
    refine ⟨_, rfl, ?_⟩
    simp only [Act.put, aa, ac, ae]
    refine af rfl (ag rfl (ev rfl)) ?_
    simp only [Act.put, aa, ac, ae]
    refine af rfl (ax rfl (ev rfl) rfl) ?_
    simp only [Act.put, aa, ac, ae]
    refine af rfl (ax rfl (ev rfl) rfl) ?_
    simp only [Act.put, aa, ac, ae]
    refine af rfl (aj rfl (ev rfl)) ?_
    simp only [Act.put, aa, ac, ae]
    refine af rfl (aj rfl (ev rfl)) ?_
    simp only [Act.put, aa, ac, ae]
    refine wpList_nil ?_
    go_upto_region 10 with fail
    refine wp_region_lit ?_
    refine af rfl (ag rfl (ev rfl)) ?_
    simp only [Act.put, aa, ac, ae]
    refine af rfl (exec_bldG40 rfl (ev rfl) evk evk) ?_
    simp only [Act.put, aa, ac, ae]
    refine ak rfl (ap Tryz.call16 rfl (evc (ev rfl) evn)) ?_
    refine (rnew_v (x := neR i 4) (w := w5) HNW.out.1 HNW.out.2).mono ?_
    rintro e w6 ⟨rfl, b6⟩
    have HB6 := Lib.hid (HB5.out.trans (b6.mono HB5.out.size))
    have HN6 := Lib.hid (C.R.toBen.below HN5.out b6)
    have HD6 := Lib.hid (cm.below HD5.out b6)
    clear b6
    refine ⟨_, rfl, ?_⟩
    simp only [Act.put, aa, ac, ae]
    refine af rfl (ag rfl (ev rfl)) ?_
    simp only [Act.put, aa, ac, ae]
    refine af rfl (ax rfl (ev rfl) rfl) ?_
    simp only [Act.put, aa, ac, ae]
    refine af rfl (ax rfl (ev rfl) rfl) ?_
    simp only [Act.put, aa, ac, ae]
    refine af rfl (bN rfl) ?_
    simp only [Act.put, aa, ac, ae]
    refine av rfl (exec_fillR rfl (ev rfl) (ev rfl)) ?_
    simp only [Act.put, aa, ac, ae]
    have hx := (Below.refl w6.heap.size w6).alloc (Nat.le_refl _) (.cells (aE (neR i 4)).toArray 32)
    have HB7 := Lib.hid (HB6.out.trans (hx.mono HB6.out.size))
    have HN7 := Lib.hid (C.R.toBen.below HN6.out hx)
    have HD7 := Lib.hid (cm.below HD6.out hx)
    have HX7 := Lib.hid (bf.new w6 (neR i 4))
    clear hx
    obtain ⟨qx, hqx⟩ : ∃ qx, w6.heap.size = qx := ⟨_, rfl⟩
    rw [hqx] at HX7 ⊢
    clear hqx
    generalize w6.alloc (.cells (aE (neR i 4)).toArray 32) = w7 at *
    refine af rfl (aj rfl (ev rfl)) ?_
    simp only [Act.put, aa, ac, ae]
    refine wpList_nil ?_
    go_upto_region 11 with fail
    refine wp_region_lit ?_
    refine af rfl (ag rfl (ev rfl)) ?_
    simp only [Act.put, aa, ac, ae]
    refine af (v := .bool false) rfl (aB false rfl (ev rfl) evk rfl) ?_
    simp only [Act.put, aa, ac, ae]
    refine af (v := .bool false) rfl (ag rfl (ev rfl)) ?_
    simp only [Act.put, aa, ac, ae]
    refine ah (ai rfl rfl rfl rfl) (ag rfl (ev rfl)) ?_
    simp only [Act.put, aa, ac, ae]
    refine ah (v := .bool false) (ai rfl rfl rfl rfl) (aB false rfl (ev rfl) evk rfl) ?_
    simp only [Act.put, aa, ac, ae]
    refine af (v := .bool false) rfl (aM rfl (ev rfl) (ev rfl)) ?_
    simp only [Act.put, aa, ac, ae]
    refine af (v := .bool false) rfl (ag rfl (ev rfl)) ?_
    simp only [Act.put, aa, ac, ae]
    refine ah (ai rfl rfl rfl rfl) (ag rfl (ev rfl)) ?_
    simp only [Act.put, aa, ac, ae]
    refine ah (v := .bool false) (ai rfl rfl rfl rfl) (aB false rfl (ev rfl) evk rfl) ?_
    simp only [Act.put, aa, ac, ae]
    refine af (v := .bool false) rfl (aM rfl (ev rfl) (ev rfl)) ?_
    simp only [Act.put, aa, ac, ae]
    refine wpList_nil ?_
    go_upto_region 13 with fail
    refine wp_region_lit ?_
    refine af rfl (ag rfl (ev rfl)) ?_
    simp only [Act.put, aa, ac, ae]
    refine af rfl (aQ rfl (ev rfl) HX7.out.range) ?_
    simp only [Act.put, aa, ac, ae]
    refine ak rfl (ap Tryz.call17 rfl (evc (ev rfl) (evc evk (evc evk (evc (ev rfl) evn))))) ?_
    refine (C.new_ 9 0 (neR i 4) (by omega) (by omega) HN7.out).mono ?_
    rintro e w8 ⟨b8, h8⟩
    obtain ⟨_, p, G, rfl, j8, g8⟩ | ⟨h8, _⟩ := h8
    rotate_left 1
    · exact absurd (HH.out.symm.trans h8) (by decide)
    have HB8 := Lib.hid (HB7.out.trans (b8.mono HB7.out.size))
    have HX8 := Lib.hid (HX7.out.below (aH HX7.out) b8)
    have HD8 := Lib.hid (cm.below HD7.out b8)
    have HJ8 := Lib.hid j8
    have HGG : Hid (∀ b, G b → w.heap.size ≤ b) := Lib.hid fun b hb => by
      rcases g8 b hb with e | e
      · exact HF3.out b e
      · exact Nat.le_trans HB7.out.size e
    clear b8 j8 g8
    refine ⟨_, rfl, ?_⟩
    simp only [Act.put, aa, ac, ae]
    refine af rfl (ag rfl (ev rfl)) ?_
    simp only [Act.put, aa, ac, ae]
    refine af rfl (ax rfl (ev rfl) rfl) ?_
    simp only [Act.put, aa, ac, ae]
    refine af rfl (ax rfl (ev rfl) rfl) ?_
    simp only [Act.put, aa, ac, ae]
    refine af rfl (aj rfl (ev rfl)) ?_
    simp only [Act.put, aa, ac, ae]
    refine af rfl (aj rfl (ev rfl)) ?_
    simp only [Act.put, aa, ac, ae]
    refine wpList_nil ?_
    go_upto_region 14 with fail
    refine wp_region_lit ?_
    refine af rfl (ag rfl (ev rfl)) ?_
    simp only [Act.put, aa, ac, ae]
    refine af rfl (aQ rfl (ev rfl) HX8.out.range) ?_
    simp only [Act.put, aa, ac, ae]
    refine ak rfl (ap Tryz.call18 rfl (evc (ev rfl) (evc evk (evc evk (evc (ev rfl) evn))))) ?_
    refine (rhnew 9 0 (neR i 4) w8 HD8.out).mono ?_
    rintro e w9 ⟨b9, h9⟩
    obtain ⟨_, p2, rfl, j9, g9⟩ | ⟨h9, _⟩ := h9
    rotate_left 1
    · exact absurd (HH.out.symm.trans h9) (by decide)
    have HB9 := Lib.hid (HB8.out.trans (b9.mono HB8.out.size))
    have HJ9 := Lib.hid (C.below HJ8.out b9)
    have HP9 := Lib.hid j9
    have HPL : Hid (∀ b, b = p2 → ¬ G b ∧ b < w9.heap.size) := Lib.hid fun b e => ⟨fun hg => by subst e; have := C.lt HJ8.out b hg; omega, by subst e; exact aH j9⟩
    clear b9 j9 g9
    refine ⟨_, rfl, ?_⟩
    simp only [Act.put, aa, ac, ae]
    refine af rfl (ag rfl (ev rfl)) ?_
    simp only [Act.put, aa, ac, ae]
    refine af rfl (ax rfl (ev rfl) rfl) ?_
    simp only [Act.put, aa, ac, ae]
    refine af rfl (ax rfl (ev rfl) rfl) ?_
    simp only [Act.put, aa, ac, ae]
    refine af rfl (aj rfl (ev rfl)) ?_
    simp only [Act.put, aa, ac, ae]
    refine af rfl (aj rfl (ev rfl)) ?_
    simp only [Act.put, aa, ac, ae]
    refine wpList_nil ?_
    go_upto_region 15 with fail
    refine wp_region_lit ?_
    refine af rfl (ag rfl (ev rfl)) ?_
    simp only [Act.put, aa, ac, ae]
    refine af (v := .bool false) rfl (aB false rfl (ev rfl) evk rfl) ?_
    simp only [Act.put, aa, ac, ae]
    refine af (v := .bool false) rfl (ag rfl (ev rfl)) ?_
    simp only [Act.put, aa, ac, ae]
    refine ah (ai rfl rfl rfl rfl) (ag rfl (ev rfl)) ?_
    simp only [Act.put, aa, ac, ae]
    refine ah (v := .bool false) (ai rfl rfl rfl rfl) (aB false rfl (ev rfl) evk rfl) ?_
    simp only [Act.put, aa, ac, ae]
    refine af (v := .bool false) rfl (aM rfl (ev rfl) (ev rfl)) ?_
    simp only [Act.put, aa, ac, ae]
    refine wpList_nil ?_
    go_upto_region 17 with fail
    refine wp_region_lit ?_
    refine af rfl (ag rfl (ev rfl)) ?_
    simp only [Act.put, aa, ac, ae]
    refine af rfl (ag rfl (ev rfl)) ?_
    simp only [Act.put, aa, ac, ae]
    refine af rfl (ag rfl (ev rfl)) ?_
    simp only [Act.put, aa, ac, ae]
    refine af rfl (aj rfl (ev rfl)) ?_
    simp only [Act.put, aa, ac, ae]
    refine af rfl (aj rfl (ev rfl)) ?_
    simp only [Act.put, aa, ac, ae]
    refine af rfl (aj rfl (ev rfl)) ?_
    simp only [Act.put, aa, ac, ae]
    refine wpList_nil ?_
    go_wp2_with fail
    go_ret3
    exact ⟨p, q, p2, q5, rfl, ⟨G, HJ9.out, HGG.out, HB9.out, HBas.start HT.out, HPL.out⟩, HP9.out⟩
def lvL : List Blk := [al.set 0 1, al.set 0 2, al.set 0 3]
theorem lvL_f : fold lvL = al := by decide +kernel
theorem bldF (i : Nat) (hi : i < 3) (w : World) : (Instr.build 38 #[(0, .int .u8 ((i + 1 : Nat) : Int))]).run Tryz.prog w = .ok (blk (lvL.getD i al)) w := by
  rcases (show i = 0 ∨ i = 1 ∨ i = 2 by omega) with rfl | rfl | rfl <;> kernel_rfl
theorem bldF2 (w : World) : (Instr.build 38 #[(0, .int .u8 2)]).run Tryz.prog w = .ok (blk (lvL.getD 1 al)) w := by kernel_rfl
theorem bldPl1 (m : Int) (w : World) : (Instr.build 43 #[(1, .int .i64 m)]).run Tryz.prog w = .ok (.agg #[.int .i64 0, .int .i64 m]) w := by kernel_rfl
theorem exec_bldPl1 {ρ : Operand → Value} {o : Oper} {x : Operand} {w : World} {m : Int} (ho : o.op = .build 43 #[(1, x)]) (hx : ρ x = .int .i64 m) : (execOp ρ o).run Tryz.prog w = .ok (.value (.agg #[.int .i64 0, .int .i64 m])) w := by
  unfold execOp
  simp [ho, hx, bldPl1, Result.andThen]
theorem exec_cvI8 {ρ : Operand → Value} {o : Oper} {x : Operand} {w : World} {n : Nat} (ho : o.op = .convert 3 5 x) (hx : ρ x = .int .i64 (n : Int)) (hn : n < 256) : (execOp ρ o).run Tryz.prog w = .ok (.value (.int .u8 (n : Int))) w := by
  have h : IntKind.u8.wrap (n : Int) = (n : Int) := by rw [IntKind.wrap_u8]; exact Int.emod_eq_of_lt (by omega) (by omega)
  have hc : (convert 3 5 (.int .i64 (n : Int))).run Tryz.prog w = .ok (.int .u8 (n : Int)) w := by simp [convert, go_sem, h]
  unfold execOp
  simp only [ho, hx, Sem.run_bind, hc, Result.andThen_ok, Sem.run_pure]
set_option maxHeartbeats 4000000 in
theorem flives (C : HulI) (D : FetI C) (w : World) (T : Tab w) : Calls Tryz.prog 12 #[] w fun e w' => e = .returned (.bool true) ∧ Below w.heap.size w w' := by
  have HT := Lib.hid T
  have HL3 : Hid (lvL.length = 3) := Lib.hid rfl
  clear T
  go_enter Tryz.func12, Tryz.ntmps12
  go_upto_region 1 with fail
  refine wp_region_lit ?_
  refine ak rfl (ap Tryz.call5 rfl (evc evk evn)) ?_
  refine (l_both19 C 0 3 w HT.out (by omega) rfl).mono ?_
  rintro e w1 ⟨p, q, p2, q2, rfl, a1, _⟩
  have HA1 := Lib.hid a1
  clear a1
  refine ⟨_, rfl, ?_⟩
  simp only [Act.put, aa, ac, ae]
  refine af rfl (ag rfl (ev rfl)) ?_
  simp only [Act.put, aa, ac, ae]
  refine af rfl (ax rfl (ev rfl) rfl) ?_
  simp only [Act.put, aa, ac, ae]
  refine af rfl (ax rfl (ev rfl) rfl) ?_
  simp only [Act.put, aa, ac, ae]
  refine af rfl (ax rfl (ev rfl) rfl) ?_
  simp only [Act.put, aa, ac, ae]
  refine af rfl (aj rfl (ev rfl)) ?_
  simp only [Act.put, aa, ac, ae]
  refine af rfl (aj rfl (ev rfl)) ?_
  simp only [Act.put, aa, ac, ae]
  refine af rfl (aj rfl (ev rfl)) ?_
  simp only [Act.put, aa, ac, ae]
  refine wpList_nil ?_
  go_upto_region 2 with fail
  refine wp_region_lit ?_
  refine af rfl (ag rfl (ev rfl)) ?_
  simp only [Act.put, aa, ac, ae]
  refine af (v := .bool false) rfl (dw false Tryz.underlying23 rfl (ev rfl) evk rfl) ?_
  simp only [Act.put, aa, ac, ae]
  refine wpList_nil ?_
  go_wp2_with fail
  go_loopw [4] (fun z wr => ∃ (i : Nat) (h : HuS), z = .int .i64 i ∧ i ≤ 3 ∧ HAt C w w.heap.size (fun b => b = p2) wr q p h ∧ Fws 3 4 0 lvL i h) (fun z _ => 3 - (intOf z).toNat)
  case atStart => exact ⟨0, _, by go_num, Nat.zero_le _, HA1.out, fws_new 3 4 0 lvL⟩
  case round =>
    obtain ⟨i, h, rfl, hi, ha, hf⟩ := hrel
    have HAi := Lib.hid ha
    clear ha
    by_cases hlt : i < 3
    · have HI := Lib.hid hlt
      have HLT : Hid (decide ((i : Int) < 3) = true) := Lib.hid (decide_eq_true (by omega))
      have HIA : Hid (IntKind.i64.wrap ((i : Int) + 1) = ((i + 1 : Nat) : Int)) := Lib.hid (by rw [dn ⟨by omega, by omega⟩]; omega)
      have HI8 : Hid (i + 1 < 256) := Lib.hid (by omega)
      obtain ⟨e1, f1, r1⟩ := fws_wr (s := 0) rosC4 (Nat.le_refl 3) (by omega) (by omega) hf hlt (by rw [HL3.out]; exact hlt)
      have HWR := Lib.hid e1
      have HFW := Lib.hid f1
      have HRM := Lib.hid r1
      clear hi hlt hf e1 f1 r1
      go_upto_region 5 with fail
      refine wp_region_lit ?_
      refine af rfl (ag rfl (ev rfl)) ?_
      simp only [Act.put, aa, ac, ae]
      refine af (v := .bool true) rfl (bi true rfl (ev rfl) evk HLT.out) ?_
      simp only [Act.put, aa, ac, ae]
      refine wpList_nil ?_
      go_upto_region 7 with fail
      refine wp_region_lit ?_
      refine af rfl (ag rfl (ev rfl)) ?_
      simp only [Act.put, aa, ac, ae]
      refine af rfl (ag rfl (ev rfl)) ?_
      simp only [Act.put, aa, ac, ae]
      refine af rfl (exec_bldPl1 rfl (ev rfl)) ?_
      simp only [Act.put, aa, ac, ae]
      refine af rfl (ag rfl (ev rfl)) ?_
      simp only [Act.put, aa, ac, ae]
      refine af rfl (bu rfl (ev rfl) evk HIA.out) ?_
      simp only [Act.put, aa, ac, ae]
      refine af rfl (exec_cvI8 rfl (ev rfl) HI8.out) ?_
      simp only [Act.put, aa, ac, ae]
      refine af rfl (exec_bld1 rfl (ev rfl) (bldF i HI.out _)) ?_
      simp only [Act.put, aa, ac, ae]
      refine ak rfl (ap Tryz.call7 rfl (evc (ev rfl) (evc (ev rfl) (evc (ev rfl) evn)))) ?_
      refine (HAi.out.write 0 (i : Int) (lvL.getD i al) HRM.out.1 HRM.out.2 (hwrK_is HWR.out (by decide) (by decide))).mono ?_
      rintro e w2 ⟨rfl, a2, _⟩
      have HA2 := Lib.hid a2
      clear a2
      rw [show hwrE h 0 (i : Int) (lvL.getD i al) = 0 from HWR.out]
      refine ⟨_, rfl, ?_⟩
      simp only [Act.put, aa, ac, ae]
      refine af (v := .bool false) rfl (aB false rfl (ev rfl) evk rfl) ?_
      simp only [Act.put, aa, ac, ae]
      refine wpList_nil ?_
      go_upto_region 6 with fail
      refine wp_region_lit ?_
      refine af rfl (ag rfl (ev rfl)) ?_
      simp only [Act.put, aa, ac, ae]
      refine af rfl (bu rfl (ev rfl) evk HIA.out) ?_
      simp only [Act.put, aa, ac, ae]
      refine af rfl (aj rfl (ev rfl)) ?_
      simp only [Act.put, aa, ac, ae]
      refine wpList_nil ?_
      go_wp2_with fail
      go_roundw
      case rel => exact ⟨i + 1, _, by go_num, HI.out, HA2.out, HFW.out⟩
      case measure => have := HI.out; simp [intOf]; omega
    have hin : i = 3 := by omega
    subst hin
    have HLT : Hid (decide (((3 : Nat) : Int) < 3) = false) := Lib.hid (decide_eq_false (by omega))
    obtain ⟨h2, M4, ⟨s1, s2⟩, ⟨f1, f2⟩, ⟨c1, c2⟩, ⟨t1, t2⟩, ⟨g1, g2⟩, d1, d2⟩ := lvF lvL rfl lvL_f hf
    have S1 := Lib.hid (And.intro s1 s2)
    have F1 := Lib.hid (And.intro f1 f2)
    have C1 := Lib.hid (And.intro c1 c2)
    have T1 := Lib.hid (And.intro t1 t2)
    have G1 := Lib.hid (And.intro g1 g2)
    have D1 := Lib.hid (And.intro d1 d2)
    clear hi hlt hf s1 s2 f1 f2 c1 c2 t1 t2 g1 g2 d1 d2
    go_upto_region 5 with fail
    refine wp_region_lit ?_
    refine af rfl (ag rfl (ev rfl)) ?_
    simp only [Act.put, aa, ac, ae]
    refine af (v := .bool false) rfl (bi false rfl (ev rfl) evk HLT.out) ?_
    simp only [Act.put, aa, ac, ae]
    refine wpList_nil ?_
    have HA2 := Lib.hid HAi.out
    go_upto_region 9 with fail
    refine wp_region_lit ?_
    refine af rfl (ag rfl (ev rfl)) ?_
    simp only [Act.put, aa, ac, ae]
    refine ak rfl (ap Tryz.call8 rfl (evc (ev rfl) (evc evk evn))) ?_
    refine (HAt.sound D 0 HA2.out S1.out.2 S1.out.1).mono ?_
    rintro e w3 ⟨rfl, a3, k3⟩
    have HA3 := Lib.hid a3
    clear a3 k3
    refine ⟨_, rfl, ?_⟩
    simp only [Act.put, aa, ac, ae]
    refine af rfl (ag rfl (ev rfl)) ?_
    simp only [Act.put, aa, ac, ae]
    refine af rfl (ax rfl (ev rfl) rfl) ?_
    simp only [Act.put, aa, ac, ae]
    refine af rfl (ax rfl (ev rfl) rfl) ?_
    simp only [Act.put, aa, ac, ae]
    refine af rfl (aj rfl (ev rfl)) ?_
    simp only [Act.put, aa, ac, ae]
    refine af rfl (aj rfl (ev rfl)) ?_
    simp only [Act.put, aa, ac, ae]
    refine wpList_nil ?_
    go_upto_region 10 with fail
    refine wp_region_lit ?_
    refine af rfl (ag rfl (ev rfl)) ?_
    simp only [Act.put, aa, ac, ae]
    refine ak rfl (ap Tryz.call9 rfl (evc (ev rfl) (evc evk evn))) ?_
    refine (HA3.out.ben fun hb => C.R.fail 1 hb).mono ?_
    rintro e w4 ⟨rfl, a4, k4⟩
    have HA4 := Lib.hid a4
    clear a4 k4
    rw [show hasE (h).M 1 = 0 from F1.out.1]
    refine ⟨_, rfl, ?_⟩
    simp only [Act.put, aa, ac, ae]
    refine wpList_nil ?_
    go_upto_region 11 with fail
    refine wp_region_lit ?_
    refine af rfl (ag rfl (ev rfl)) ?_
    simp only [Act.put, aa, ac, ae]
    refine af rfl (exec_bldPl1 rfl evk) ?_
    simp only [Act.put, aa, ac, ae]
    refine ak rfl (ap Tryz.call13 rfl (evc (ev rfl) (evc (ev rfl) evn))) ?_
    refine (HAt.cell D 0 1 HA4.out C1.out.2 C1.out.1).mono ?_
    rintro e w5 ⟨rfl, a5, k5⟩
    have HA5 := Lib.hid a5
    clear a5 k5
    refine ⟨_, rfl, ?_⟩
    simp only [Act.put, aa, ac, ae]
    refine af rfl (ag rfl (ev rfl)) ?_
    simp only [Act.put, aa, ac, ae]
    refine af rfl (ax rfl (ev rfl) rfl) ?_
    simp only [Act.put, aa, ac, ae]
    refine af rfl (ax rfl (ev rfl) rfl) ?_
    simp only [Act.put, aa, ac, ae]
    refine af rfl (aU rfl) ?_
    simp only [Act.put, aa, ac, ae]
    refine av rfl (df (c := lvL.getD 1 al) rfl (ev rfl) (ev rfl)) ?_
    simp only [Act.put, aa, ac, ae]
    have hx := (Below.refl w5.heap.size w5).alloc (Nat.le_refl _) (.cells (cel (lvL.getD 1 al)).toArray 38)
    have HQ6 := Lib.hid (heap_alloc_new w5 (.cells (cel (lvL.getD 1 al)).toArray 38))
    have HA6 := Lib.hid (HAt.guard (K' := fun b => b = w5.heap.size) HA5.out hx fun b e => .inr (by subst e; rw [World.size_alloc]; omega))
    clear hx
    obtain ⟨b6, hb6⟩ : ∃ b6, w5.heap.size = b6 := ⟨_, rfl⟩
    rw [hb6] at HQ6 HA6 ⊢
    clear hb6
    generalize w5.alloc (.cells (cel (lvL.getD 1 al)).toArray 38) = w6 at *
    refine af rfl (aj rfl (ev rfl)) ?_
    simp only [Act.put, aa, ac, ae]
    refine wpList_nil ?_
    go_upto_region 12 with fail
    refine wp_region_lit ?_
    refine af rfl (ag rfl (ev rfl)) ?_
    simp only [Act.put, aa, ac, ae]
    refine ak rfl (ap Tryz.call8 rfl (evc (ev rfl) (evc evk evn))) ?_
    refine (HAt.sound D 0 HA6.out T1.out.2 T1.out.1).mono ?_
    rintro e w7 ⟨rfl, a7, k7⟩
    have HA7 := Lib.hid a7
    have HQ7 := Lib.hid ((k7 b6 rfl).trans HQ6.out)
    clear a7 k7
    refine ⟨_, rfl, ?_⟩
    simp only [Act.put, aa, ac, ae]
    refine af rfl (ag rfl (ev rfl)) ?_
    simp only [Act.put, aa, ac, ae]
    refine af rfl (ax rfl (ev rfl) rfl) ?_
    simp only [Act.put, aa, ac, ae]
    refine af rfl (ax rfl (ev rfl) rfl) ?_
    simp only [Act.put, aa, ac, ae]
    refine af rfl (aj rfl (ev rfl)) ?_
    simp only [Act.put, aa, ac, ae]
    refine af rfl (aj rfl (ev rfl)) ?_
    simp only [Act.put, aa, ac, ae]
    refine wpList_nil ?_
    go_upto_region 13 with fail
    refine wp_region_lit ?_
    refine af rfl (ag rfl (ev rfl)) ?_
    simp only [Act.put, aa, ac, ae]
    refine ak rfl (ap Tryz.call9 rfl (evc (ev rfl) (evc evk evn))) ?_
    refine (HA7.out.ben fun hb => C.R.fail 0 hb).mono ?_
    rintro e w8 ⟨rfl, a8, k8⟩
    have HA8 := Lib.hid a8
    have HQ8 := Lib.hid ((k8 b6 rfl).trans HQ7.out)
    clear a8 k8
    rw [show hasE (h2).M 0 = 0 from G1.out.1]
    refine ⟨_, rfl, ?_⟩
    simp only [Act.put, aa, ac, ae]
    refine wpList_nil ?_
    go_upto_region 14 with fail
    refine wp_region_lit ?_
    refine af rfl (ag rfl (ev rfl)) ?_
    simp only [Act.put, aa, ac, ae]
    refine af rfl (exec_bldPl1 rfl evk) ?_
    simp only [Act.put, aa, ac, ae]
    refine ak rfl (ap Tryz.call13 rfl (evc (ev rfl) (evc (ev rfl) evn))) ?_
    refine (HAt.cell D 0 1 HA8.out D1.out.2 D1.out.1).mono ?_
    rintro e w9 ⟨rfl, a9, k9⟩
    have HA9 := Lib.hid a9
    have HQ9 := Lib.hid ((k9 b6 rfl).trans HQ8.out)
    clear a9 k9
    refine ⟨_, rfl, ?_⟩
    simp only [Act.put, aa, ac, ae]
    refine af rfl (ag rfl (ev rfl)) ?_
    simp only [Act.put, aa, ac, ae]
    refine af rfl (ax rfl (ev rfl) rfl) ?_
    simp only [Act.put, aa, ac, ae]
    refine af rfl (ax rfl (ev rfl) rfl) ?_
    simp only [Act.put, aa, ac, ae]
    refine af rfl (aU rfl) ?_
    simp only [Act.put, aa, ac, ae]
    refine av rfl (df (c := al) rfl (ev rfl) (ev rfl)) ?_
    simp only [Act.put, aa, ac, ae]
    have hx := (Below.refl w9.heap.size w9).alloc (Nat.le_refl _) (.cells (cel al).toArray 38)
    have HQ10 := Lib.hid (ao HQ9.out hx)
    have HA10 := Lib.hid (HAt.below HA9.out hx)
    clear hx
    generalize w9.alloc (.cells (cel al).toArray 38) = w10 at *
    refine af rfl (aj rfl (ev rfl)) ?_
    simp only [Act.put, aa, ac, ae]
    refine wpList_nil ?_
    go_upto_region 15 with fail
    refine wp_region_lit ?_
    refine af (v := .bool true) rfl (ag rfl (ev rfl)) ?_
    simp only [Act.put, aa, ac, ae]
    refine af (v := .bool true) rfl (ag rfl (ev rfl)) ?_
    simp only [Act.put, aa, ac, ae]
    refine ah (ai rfl rfl rfl rfl) (ag rfl (ev rfl)) ?_
    simp only [Act.put, aa, ac, ae]
    refine ah (v := .bool true) (ai rfl rfl rfl rfl) (ar true rfl (ev rfl) evk rfl) ?_
    simp only [Act.put, aa, ac, ae]
    refine af (v := .bool true) rfl (aJ rfl (ev rfl) (ev rfl)) ?_
    simp only [Act.put, aa, ac, ae]
    refine af (v := .bool true) rfl (ag rfl (ev rfl)) ?_
    simp only [Act.put, aa, ac, ae]
    refine ah (ai rfl rfl rfl rfl) (aG rfl (ev rfl) (aT HQ10.out)) ?_
    simp only [Act.put, aa, ac, ae]
    refine ah (ai rfl rfl rfl rfl) (exec_bld1 rfl evk (bldF2 _)) ?_
    simp only [Act.put, aa, ac, ae]
    refine ah (v := .bool true) (ai rfl rfl rfl rfl) (exec_eqlB true rfl (ev rfl) (ev rfl) (decide_eq_true rfl)) ?_
    simp only [Act.put, aa, ac, ae]
    refine af (v := .bool true) rfl (aJ rfl (ev rfl) (ev rfl)) ?_
    simp only [Act.put, aa, ac, ae]
    refine af (v := .bool true) rfl (ag rfl (ev rfl)) ?_
    simp only [Act.put, aa, ac, ae]
    refine ah (ai rfl rfl rfl rfl) (ag rfl (ev rfl)) ?_
    simp only [Act.put, aa, ac, ae]
    refine ah (v := .bool true) (ai rfl rfl rfl rfl) (ar true rfl (ev rfl) evk rfl) ?_
    simp only [Act.put, aa, ac, ae]
    refine af (v := .bool true) rfl (aJ rfl (ev rfl) (ev rfl)) ?_
    simp only [Act.put, aa, ac, ae]
    refine af (v := .bool true) rfl (ag rfl (ev rfl)) ?_
    simp only [Act.put, aa, ac, ae]
    refine ah (ai rfl rfl rfl rfl) (ag rfl (ev rfl)) ?_
    simp only [Act.put, aa, ac, ae]
    refine ah (v := .bool true) (ai rfl rfl rfl rfl) (ar true rfl (ev rfl) evk rfl) ?_
    simp only [Act.put, aa, ac, ae]
    refine af (v := .bool true) rfl (aJ rfl (ev rfl) (ev rfl)) ?_
    simp only [Act.put, aa, ac, ae]
    refine af (v := .bool true) rfl (ag rfl (ev rfl)) ?_
    simp only [Act.put, aa, ac, ae]
    refine ah (ai rfl rfl rfl rfl) (ag rfl (ev rfl)) ?_
    simp only [Act.put, aa, ac, ae]
    refine ah (v := .bool true) (ai rfl rfl rfl rfl) (ar true rfl (ev rfl) evk rfl) ?_
    simp only [Act.put, aa, ac, ae]
    refine af (v := .bool true) rfl (aJ rfl (ev rfl) (ev rfl)) ?_
    simp only [Act.put, aa, ac, ae]
    refine af (v := .bool true) rfl (aj rfl (ev rfl)) ?_
    simp only [Act.put, aa, ac, ae]
    refine wpList_nil ?_
    go_wp2_with fail
    go_ret
    exact ⟨rfl, HA10.out.bel⟩
section
variable {ρ : Operand → Value} {o : Oper} {x y : Operand} {w : World} {c d : Blk} {t : TypeId}
theorem exec_neqb (b : Bool) (ho : o.op = .binOp .neq 38 x y t) (hx : ρ x = blk c) (hy : ρ y = blk d) (h : (!decide (c = d)) = b) : (execOp ρ o).run Tryz.prog w = .ok (.value (.bool b)) w := by
  rw [exec_neq ho hx hy, h]
end
theorem wp_region_read {id : Nat} {Q : Exit → Act → World → Prop} {a : Act} {w : World} {l : List Oper} (hB : Region.lexB .any l.toArray = true) (h : wpStill Tryz.prog l.toArray w.drew (fun a' => Q .normal a' w.drew) l a) :
    (Code.region id l.toArray true).wp Tryz.prog Q a w := wp_region_still_lit (by kernel_rfl) hB h
theorem getD_ext {a b : List Blk} (hl : a.length = b.length) (h : ∀ k, k < a.length → a.getD k al = b.getD k al) : a = b := by
  apply List.ext_getElem hl
  intro k h1 h2
  have := h k h1
  rw [List.getD, List.getD, List.getElem?_eq_getElem h1, List.getElem?_eq_getElem h2] at this
  simpa using this
set_option maxHeartbeats 800000 in
theorem blocks_any (A B : Option Addr) (n m c d N : Nat) (a b : List Blk) (w : World) (ha : RdB w N A n a) (hb : RdB w N B m b) (hN : N ≤ w.heap.size) (hn : n ≤ maxLen) :
    Calls Tryz.prog 11 #[.slice A n c, .slice B m d] w fun e w' => e = .returned (.bool (decide (a = b))) ∧ Below w.heap.size w w' := by
  unfold maxLen at hn
  by_cases hnm : n = m
  · subst hnm
    go_enter Tryz.func11, Tryz.ntmps11
    go_wp2_with fail
    go_loopw [5] (fun i wr => ∃ k : Nat, k ≤ n ∧ i = .int .i64 k ∧ (∀ j, j < k → a.getD j al = b.getD j al) ∧ Below w.heap.size w wr) (fun i _ => n - (intOf i).toNat)
    case atStart => exact ⟨0, Nat.zero_le _, rfl, fun j hj => absurd hj (by omega), Below.refl _ _⟩
    case round =>
      obtain ⟨k, hk, rfl, hj, hbl⟩ := hrel
      have HJ := Lib.hid hj
      clear hj
      by_cases hlt : k < n
      · obtain ⟨bA, oA, rfl, hA, cA⟩ := (ha.below (hbl.mono hN)).2 k hlt
        obtain ⟨bB, oB, rfl, hB, cB⟩ := (hb.below (hbl.mono hN)).2 k hlt
        have HX := Lib.hid (rfl : a.getD k al = a.getD k al)
        generalize hx : a.getD k al = x at *
        generalize hy : b.getD k al = y at *
        have HA := Lib.hid cA
        have HB := Lib.hid cB
        have HXX := Lib.hid hx
        have HYY := Lib.hid hy
        clear cA cB hx hy HX
        go_wp2_with fail
        by_cases hxy : x = y
        · have hd : (!decide (x = y)) = false := by simpa using hxy
          refine wp_region_read (by kernel_rfl) ?_
          refine az rfl (cD rfl) ?_
          simp only [Act.put, aa, ac, ae]
          refine az rfl (cD rfl) ?_
          simp only [Act.put, aa, ac, ae]
          refine az rfl (dy rfl rfl rfl hlt) ?_
          simp only [Act.put, aa, ac, ae]
          refine az rfl (aG rfl rfl HA.out) ?_
          simp only [Act.put, aa, ac, ae]
          refine az rfl (cD rfl) ?_
          simp only [Act.put, aa, ac, ae]
          refine az rfl (cD rfl) ?_
          simp only [Act.put, aa, ac, ae]
          refine az rfl (dy rfl rfl rfl hlt) ?_
          simp only [Act.put, aa, ac, ae]
          refine az rfl (aG rfl rfl HB.out) ?_
          simp only [Act.put, aa, ac, ae]
          refine az rfl (exec_neqb false rfl rfl rfl hd) ?_
          simp only [Act.put, aa, ac, ae]
          refine wpStill_nil ?_
          clear hd
          go_wp2_with fail
          go_roundw
          case rel =>
            refine ⟨k + 1, by omega, by go_num, ?_, bd hbl⟩
            intro j hj
            by_cases h : j = k
            · subst h; rw [HXX.out, HYY.out]; exact hxy
            · exact HJ.out j (by omega)
          case measure => simp [intOf]; omega
        · have hd : (!decide (x = y)) = true := by simpa using hxy
          refine wp_region_read (by kernel_rfl) ?_
          refine az rfl (cD rfl) ?_
          simp only [Act.put, aa, ac, ae]
          refine az rfl (cD rfl) ?_
          simp only [Act.put, aa, ac, ae]
          refine az rfl (dy rfl rfl rfl hlt) ?_
          simp only [Act.put, aa, ac, ae]
          refine az rfl (aG rfl rfl HA.out) ?_
          simp only [Act.put, aa, ac, ae]
          refine az rfl (cD rfl) ?_
          simp only [Act.put, aa, ac, ae]
          refine az rfl (cD rfl) ?_
          simp only [Act.put, aa, ac, ae]
          refine az rfl (dy rfl rfl rfl hlt) ?_
          simp only [Act.put, aa, ac, ae]
          refine az rfl (aG rfl rfl HB.out) ?_
          simp only [Act.put, aa, ac, ae]
          refine az rfl (exec_neqb true rfl rfl rfl hd) ?_
          simp only [Act.put, aa, ac, ae]
          refine wpStill_nil ?_
          clear hd
          go_wp2_with fail
          go_ret
          refine ⟨?_, bd hbl⟩
          rw [decide_eq_false]
          · rfl
          · rintro rfl
            exact hxy (HXX.out.symm.trans HYY.out)
      · go_wp2_with fail
        go_ret
        refine ⟨?_, hbl⟩
        rw [decide_eq_true]
        · rfl
        · exact getD_ext (by rw [ha.1, hb.1]) fun k h => HJ.out k (by have := ha.1; omega)
  · have hne : ((n : Int) != (m : Int)) = true := by simp; omega
    go_enter Tryz.func11, Tryz.ntmps11
    go_wp2_with fail
    go_ret
    refine ⟨?_, Below.refl _ _⟩
    rw [decide_eq_false]
    · rfl
    · rintro rfl
      exact hnm (ha.1.symm.trans hb.1)
end Go.Proofs.YtheponmdbmloaaaGreatDoor
