/-
  The program's device: Crash.
-/
import Derived.Test.YtokdmcikoaagmaaPdt
import Derived.Laws.CopyRow
import Derived.Laws.IdiomCopy
namespace Go.Proofs.Ytokdmcikoaagmaa
open Go.RowKit
set_option linter.unusedVariables false

/-! ### What one operation does: the lesser, the greater of two numbers; a cut; copy -/
section
variable {o : Oper} {a : Act} {x y : Operand} {w : World} {u v c : Int}
theorem exec_min {t1 t2 : TypeId} (ho : o.op = .call { callee := .builtin .min, args := #[x, y], argTypes := #[t1, t2] }) (hx : a.eval x = .int .i64 u) (hy : a.eval y = .int .i64 v) (h : (if v < u then v else u) = c) : (execOp a.eval o).run Try.prog w = .ok (.value (.int .i64 c)) w := by
  subst h
  have hrun := run_min_int2 (P := Try.prog) (w := w) #[t1, t2] o.type .i64 .i64 u v
  simp [execOp, ho, resolve, invoke, builtin, hx, hy, hrun, Result.andThen]
theorem exec_max {t1 t2 : TypeId} (ho : o.op = .call { callee := .builtin .max, args := #[x, y], argTypes := #[t1, t2] }) (hx : a.eval x = .int .i64 u) (hy : a.eval y = .int .i64 v) (h : (if v > u then v else u) = c) : (execOp a.eval o).run Try.prog w = .ok (.value (.int .i64 c)) w := by
  subst h
  have hrun : (Builtin.max_ #[t1, t2] o.type #[.int .i64 u, .int .i64 v]).run Try.prog w = .ok (.int .i64 (if v > u then v else u)) w := by simp [Builtin.max_, Builtin.max2]
  simp [execOp, ho, resolve, invoke, builtin, hx, hy, hrun, Result.andThen]
end
/-- Where a slice's head lies: where the slice lay. -/
def cutA (A : Option Addr) (c : Nat) : Option Addr := if c = 0 then A else A.map (·.add 0)
theorem cutA_some (b off c : Nat) : cutA (some ⟨b, off, none⟩) c = some ⟨b, off, none⟩ := by
  unfold cutA
  split
  · rfl
  · simp [add_mid]
section
variable {ρ : Operand → Value} {o : Oper} {x y : Operand} {w : World} {A : Option Addr} {n c t b off : Nat}
theorem run_cutI (h : t ≤ c) : (Instr.sliceAt 34 (.slice A n c) none (some (.int .i64 (t : Int))) none).run Try.prog w = .ok (.slice (cutA A c) t c) w := by
  simp [Instr.sliceAt, Instr.slice, Instr.sliceBounds, Instr.sliceBound, asIntOf, run_underlying Try.underlying34, cutA]
  intro hh; omega
theorem exec_cutI (ho : o.op = .slice 34 x none (some y) none) (hx : ρ x = .slice A n c) (hy : ρ y = .int .i64 (t : Int)) (h : t ≤ c) : (execOp ρ o).run Try.prog w = .ok (.value (.slice (cutA A c) t c)) w := by
  have h1 := run_cutI (A := A) (n := n) (w := w) h
  unfold execOp
  simp only [ho, hx, hy, Option.map_some, Option.map_none, Sem.run_bind, h1, Result.andThen_ok, Sem.run_pure]
theorem exec_ixI {j : Nat} (ho : o.op = .indexAddr IntE.s x y) (hx : ρ x = .slice (some ⟨b, off, none⟩) n c) (hy : ρ y = .int .i64 (j : Int)) (hj : j < n) : (execOp ρ o).run Try.prog w = .ok (.value (.pointer (some ⟨b, off + j, none⟩))) w := by
  have h := exec_indexE (E := IntE) (w := w) ho hx hy hj
  rwa [show IntE.n = 1 from rfl, Nat.mul_one] at h
theorem run_cutB (h : t ≤ 64) : (Instr.sliceAt 33 (.pointer (some ⟨b, off, none⟩)) none (some (.int .i64 (t : Int))) none).run Try.prog w = .ok (.slice (some ⟨b, off, none⟩) t 64) w := by
  simp [Instr.sliceAt, Instr.sliceBounds, Instr.sliceBound, Instr.sureAddr, asIntOf, run_underlying undB, Try.sizeOf5, add_mid]
  intro hh; omega
theorem exec_cutB (ho : o.op = .slice 33 x none (some y) none) (hx : ρ x = .pointer (some ⟨b, off, none⟩)) (hy : ρ y = .int .i64 (t : Int)) (h : t ≤ 64) : (execOp ρ o).run Try.prog w = .ok (.value (.slice (some ⟨b, off, none⟩) t 64)) w := by
  have h1 := run_cutB (b := b) (off := off) (w := w) h
  unfold execOp
  simp only [ho, hx, hy, Option.map_some, Option.map_none, Sem.run_bind, h1, Result.andThen_ok, Sem.run_pure]
end
theorem run_copyS {w : World} {dT sT ty elem : TypeId} {g off n c m c' : Nat} {ad : Addr} {cs : List Value} (hu : Try.prog.underlying dT = some (.slice elem)) (hs : (Try.prog.info? elem).map (·.size) = some 1)
    (hn : cs.length = Nat.min m n) (hsrc : ∀ j v, cs[j]? = some v → w.cell? (ad.add j) = some v) (ht : w.there g off cs.length) (h1 : ∀ v ∈ cs, v.oneCell' = true) :
    (Builtin.copy_ #[dT, sT] ty #[.slice (some ⟨g, off, none⟩) n c, .slice (some ad) m c']).run Try.prog w = .ok (goInt cs.length) (w.setCells g off cs) := by
  have hl := run_loadCells_list (P := Try.prog) w ad cs hsrc
  have hst := run_storeCells_cells (P := Try.prog) g off cs 0 w (fun j hj => (ht j hj).1) (fun j hj => (ht j hj).2) h1
  rw [Nat.add_zero] at hst
  cases hq : Try.prog.info? elem with
  | none => simp [hq] at hs
  | some i =>
    have hi : i.size = 1 := by simpa [hq] using hs
    simp [Builtin.copy_, run_underlying hu, Builtin.lenOf, Builtin.firstCells, sizeOf, typeInfo, hq, hi, ← hn, hl, hst]
theorem exec_copyS {o : Oper} {a : Act} {x y : Operand} {w : World} {g off n c m c' : Nat} {ad : Addr} {cs : List Value} (ho : o.op = .call { callee := .builtin .copy, args := #[x, y], argTypes := #[73, 73] })
    (hx : a.eval x = .slice (some ⟨g, off, none⟩) n c) (hy : a.eval y = .slice (some ad) m c') (hn : cs.length = Nat.min m n) (hsrc : ∀ j v, cs[j]? = some v → w.cell? (ad.add j) = some v) (ht : w.there g off cs.length) (h1 : ∀ v ∈ cs, v.oneCell' = true) :
    (execOp a.eval o).run Try.prog w = .ok (.value (goInt cs.length)) (w.setCells g off cs) := by
  have hrun := run_copyS (w := w) (dT := 73) (sT := 73) (ty := o.type) (c := c) (c' := c') Try.underlying73 (by kernel_rfl) hn hsrc ht h1
  simp [execOp, ho, resolve, invoke, builtin, hx, hy, hrun, Result.andThen]
/-- How many bytes of a write are kept. -/
def kp (z : Int) : Nat := (min (max z 0) 64).toNat
theorem kp_le (z : Int) : kp z ≤ 64 := by unfold kp; omega
theorem kp_is (z : Int) : (if (64 : Int) < max z 0 then (64 : Int) else max z 0) = (kp z : Int) := by
  unfold kp
  split <;> omega
theorem kp_max (z : Int) : (if (0 : Int) > z then (0 : Int) else z) = max z 0 := by split <;> omega
theorem torn_cel (y x : Blk) (z : Int) : cel (torn y x z) = (cel y).take 0 ++ (cel x).take (kp z) ++ (cel y).drop (0 + ((cel x).take (kp z)).length) := by
  have hk := kp_le z
  apply List.ext_getElem?
  intro j
  by_cases hj : j < 64
  · rw [cel_at _ hj, torn_byt _ _ _ hj, List.take_zero, List.nil_append, List.length_take, cel_length, Nat.min_eq_left hk, Nat.zero_add]
    by_cases h : j < kp z
    · rw [List.getElem?_append_left (by rw [List.length_take, cel_length]; omega), List.getElem?_take_of_lt h, cel_at _ hj, if_pos (by unfold kp at h; omega)]
    · rw [List.getElem?_append_right (by rw [List.length_take, cel_length]; omega), List.length_take, cel_length, Nat.min_eq_left hk, List.getElem?_drop, show kp z + (j - kp z) = j from by omega, cel_at _ hj, if_neg (by unfold kp at h; omega)]
  · rw [List.getElem?_eq_none (by rw [cel_length]; omega), List.getElem?_eq_none]
    simp only [List.length_append, List.length_take, List.length_drop, cel_length]
    omega
section
variable {w w' : World} {p gg n c k : Nat} {vL : Value} {S : List Blk} {L : List (Int × Blk)}
/-- A sector's head is laid anew. -/
theorem PD.putS (h : PD w p (.slice (some ⟨gg, 0, none⟩) n c) vL S L false) (hk : k < n) {vs : List Value} (a : Blk) (ha : cel a = (cel (S.getD k zeroB)).take 0 ++ vs ++ (cel (S.getD k zeroB)).drop (0 + vs.length)) (hj : 0 + vs.length ≤ 64) : PD (w.setCells gg (k * 64) vs) p (.slice (some ⟨gg, 0, none⟩) n c) vL (S.set k a) L false := by
  have hO : Only (fun b => b = gg) w (w.setCells gg (k * 64) vs) := (Only.refl (fun b => b = gg) w).setCells (.inl rfl) _ _
  refine ⟨?_, by rw [List.length_set]; exact h.one, h.alive.put hk (j := 0) a ha hj, h.L_.only hO fun b hb e => ?_, fun e => absurd e (by decide)⟩
  · rw [List.length_set]
    exact hO.keep h.at_ (fun e => h.S_.not_at h.at_ (by decide) (by rw [e]; rfl))
  · rcases h.L_.other h.S_ (by decide) with e' | e'
    · rw [e'] at hb; cases hb
    · exact e' (by rw [hb, e]; rfl)
end
theorem set_getD (S : List Blk) (k : Nat) : S.set k (S.getD k zeroB) = S := by
  apply List.ext_getElem?
  intro j
  rw [List.getElem?_set]
  split
  · rename_i h
    subst h
    split
    · rename_i h; rw [List.getD, List.getElem?_eq_getElem h]; rfl
    · rename_i h; rw [List.getElem?_eq_none (by omega)]
  · rfl
theorem torn_zero (y x : Blk) : torn y x 0 = y := Vector.ext fun i h => by rw [torn_get _ _ _ _ h, if_neg (by omega)]
/-- What takes no number is lost. -/
theorem crI_rest (S : List Blk) (L : List (Int × Blk)) (P : List Int) (i d : Nat) (h : P.length ≤ i) : crI S L P (i + d) = crI S L P i := by
  induction d with
  | zero => rfl
  | succ d ih =>
    have hz : P.getD (i + d) 0 = 0 := by rw [List.getD, List.getElem?_eq_none (by omega)]; rfl
    show crI S L P ((i + d) + 1) = _
    rw [crI, hz, torn_zero, set_getD, ih]
set_option maxRecDepth 100000 in
set_option maxHeartbeats 4000000 in
theorem p_crash (p : Nat) (vS vL : Value) (S : List Blk) (L : List (Int × Blk)) (g : Bool) (A : Option Addr) (n c : Nat) (P : List Int) (w : World) (h : PD w p vS vL S L g) (hF : Fit S L) (hP : RdE IntE w w.heap.size A n P) (hc1 : n ≤ c) (hc2 : c ≤ maxLen) (hN : ∀ x, A = some x → 0 < n → ¬ foot p vS vL x.block) :
    Calls Try.prog 17 #[.pointer (some ⟨p, 0, none⟩), .slice A n c] w fun e w' => e = .returned (.tuple #[.int .i64 ((min L.length n : Nat) : Int), .int .i64 0]) ∧ PD w' p vS (.slice none 0 0) (crI S L P L.length) [] g ∧ Only (foot p vS vL) w w' := by
  obtain ⟨c0, c1, c2, c3⟩ := cells4 h.at_
  obtain ⟨AL, cL, rfl, hl1, hl2⟩ := h.L_.form
  unfold maxLen at hl2 hc2
  obtain ⟨T, hT⟩ : ∃ T, min L.length n = T := ⟨_, rfl⟩
  have hTn : T ≤ n := by omega
  have hTL : T ≤ L.length := by omega
  have hTc : T ≤ c := by omega
  have hmin : (if (L.length : Int) < (n : Int) then (L.length : Int) else (n : Int)) = (T : Int) := by split <;> omega
  have HT := Lib.hid hT
  have HMIN := Lib.hid hmin
  have HH := Lib.hid h
  have HF := Lib.hid hF
  have HP := Lib.hid hP
  have HN := Lib.hid hN
  have HPL := Lib.hid hP.1
  rw [hT]
  clear h hF hP hN hT hmin
  go_enter Try.func17, Try.ntmps17
  go_wp2_with fail
  refine (p_made p vS _ S L g w HH.out).mono ?_
  rintro e w1 ⟨rfl, rfl⟩
  go_wp2_with (first | (refine wpList_val rfl (exec_min rfl rfl rfl HMIN.out) ?_) | (refine wpList_val rfl (exec_cutI rfl rfl rfl hTc) ?_) | fail)
  clear c0 c1 c2 c3
  obtain ⟨A', hA'⟩ : ∃ A', cutA A c = A' := ⟨_, rfl⟩
  have HA' := Lib.hid hA'
  rw [hA']
  clear hA'
  go_loopw [7, 8, 9, 10, 26] (fun v7 v8 v9 v10 i wr => ∃ j : Nat, j ≤ T ∧ i = .int .i64 j ∧ PD wr p vS (.slice AL L.length cL) (crI S L P j) L g ∧ Only (foot p vS (.slice AL L.length cL)) w wr) (fun _ _ _ _ i _ => T - (intOf i).toNat)
  case atStart => exact ⟨0, Nat.zero_le _, rfl, HH.out, Only.refl _ _⟩
  case round =>
    obtain ⟨j, hj, rfl, hr, hon⟩ := hrel
    have HB := Lib.hid (HP.out.only hon (Nat.le_refl _) HN.out)
    by_cases hlt : j < T
    · have hjL : j < L.length := by omega
      have hjn : j < n := by omega
      obtain rfl : g = false := by
        cases g
        · rfl
        · have := hr.dead rfl
          subst this
          simp at hjL
      obtain ⟨k, hqk, hk⟩ := HF.out.at_ hjL
      have hlenS := crI_len S L P j
      have hstep : crI S L P (j + 1) = (crI S L P j).set k (torn ((crI S L P j).getD k zeroB) (L.getD j (0, zeroB)).2 (P.getD j 0)) := by rw [crI, hqk]; rfl
      obtain ⟨gS, cS, rfl⟩ := hr.alive.slice hlenS (by omega)
      obtain ⟨bA, oA, hAe, hAl, rA⟩ := hr.L_.rd.pairs hjL
      obtain ⟨bP, oP, hPe, _, cP⟩ := HB.out.int hjn
      have hA2 : A' = some ⟨bP, oP, none⟩ := by have := HA'.out; rw [hPe, cutA_some] at this; exact this.symm
      generalize hq : L.getD j (0, zeroB) = q at *
      obtain ⟨q1, x⟩ := q
      obtain rfl : q1 = (k : Int) := hqk
      generalize P.getD j 0 = z at *
      have h1 := hr.below ((Below.refl _ _).alloc (Nat.le_refl _) (.cells (cel65 ((k : Int), x)).toArray LwE.t))
      have HON := Lib.hid (hon.alloc (.cells (cel65 ((k : Int), x)).toArray LwE.t))
      have hnw := pair_new wr ((k : Int), x) LwE.t
      obtain ⟨c0, c1, c2, c3⟩ := cells4 hr.at_
      have HRA := Lib.hid rA
      have HST := Lib.hid hstep
      have HKM := Lib.hid (kp_max z)
      have HKI := Lib.hid (kp_is z)
      have HKL := Lib.hid (kp_le z)
      have HTC := Lib.hid (fun y : Blk => torn_cel y x z)
      subst hAe
      subst hA2
      clear rA hr hon hq hstep HA' hPe
      have hLL : (j : Int) < (T : Int) := by omega
      go_wp2_with (first | (refine wpList_val rfl (exec_ixI rfl rfl rfl hlt) ?_) | (refine wpList_val rfl (exec_indexE (E := LwE) rfl rfl rfl hjL) ?_) | (refine wpList_val rfl (exec_loadW rfl rfl HRA.out) ?_) | (refine wpList_val rfl (exec_allocW rfl) ?_) | (refine wpList_nul rfl (exec_fillW rfl rfl rfl) ?_) | (refine wpList_val rfl (exec_max rfl rfl rfl HKM.out) ?_) | (refine wpList_val rfl (exec_min rfl rfl rfl HKI.out) ?_) | fail)
      generalize hy : wr.heap.size = y at *
      generalize wr.alloc (.cells (cel65 ((k : Int), x)).toArray LwE.t) = w1 at *
      clear c0 c1 c2 c3
      obtain ⟨c0, c1, c2, c3⟩ := cells4 h1.at_
      have HA := Lib.hid c1
      have HNW := Lib.hid hnw
      have H1 := Lib.hid h1
      have hlen : ((cel x).take (kp z)).length = kp z := by rw [List.length_take, cel_length]; have := HKL.out; omega
      have HLEN := Lib.hid hlen
      have HKT := Lib.hid (show w1.there gS (k * 64) ((cel x).take (kp z)).length from by
        have := H1.out.alive.there hk (j := 0) (m := ((cel x).take (kp z)).length) (by rw [hlen]; have := HKL.out; show 0 + _ ≤ 64; omega)
        rw [Nat.add_zero] at this
        exact this)
      have HSRC := Lib.hid (show ∀ m v, ((cel x).take (kp z))[m]? = some v → w1.cell? ((⟨y, 1, none⟩ : Addr).add m) = some v from fun m v hm => by
        rw [add_mid]
        have hm2 : m < kp z := by have := (List.getElem?_eq_some_iff.1 hm).1; rwa [hlen] at this
        rw [List.getElem?_take_of_lt hm2] at hm
        exact HNW.out.2 m v hm)
      have HONE := Lib.hid (show ∀ v ∈ (cel x).take (kp z), v.oneCell' = true from fun v hv => cel_one x v (List.mem_of_mem_take hv))
      clear c0 c1 c2 c3 hnw h1 hlenS hlen
      refine wp_region_still_tail 12 (by kernel_rfl) (by kernel_rfl) ?_
      simp only [List.take_succ_cons, List.take_zero, List.drop_succ_cons, List.drop_zero]
      refine st_val rfl (exec_mv rfl (ev rfl)) ?_
      simp only [Act.put, List.setIfInBounds_toArray, List.set_cons_succ, List.set_cons_zero]
      refine st_val rfl (exec_nil rfl (ev rfl)) ?_
      simp only [Act.put, List.setIfInBounds_toArray, List.set_cons_succ, List.set_cons_zero]
      refine st_val rfl (exec_faddr rfl (ev rfl) faP1) ?_
      simp only [Act.put, List.setIfInBounds_toArray, List.set_cons_succ, List.set_cons_zero]
      refine st_val rfl (exec_ld rfl (ev rfl) (ldB HA.out)) ?_
      simp only [Act.put, List.setIfInBounds_toArray, List.set_cons_succ, List.set_cons_zero]
      refine st_val rfl (exec_faddr rfl (ev rfl) faV0) ?_
      simp only [Act.put, List.setIfInBounds_toArray, List.set_cons_succ, List.set_cons_zero]
      refine st_val rfl (exec_ld rfl (ev rfl) (ldI HNW.out.1)) ?_
      simp only [Act.put, List.setIfInBounds_toArray, List.set_cons_succ, List.set_cons_zero]
      refine st_val rfl (exec_ix0B rfl (ev rfl) (ev rfl) hk) ?_
      simp only [Act.put, List.setIfInBounds_toArray, List.set_cons_succ, List.set_cons_zero]
      refine st_val rfl (exec_mv rfl (ev rfl)) ?_
      simp only [Act.put, List.setIfInBounds_toArray, List.set_cons_succ, List.set_cons_zero]
      refine st_val rfl (exec_cutB rfl (ev rfl) (ev rfl) HKL.out) ?_
      simp only [Act.put, List.setIfInBounds_toArray, List.set_cons_succ, List.set_cons_zero]
      refine st_val rfl (exec_faddr rfl (ev rfl) faV1) ?_
      simp only [Act.put, List.setIfInBounds_toArray, List.set_cons_succ, List.set_cons_zero]
      refine st_val rfl (exec_mv rfl (ev rfl)) ?_
      simp only [Act.put, List.setIfInBounds_toArray, List.set_cons_succ, List.set_cons_zero]
      refine st_val rfl (exec_cutB rfl (ev rfl) (ev rfl) HKL.out) ?_
      simp only [Act.put, List.setIfInBounds_toArray, List.set_cons_succ, List.set_cons_zero]
      refine wpStill_nil ?_
      change wpList _ _ _ _ _ w1.drew
      refine wpList_val rfl (exec_copyS (cs := (cel x).take (kp z)) rfl (ev rfl) (ev rfl) (by rw [HLEN.out]; exact (Nat.min_self _).symm) HSRC.out HKT.out HONE.out) ?_
      simp only [Act.put, List.setIfInBounds_toArray, List.set_cons_succ, List.set_cons_zero]
      go_wp2_with fail
      go_roundw
      case rel =>
        have hd : PD w1.drew p (.slice (some ⟨gS, 0, none⟩) S.length cS) (.slice (some ⟨bA, oA, none⟩) L.length cL) (crI S L P j) L false := ⟨H1.out.at_, H1.out.one, H1.out.S_, H1.out.L_, H1.out.dead⟩
        exact ⟨j + 1, by omega, by go_num, by rw [HST.out]; exact hd.putS hk _ (HTC.out _) (by rw [HLEN.out]; have := HKL.out; omega), HON.out.drew.setCells (.inl (.inr (.inl rfl))) _ _⟩
      case measure => simp [intOf]; omega
    · have hjn : j = T := by omega
      subst hjn
      obtain ⟨c0, c1, c2, c3⟩ := cells4 hr.at_
      have f2 := frozen_of_row wr p 2 _ _ hr.at_
      have HRr := Lib.hid hr
      have HON := Lib.hid hon
      clear hr hon
      have hLL : ¬((j : Int) < (j : Int)) := by omega
      go_wp2_with fail
      go_ret2
      have hd := HRr.out.setL (MadeE.nil _ _) (fun _ => rfl)
      have hcr : crI S L P L.length = crI S L P j := by
        rcases Nat.lt_or_ge j L.length with e | e
        · have e2 : L.length = j + (L.length - j) := by omega
          rw [e2]
          exact crI_rest S L P j _ (by have := HPL.out; have := HT.out; omega)
        · have e2 : j = L.length := by omega
          rw [← e2]
      rw [hcr]
      exact ⟨rfl, hd, HON.out.setCell (.inl (.inl rfl)) _⟩
end Go.Proofs.Ytokdmcikoaagmaa
