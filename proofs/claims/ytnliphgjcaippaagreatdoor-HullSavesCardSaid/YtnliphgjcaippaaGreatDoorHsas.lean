import Derived.Test.YtnliphgjcaippaaGreatDoorHsan
import Derived.Test.YtnliphgjcaippaaGreatDoorHsZ
namespace Go.Proofs.YtnliphgjcaippaaGreatDoor
open Go.RowKit
set_option linter.unusedVariables false
set_option linter.unusedSimpArgs false
set_option maxRecDepth 100000
section
variable {ρ : Operand → Value} {o : Oper} {x y : Operand} {w : World}
theorem run_bld2S (n k : Int) (w : World) : (Instr.build 62 #[(0, .int .u64 n), (1, .int .i64 k)]).run Tryz.prog w = .ok (.agg ((Value.int .u64 n :: Value.int .i64 k :: aH aZ).toArray)) w := by kernel_rfl
theorem exec_bld2S (n : Nat) (k : Int) {u v : Operand} (ho : o.op = .build 62 #[(0, u), (1, v)]) (hu : ρ u = .int .u64 (n : Int)) (hv : ρ v = .int .i64 k) : (execOp ρ o).run Tryz.prog w = .ok (.value (sup ⟨n, k, aZ⟩)) w := by
  have h := run_bld2S (n : Int) k w
  subst_vars
  unfold execOp
  simp only [ho, hu, hv, List.map_toArray, List.map_cons, List.map_nil, Sem.run_bind, h, Result.andThen_ok, Sem.run_pure]
  rfl
theorem run_bld3G (m s r : Int) (w : World) : (Instr.build 25 #[(0, .int .i64 m), (1, .int .i64 s), (2, .int .i64 r)]).run Tryz.prog w = .ok (.agg #[.int .i64 m, .int .i64 s, .int .i64 r]) w := by kernel_rfl
theorem exec_bld3G (m s r : Int) {u v z : Operand} (ho : o.op = .build 25 #[(0, u), (1, v), (2, z)]) (hu : ρ u = .int .i64 m) (hv : ρ v = .int .i64 s) (hz : ρ z = .int .i64 r) : (execOp ρ o).run Tryz.prog w = .ok (.value (.agg #[.int .i64 m, .int .i64 s, .int .i64 r])) w := by
  have h := run_bld3G m s r w
  unfold execOp
  simp only [ho, hu, hv, hz, List.map_toArray, List.map_cons, List.map_nil, Sem.run_bind, h, Result.andThen_ok, Sem.run_pure]
theorem exec_putG3 (m s r : Int) {g off : Nat} (ho : o.op = .store 25 x y) (hx : ρ x = .pointer (some ⟨g, off, none⟩)) (hy : ρ y = .agg #[.int .i64 m, .int .i64 s, .int .i64 r]) (ht : w.there g off 3) :
    (execOp ρ o).run Tryz.prog w = .ok .skip (((w.setCell ⟨g, off, none⟩ (.int .i64 m)).setCell ⟨g, off + 1, none⟩ (.int .i64 s)).setCell ⟨g, off + 1 + 1, none⟩ (.int .i64 r)) :=
  eD (cs := [.int .i64 m, .int .i64 s, .int .i64 r]) sizeG (by intro v hv; simp only [List.mem_cons, List.not_mem_nil, or_false] at hv; rcases hv with rfl | rfl | rfl <;> rfl) ho hx hy ht
theorem ey {g c : Nat} (hc : 44 ≤ c) (ho : o.op = .slice 100 x (some (.const (.int .i64 14))) (some (.const (.int .i64 18))) none) (hx : ρ x = .slice (some ⟨g, 0, none⟩) 44 c) (h1 : ρ (.const (.int .i64 14)) = .int .i64 14) (h2 : ρ (.const (.int .i64 18)) = .int .i64 18) :
    (execOp ρ o).run Tryz.prog w = .ok (.value (.slice (some ⟨g, 14, none⟩) 4 (c - 14))) w := by
  have h : (Instr.sliceAt 100 (.slice (some ⟨g, 0, none⟩) 44 c) (some (.int .i64 14)) (some (.int .i64 18)) none).run Tryz.prog w = .ok (.slice (some ⟨g, 14, none⟩) 4 (c - 14)) w := by
    have := run_midU (w := w) (b := g) (off := 0) (n := 44) (c := c) (u := 14) (t := 18) (by omega) (by omega) (by omega)
    simpa using this
  unfold execOp
  simp only [ho, hx, h1, h2, Option.map_some, Option.map_none, Sem.run_bind, h, Result.andThen_ok, Sem.run_pure]
end
theorem exec_neqB {ρ : Operand → Value} {o : Oper} {x y : Operand} {w : World} {c d : Blk} {t : TypeId} (b : Bool) (ho : o.op = .binOp .neq 58 x y t) (hx : ρ x = blk c) (hy : ρ y = blk d) (h : (!decide (c = d)) = b) : (execOp ρ o).run Tryz.prog w = .ok (.value (.bool b)) w := by
  subst h; exact exec_neq ho hx hy
theorem setS_at (y : Sup) {j : Nat} (hj : j < 16) (u : UInt8) : (aL y).set (5 + j) (.int .u8 (u.toNat : Int)) = aL { y with ros := { y.ros with st := ofSt (y.ros.st.toList.set j u) } } := by
  obtain ⟨id, self, m, s, r, st, cur, gone⟩ := y
  show (aL ⟨id, self, ⟨m, s, r, st, cur, gone⟩⟩).set (5 + j) _ = aL ⟨id, self, ⟨m, s, r, ofSt (st.toList.set j u), cur, gone⟩⟩
  rw [celS_mk, celS_mk, dK (by simp)]
  have e : 5 + j = j + 1 + 1 + 1 + 1 + 1 := by omega
  rw [e]
  simp only [List.set_cons_succ]
  rw [List.set_append_left _ _ (by simp [aT]; omega)]
  unfold vals
  rw [List.map_set]
theorem bt_setL {l : List UInt8} {j k : Nat} (hj : j < l.length) (u : UInt8) : bt (l.set j u) k = if k = j then (u.toNat : Int) else bt l k := by
  by_cases h : k = j
  · subst h
    rw [if_pos rfl, cp (by simpa using hj)]
    simp
  · rw [if_neg h]
    unfold bt
    simp only [List.getD]
    rw [List.getElem?_set_ne (fun e => h e.symm)]
theorem val_one1 {l : List UInt8} {p : Nat} (h : p < l.length) : (val 8 (piece l p 1) : Int) = bt l p := by
  have e := val_piece_succ (b := l) (p := p) (k := 0) (by omega)
  have z : val 8 (piece l p 0) = 0 := by simp [piece, val]
  rw [z] at e
  simpa using e
structure RgW (w1 w' : World) (s : Nat) (y : Sup) : Prop where
  sup : bx w' s y
  bel : Below w1.heap.size w1 w'
  s0 : w1.heap.size ≤ s
section
variable {w1 w' w2 : World} {s : Nat} {y y' : Sup}
theorem RgW.keep (h : RgW w1 w' s y) (hb : Below w'.heap.size w' w2) : RgW w1 w2 s y := ⟨h.sup.below (aD h.sup) hb, h.bel.trans (hb.mono h.bel.size), h.s0⟩
theorem RgW.set (h : RgW w1 w' s y) (j : Nat) (v : Value) (e : (aL y).set j v = aL y') : RgW w1 (w'.setCell ⟨s, j, none⟩ v) s y' :=
  ⟨h.sup.set e, h.bel.grown (dU w' s j v) h.bel.size (fun k hk => by injection hk with e; have := h.s0; omega), h.s0⟩
theorem RgW.start (w1 : World) (y : Sup) : RgW w1 (w1.alloc (.cells (aL y).toArray 62)) w1.heap.size y := ⟨bx.new w1 y, (Below.refl _ _).alloc (Nat.le_refl _) _, Nat.le_refl _⟩
theorem RgW.out (h : RgW w1 w' s y) {w : World} (hB : Below w.heap.size w w1) : Below w.heap.size w w' := hB.trans (h.bel.mono hB.size)
end
set_option maxHeartbeats 1000000 in
theorem rsget_seal (b : Blk) (w : World) (h : cr b.toList ≠ 0) : Calls Tryz.prog 52 #[blk b] w fun e w' => e = .returned (.tuple #[.int .u64 (0 : Nat), sup a7, .int .i64 (cr b.toList : Nat)]) ∧ Below w.heap.size w w' := by
  obtain ⟨n, hn⟩ : ∃ n, cq b.toList = n := ⟨_, rfl⟩
  obtain ⟨l, hl⟩ : ∃ l, bW b.toList = l := ⟨_, rfl⟩
  have h1 := (Below.refl w.heap.size w).alloc (Nat.le_refl _) (.cells (cel b).toArray 58)
  have h2 := h1.alloc h1.size (.cells (aL a7).toArray 62)
  have HA : Hid (((w.alloc (.cells (cel b).toArray 58)).alloc (.cells (aL a7).toArray 62)).rangeAt w.heap.size 0 (cel b)) := Lib.hid (World.rangeAt_alloc (cg w (cel b) 58) _)
  have hsn := bx.new (w.alloc (.cells (cel b).toArray 58)) a7
  rw [World.size_alloc] at hsn
  have HR := Lib.hid (ch (o := 0) (n := 23) hsn (by rw [ax]; exact Nat.le_refl _))
  have HZ := Lib.hid (aD hsn)
  have HB := Lib.hid h2
  have HN := Lib.hid hn
  have HL := Lib.hid hl
  clear h1 h2 hsn
  obtain ⟨E, hE⟩ : ∃ E, cr b.toList = E := ⟨_, rfl⟩
  rw [hE] at h
  have HE := Lib.hid hE
  have hne : ((E : Int) != 0) = true := by simp; omega
  clear hE hn hl
  go_enter Tryz.func52, Tryz.ntmps52
  go_wp2_with (first | (refine af rfl (bu rfl rfl) ?_) | (refine af rfl (aX rfl) ?_) | (refine af rfl (aV (c := b) rfl rfl ?_) ?_; (with_reducible exact HA.out)) | fail)
  try simp only [World.size_alloc]
  generalize (w.alloc (.cells (cel b).toArray 58)).alloc (.cells (aL a7).toArray 62) = w0 at *
  refine (rget_any b _ w0 (Lib.hid rfl)).mono ?_
  rintro e w1 ⟨v, rfl, hv, hb⟩
  rw [HN.out]
  rw [HE.out]
  have HR1 := Lib.hid (aI HR.out HZ.out hb)
  have HB1 := Lib.hid (HB.out.trans (hb.mono HB.out.size))
  clear hv hb HA HR HB
  go_wp2_with (first | (refine af rfl (dt rfl) ?_) | (refine av rfl (bP (c := a7) rfl rfl rfl ?_) ?_; (with_reducible exact HR1.out)) | fail)
  refine bodyPost_ret (da (t := 62) (cs := aL a7) rfl _ _ _ rfl ?h1 Tryz.underlying62 rfl ?h2) rfl ⟨by rw [HE.out]; rfl, ?h3⟩
  case h1 => exact World.rangeAt_setCells_same _ _ _ _ (by rw [ax]; exact HR1.out)
  case h2 => rw [ax]; exact dA
  case h3 => exact below_setCells HB1.out (Nat.le_succ _) _
set_option maxHeartbeats 4000000 in
theorem rsget_ev (b : Blk) (w : World) (h0 : cr b.toList = 0) (hev : evB (cq b.toList) = false) : Calls Tryz.prog 52 #[blk b] w fun e w' => e = .returned (.tuple #[.int .u64 (0 : Nat), sup a7, .int .i64 (5 : Nat)]) ∧ Below w.heap.size w w' := by
  obtain ⟨n, hn⟩ : ∃ n, cq b.toList = n := ⟨_, rfl⟩
  obtain ⟨l, hl⟩ : ∃ l, bW b.toList = l := ⟨_, rfl⟩
  have h1 := (Below.refl w.heap.size w).alloc (Nat.le_refl _) (.cells (cel b).toArray 58)
  have h2 := h1.alloc h1.size (.cells (aL a7).toArray 62)
  have HA : Hid (((w.alloc (.cells (cel b).toArray 58)).alloc (.cells (aL a7).toArray 62)).rangeAt w.heap.size 0 (cel b)) := Lib.hid (World.rangeAt_alloc (cg w (cel b) 58) _)
  have hsn := bx.new (w.alloc (.cells (cel b).toArray 58)) a7
  rw [World.size_alloc] at hsn
  have HR := Lib.hid (ch (o := 0) (n := 23) hsn (by rw [ax]; exact Nat.le_refl _))
  have HZ := Lib.hid (aD hsn)
  have HB := Lib.hid h2
  have HN := Lib.hid hn
  have HL := Lib.hid hl
  clear h1 h2 hsn
  rw [hn] at hev
  have HEV := Lib.hid hev
  clear hev
  have hll : l.length = 44 := by rw [← hl]; exact dB h0
  have HLL := Lib.hid hll
  obtain ⟨I, hI⟩ : ∃ I : Nat, val 8 (piece l 0 8) = I := ⟨_, rfl⟩
  obtain ⟨M, hM⟩ : ∃ M : Nat, val 8 (piece l 8 1) = M := ⟨_, rfl⟩
  obtain ⟨T, hT⟩ : ∃ T : Nat, val 8 (piece l 9 2) = T := ⟨_, rfl⟩
  obtain ⟨R, hR⟩ : ∃ R : Nat, val 8 (piece l 11 2) = R := ⟨_, rfl⟩
  obtain ⟨E, hE⟩ : ∃ E : Nat, val 8 (piece l 13 1) = E := ⟨_, rfl⟩
  obtain ⟨C, hC⟩ : ∃ C : Nat, val 8 (piece l 18 2) = C := ⟨_, rfl⟩
  obtain ⟨G, hG⟩ : ∃ G : Nat, val 8 (piece l 20 1) = G := ⟨_, rfl⟩
  obtain ⟨gb, hgb⟩ : ∃ gb, decide (G = 1) = gb := ⟨_, rfl⟩
  have hgg : (bt l 20 == 1) = gb := by
    have e := val_one1 (l := l) (p := 20) (by omega)
    rw [hG] at e
    rw [← e, ← hgb, Bool.eq_iff_iff]; simp; omega
  obtain ⟨st, hst⟩ : ∃ st, aC 2 16 (val 8 (piece l 14 4)) = st := ⟨_, rfl⟩
  have HST := Lib.hid hst
  have HSL : Hid (st.length = 16) := Lib.hid (by rw [← hst, ar])
  have HDEF : Hid (bm l = ⟨I, (E : Nat), ⟨(M : Nat), (T : Nat), (R : Nat), ofSt st, (C : Nat), gb⟩⟩) := Lib.hid (by unfold bm; rw [hI, hM, hT, hR, hE, hC, hG, hgb, hst])
  have HGB := Lib.hid hgg
  have H0 := Lib.hid h0
  have HII := Lib.hid hI
  have HMM := Lib.hid hM
  have HTT := Lib.hid hT
  have HRR := Lib.hid hR
  have HEE := Lib.hid hE
  have HCC := Lib.hid hC
  have HGG := Lib.hid hG
  clear hI hM hT hR hE hC hG hgb hst hll hgg h0 hn hl
  go_enter Tryz.func52, Tryz.ntmps52
  go_wp2_with (first | (refine af rfl (bu rfl rfl) ?_) | (refine af rfl (aX rfl) ?_) | (refine af rfl (aV (c := b) rfl rfl ?_) ?_; (with_reducible exact HA.out)) | fail)
  try simp only [World.size_alloc]
  generalize (w.alloc (.cells (cel b).toArray 58)).alloc (.cells (aL a7).toArray 62) = w0 at *
  refine (rget_any b _ w0 (Lib.hid rfl)).mono ?_
  rintro e w1 ⟨v, rfl, hv, hb⟩
  rw [HN.out]
  rw [H0.out]
  rw [HL.out] at hv
  obtain ⟨g, c, rfl, _, hc1, hc2⟩ := hv.some (by rw [HLL.out]; omega)
  rw [HLL.out] at hc1 hv ⊢
  have HRD := Lib.hid hv.rd
  have HR1 := Lib.hid (aI HR.out HZ.out hb)
  have HA1 := Lib.hid (br HA.out (by have := HZ.out; omega) hb)
  have HB1 := Lib.hid (HB.out.trans (hb.mono HB.out.size))
  have HZ1 : Hid (w.heap.size + 1 < w1.heap.size) := Lib.hid (Nat.lt_of_lt_of_le HZ.out hb.size)
  have HC1 := Lib.hid hc1
  clear hv hb HA HR HB HZ hc1 hc2
  go_wp2_with fail
  refine (dc _ 44 c _ l 0 8 w1 HRD.out (by unfold maxLen; omega) (by omega) (by omega) (by omega)).mono ?_
  rintro e w' ⟨rfl, rfl⟩
  rw [HII.out]
  go_wp2_with fail
  refine (cw _ 44 c _ l 13 1 w1 HRD.out (by unfold maxLen; omega) (by omega) (by omega) (by omega)).mono ?_
  rintro e w' ⟨rfl, rfl⟩
  rw [HEE.out]
  have HW0 := Lib.hid (RgW.start w1 ⟨I, (E : Nat), aZ⟩)
  go_upto_region 6 with (first | (refine af rfl (exec_bld2S I (E : Nat) rfl rfl rfl) ?_) | (refine af rfl (aX rfl) ?_) | (refine av rfl (bZ rfl rfl rfl) ?_) | fail)
  generalize w1.alloc (.cells (aL ⟨I, (E : Nat), aZ⟩).toArray 62) = w2 at *
  obtain ⟨s, hs⟩ : ∃ s, w1.heap.size = s := ⟨_, rfl⟩
  have HSD := Lib.hid hs
  rw [hs] at HW0 ⊢
  clear hs
  have HRD2 := Lib.hid (HRD.out.below HW0.out.bel)
  go_wp2_with fail
  refine (cw _ 44 c _ l 8 1 _ HRD2.out (by unfold maxLen; omega) (by omega) (by omega) (by omega)).mono ?_
  rintro e w' ⟨rfl, rfl⟩
  rw [HMM.out]
  go_wp2_with fail
  refine (cw _ 44 c _ l 9 2 _ HRD2.out (by unfold maxLen; omega) (by omega) (by omega) (by omega)).mono ?_
  rintro e w' ⟨rfl, rfl⟩
  rw [HTT.out]
  go_wp2_with fail
  refine (cw _ 44 c _ l 11 2 _ HRD2.out (by unfold maxLen; omega) (by omega) (by omega) (by omega)).mono ?_
  rintro e w' ⟨rfl, rfl⟩
  rw [HRR.out]
  have HTH := Lib.hid (ch (o := 2) (n := 3) HW0.out.sup (by rw [ax]; omega))
  have HW1 : Hid (RgW w1 (((w2.setCell ⟨s, 2, none⟩ (.int .i64 (M : Nat))).setCell ⟨s, 2 + 1, none⟩ (.int .i64 (T : Nat))).setCell ⟨s, 2 + 1 + 1, none⟩ (.int .i64 (R : Nat))) s ⟨I, (E : Nat), ⟨(M : Nat), (T : Nat), (R : Nat), aZ.st, 0, false⟩⟩) :=
    Lib.hid (((HW0.out.set 2 _ (setS_m _ _)).set 3 _ (setS_s _ _)).set 4 _ (setS_r _ _))
  go_upto_region 7 with (first | (refine af rfl (exec_bld3G (M : Nat) (T : Nat) (R : Nat) rfl rfl rfl rfl) ?_) | (refine av rfl (exec_putG3 (M : Nat) (T : Nat) (R : Nat) rfl rfl rfl HTH.out) ?_) | fail)
  generalize ((w2.setCell ⟨s, 2, none⟩ (.int .i64 (M : Nat))).setCell ⟨s, 2 + 1, none⟩ (.int .i64 (T : Nat))).setCell ⟨s, 2 + 1 + 1, none⟩ (.int .i64 (R : Nat)) = w3 at *
  clear HRD2 HTH HW0
  have HRD3 := Lib.hid (HRD.out.below HW1.out.bel)
  have HRD4 : Hid (Rd w3 w1.heap.size (some ⟨g, 14, none⟩) 4 (piece l 14 4)) := Lib.hid ⟨bJ (by rw [HLL.out]; omega), fun j hj => by
    obtain ⟨b0, o0, e, hb0, hc0⟩ := HRD3.out.2 (14 + j) (by omega)
    injection e with e
    injection e with e1 e2
    subst e1 e2
    refine ⟨g, 14, rfl, hb0, ?_⟩
    rw [eM hj]
    rw [Nat.zero_add] at hc0
    exact hc0⟩
  have hs1 := HW1.out.bel.size
  go_wp2_with (first | (refine af rfl (ey HC1.out rfl rfl rfl rfl) ?_) | fail)
  refine (runbits_ok _ 4 (c - 14) _ 2 16 _ (piece l 14 4) w3 (Lib.hid rfl) HRD4.out hs1 (by omega) (by omega) (by omega) (by omega) (by decide)).mono ?_
  rintro e w4 ⟨v, rfl, hv, hb⟩
  rw [HST.out] at hv
  obtain ⟨A, cc, rfl, _, _, _⟩ := hv.open_ HSL.out
  have HV := Lib.hid hv
  have HW2 := Lib.hid (HW1.out.keep hb)
  have HSB : Hid (s < w3.heap.size) := Lib.hid (aD HW1.out.sup)
  clear hv hb HRD3 HRD4 HW1 hs1
  obtain ⟨B4, hB4⟩ : ∃ B4, w3.heap.size = B4 := ⟨_, rfl⟩
  rw [hB4] at HV HSB
  clear hB4
  go_wp2_with fail
  go_loopw [13] (fun i wr => ∃ j : Nat, j ≤ 16 ∧ i = .int .i64 j ∧ ∃ z : Vector UInt8 16, RgW w1 wr s ⟨I, (E : Nat), ⟨(M : Nat), (T : Nat), (R : Nat), z, 0, false⟩⟩ ∧ (∀ k, k < j → bt z.toList k = bt st k) ∧ Made wr B4 (.slice A 16 cc) st) (fun i _ => 16 - (intOf i).toNat)
  case atStart => exact ⟨0, Nat.zero_le _, rfl, _, HW2.out, fun k hk => absurd hk (by omega), HV.out⟩
  case round =>
    obtain ⟨j, hj, rfl, z, hW, hz, hM⟩ := hrel
    have HWR := Lib.hid hW
    have HZR := Lib.hid hz
    have HMR := Lib.hid hM
    clear hW hz hM
    by_cases hlt : j < 16
    · obtain ⟨bA, oA, rfl, hA, cA⟩ := HMR.out.rd.2 j hlt
      have cs := HWR.out.sup.sta hlt
      have fs := HWR.out.sup.free (5 + j)
      have hu : bt st j = ((st.getD j 0).toNat : Int) := rfl
      rw [hu] at cA
      have HU := Lib.hid hu
      clear hu
      obtain ⟨u, hu⟩ : ∃ u, st.getD j 0 = u := ⟨_, rfl⟩
      rw [hu] at cA HU
      clear hu
      have HW' := Lib.hid (HWR.out.set (5 + j) _ (setS_at _ hlt u))
      have HM' := Lib.hid (HMR.out.kept1 (dU wr s (5 + j) (.int .u8 (u.toNat : Int))) (fun k hk => by injection hk with e; have := HSB.out; omega))
      have HZ' : Hid (∀ k, k < j + 1 → bt (ofSt (z.toList.set j u)).toList k = bt st k) := Lib.hid fun k hk => by
        rw [dK (by simp), bt_setL (by simpa using hlt)]
        split
        · rename_i e; rw [e, HU.out]
        · exact HZR.out k (by omega)
      go_wp2_with fail
      go_roundw
      case rel => exact ⟨j + 1, by omega, by go_num, _, HW'.out, HZ'.out, HM'.out⟩
      case measure => simp [intOf]; omega
    · have e : j = 16 := by omega
      subst e
      have hzst : z = ofSt st := by
        rw [← dp z]
        congr 1
        exact dl (by rw [HSL.out]; simp) fun k hk => HZR.out k (by simpa using hk)
      subst hzst
      clear HMR HZR HV HW2
      have HRD5 := Lib.hid (HRD.out.below HWR.out.bel)
      go_wp2_with fail
      refine (cw _ 44 c _ l 18 2 _ HRD5.out (by unfold maxLen; omega) (by omega) (by omega) (by omega)).mono ?_
      rintro e w' ⟨rfl, rfl⟩
      rw [HCC.out]
      have cs := HWR.out.sup.cells.2.2.2.2.2.1
      have fs := HWR.out.sup.free 21
      have HW6 : Hid (RgW w1 (wr.setCell ⟨s, 21, none⟩ (.int .i64 (C : Nat))) s ⟨I, (E : Nat), ⟨(M : Nat), (T : Nat), (R : Nat), ofSt st, (C : Nat), false⟩⟩) := Lib.hid (HWR.out.set 21 _ (setS_cur _ _))
      clear HWR HRD5
      go_upto_region 13 with fail
      generalize wr.setCell ⟨s, 21, none⟩ (.int .i64 (C : Nat)) = w6 at *
      clear cs fs
      obtain ⟨b20, o20, e20, hb20, c20⟩ := (HRD.out.below HW6.out.bel).2 20 (by omega)
      injection e20 with e20
      injection e20 with e1 e2
      subst e1 e2
      have cs := HW6.out.sup.cells.2.2.2.2.2.2
      have fs := HW6.out.sup.free 22
      have HW7 : Hid (RgW w1 (w6.setCell ⟨s, 22, none⟩ (.bool (bt l 20 == 1))) s ⟨I, (E : Nat), ⟨(M : Nat), (T : Nat), (R : Nat), ofSt st, (C : Nat), gb⟩⟩) := Lib.hid (HW6.out.set 22 _ (by rw [HGB.out]; exact setS_gone _ _))
      rw [← HDEF.out] at HW7
      clear HW6
      go_upto_region 14 with fail
      generalize w6.setCell ⟨s, 22, none⟩ (.bool (bt l 20 == 1)) = w7 at *
      clear cs fs c20 hb20 HGB HDEF HST HSL HII HMM HTT HRR HEE HCC HSB
      obtain ⟨y, hy⟩ : ∃ y, bm l = y := ⟨_, rfl⟩
      rw [hy] at HW7
      have HY := Lib.hid hy
      clear hy
      have HB7 := Lib.hid (HW7.out.out HB1.out)
      have HR7 := Lib.hid (aI HR1.out HZ1.out HW7.out.bel)
      have HA7 := Lib.hid (br HA1.out (by have := HZ1.out; omega) HW7.out.bel)
      have HZ7 : Hid (w.heap.size + 1 < w7.heap.size) := Lib.hid (Nat.lt_of_lt_of_le HZ1.out HW7.out.bel.size)
      have HS7 := Lib.hid HW7.out.sup
      clear HW7 HA1 HR1 HB1 HZ1 HRD
      go_wp2_with fail
      refine (revent n w7).mono ?_
      rintro e w' ⟨rfl, rfl⟩
      rw [HEV.out]
      go_wp2_with (first | (refine af rfl (dt rfl) ?_) | (refine av rfl (bP (c := a7) rfl rfl rfl ?_) ?_; (with_reducible exact HR7.out)) | fail)
      refine bodyPost_ret (da (t := 62) (cs := aL a7) rfl _ _ _ rfl ?h1 Tryz.underlying62 rfl ?h2) rfl ⟨rfl, ?h3⟩
      case h1 => exact World.rangeAt_setCells_same _ _ _ _ (by rw [ax]; exact HR7.out)
      case h2 => rw [ax]; exact dA
      case h3 => exact below_setCells HB7.out (Nat.le_succ _) _
set_option maxHeartbeats 4000000 in
theorem rsget_may (b : Blk) (w : World) (h0 : cr b.toList = 0) (hev : evB (cq b.toList) = true) (hm : supB (bm (bW b.toList)) = false) : Calls Tryz.prog 52 #[blk b] w fun e w' => e = .returned (.tuple #[.int .u64 (0 : Nat), sup a7, .int .i64 (5 : Nat)]) ∧ Below w.heap.size w w' := by
  obtain ⟨n, hn⟩ : ∃ n, cq b.toList = n := ⟨_, rfl⟩
  obtain ⟨l, hl⟩ : ∃ l, bW b.toList = l := ⟨_, rfl⟩
  have h1 := (Below.refl w.heap.size w).alloc (Nat.le_refl _) (.cells (cel b).toArray 58)
  have h2 := h1.alloc h1.size (.cells (aL a7).toArray 62)
  have HA : Hid (((w.alloc (.cells (cel b).toArray 58)).alloc (.cells (aL a7).toArray 62)).rangeAt w.heap.size 0 (cel b)) := Lib.hid (World.rangeAt_alloc (cg w (cel b) 58) _)
  have hsn := bx.new (w.alloc (.cells (cel b).toArray 58)) a7
  rw [World.size_alloc] at hsn
  have HR := Lib.hid (ch (o := 0) (n := 23) hsn (by rw [ax]; exact Nat.le_refl _))
  have HZ := Lib.hid (aD hsn)
  have HB := Lib.hid h2
  have HN := Lib.hid hn
  have HL := Lib.hid hl
  clear h1 h2 hsn
  rw [hn] at hev
  rw [hl] at hm
  have HEV := Lib.hid hev
  have HM0 := Lib.hid hm
  clear hev hm
  have hll : l.length = 44 := by rw [← hl]; exact dB h0
  have HLL := Lib.hid hll
  obtain ⟨I, hI⟩ : ∃ I : Nat, val 8 (piece l 0 8) = I := ⟨_, rfl⟩
  obtain ⟨M, hM⟩ : ∃ M : Nat, val 8 (piece l 8 1) = M := ⟨_, rfl⟩
  obtain ⟨T, hT⟩ : ∃ T : Nat, val 8 (piece l 9 2) = T := ⟨_, rfl⟩
  obtain ⟨R, hR⟩ : ∃ R : Nat, val 8 (piece l 11 2) = R := ⟨_, rfl⟩
  obtain ⟨E, hE⟩ : ∃ E : Nat, val 8 (piece l 13 1) = E := ⟨_, rfl⟩
  obtain ⟨C, hC⟩ : ∃ C : Nat, val 8 (piece l 18 2) = C := ⟨_, rfl⟩
  obtain ⟨G, hG⟩ : ∃ G : Nat, val 8 (piece l 20 1) = G := ⟨_, rfl⟩
  obtain ⟨gb, hgb⟩ : ∃ gb, decide (G = 1) = gb := ⟨_, rfl⟩
  have hgg : (bt l 20 == 1) = gb := by
    have e := val_one1 (l := l) (p := 20) (by omega)
    rw [hG] at e
    rw [← e, ← hgb, Bool.eq_iff_iff]; simp; omega
  obtain ⟨st, hst⟩ : ∃ st, aC 2 16 (val 8 (piece l 14 4)) = st := ⟨_, rfl⟩
  have HST := Lib.hid hst
  have HSL : Hid (st.length = 16) := Lib.hid (by rw [← hst, ar])
  have HDEF : Hid (bm l = ⟨I, (E : Nat), ⟨(M : Nat), (T : Nat), (R : Nat), ofSt st, (C : Nat), gb⟩⟩) := Lib.hid (by unfold bm; rw [hI, hM, hT, hR, hE, hC, hG, hgb, hst])
  have HGB := Lib.hid hgg
  have H0 := Lib.hid h0
  have HII := Lib.hid hI
  have HMM := Lib.hid hM
  have HTT := Lib.hid hT
  have HRR := Lib.hid hR
  have HEE := Lib.hid hE
  have HCC := Lib.hid hC
  have HGG := Lib.hid hG
  clear hI hM hT hR hE hC hG hgb hst hll hgg h0 hn hl
  go_enter Tryz.func52, Tryz.ntmps52
  go_wp2_with (first | (refine af rfl (bu rfl rfl) ?_) | (refine af rfl (aX rfl) ?_) | (refine af rfl (aV (c := b) rfl rfl ?_) ?_; (with_reducible exact HA.out)) | fail)
  try simp only [World.size_alloc]
  generalize (w.alloc (.cells (cel b).toArray 58)).alloc (.cells (aL a7).toArray 62) = w0 at *
  refine (rget_any b _ w0 (Lib.hid rfl)).mono ?_
  rintro e w1 ⟨v, rfl, hv, hb⟩
  rw [HN.out]
  rw [H0.out]
  rw [HL.out] at hv
  obtain ⟨g, c, rfl, _, hc1, hc2⟩ := hv.some (by rw [HLL.out]; omega)
  rw [HLL.out] at hc1 hv ⊢
  have HRD := Lib.hid hv.rd
  have HR1 := Lib.hid (aI HR.out HZ.out hb)
  have HA1 := Lib.hid (br HA.out (by have := HZ.out; omega) hb)
  have HB1 := Lib.hid (HB.out.trans (hb.mono HB.out.size))
  have HZ1 : Hid (w.heap.size + 1 < w1.heap.size) := Lib.hid (Nat.lt_of_lt_of_le HZ.out hb.size)
  have HC1 := Lib.hid hc1
  clear hv hb HA HR HB HZ hc1 hc2
  go_wp2_with fail
  refine (dc _ 44 c _ l 0 8 w1 HRD.out (by unfold maxLen; omega) (by omega) (by omega) (by omega)).mono ?_
  rintro e w' ⟨rfl, rfl⟩
  rw [HII.out]
  go_wp2_with fail
  refine (cw _ 44 c _ l 13 1 w1 HRD.out (by unfold maxLen; omega) (by omega) (by omega) (by omega)).mono ?_
  rintro e w' ⟨rfl, rfl⟩
  rw [HEE.out]
  have HW0 := Lib.hid (RgW.start w1 ⟨I, (E : Nat), aZ⟩)
  go_upto_region 6 with (first | (refine af rfl (exec_bld2S I (E : Nat) rfl rfl rfl) ?_) | (refine af rfl (aX rfl) ?_) | (refine av rfl (bZ rfl rfl rfl) ?_) | fail)
  generalize w1.alloc (.cells (aL ⟨I, (E : Nat), aZ⟩).toArray 62) = w2 at *
  obtain ⟨s, hs⟩ : ∃ s, w1.heap.size = s := ⟨_, rfl⟩
  have HSD := Lib.hid hs
  rw [hs] at HW0 ⊢
  clear hs
  have HRD2 := Lib.hid (HRD.out.below HW0.out.bel)
  go_wp2_with fail
  refine (cw _ 44 c _ l 8 1 _ HRD2.out (by unfold maxLen; omega) (by omega) (by omega) (by omega)).mono ?_
  rintro e w' ⟨rfl, rfl⟩
  rw [HMM.out]
  go_wp2_with fail
  refine (cw _ 44 c _ l 9 2 _ HRD2.out (by unfold maxLen; omega) (by omega) (by omega) (by omega)).mono ?_
  rintro e w' ⟨rfl, rfl⟩
  rw [HTT.out]
  go_wp2_with fail
  refine (cw _ 44 c _ l 11 2 _ HRD2.out (by unfold maxLen; omega) (by omega) (by omega) (by omega)).mono ?_
  rintro e w' ⟨rfl, rfl⟩
  rw [HRR.out]
  have HTH := Lib.hid (ch (o := 2) (n := 3) HW0.out.sup (by rw [ax]; omega))
  have HW1 : Hid (RgW w1 (((w2.setCell ⟨s, 2, none⟩ (.int .i64 (M : Nat))).setCell ⟨s, 2 + 1, none⟩ (.int .i64 (T : Nat))).setCell ⟨s, 2 + 1 + 1, none⟩ (.int .i64 (R : Nat))) s ⟨I, (E : Nat), ⟨(M : Nat), (T : Nat), (R : Nat), aZ.st, 0, false⟩⟩) :=
    Lib.hid (((HW0.out.set 2 _ (setS_m _ _)).set 3 _ (setS_s _ _)).set 4 _ (setS_r _ _))
  go_upto_region 7 with (first | (refine af rfl (exec_bld3G (M : Nat) (T : Nat) (R : Nat) rfl rfl rfl rfl) ?_) | (refine av rfl (exec_putG3 (M : Nat) (T : Nat) (R : Nat) rfl rfl rfl HTH.out) ?_) | fail)
  generalize ((w2.setCell ⟨s, 2, none⟩ (.int .i64 (M : Nat))).setCell ⟨s, 2 + 1, none⟩ (.int .i64 (T : Nat))).setCell ⟨s, 2 + 1 + 1, none⟩ (.int .i64 (R : Nat)) = w3 at *
  clear HRD2 HTH HW0
  have HRD3 := Lib.hid (HRD.out.below HW1.out.bel)
  have HRD4 : Hid (Rd w3 w1.heap.size (some ⟨g, 14, none⟩) 4 (piece l 14 4)) := Lib.hid ⟨bJ (by rw [HLL.out]; omega), fun j hj => by
    obtain ⟨b0, o0, e, hb0, hc0⟩ := HRD3.out.2 (14 + j) (by omega)
    injection e with e
    injection e with e1 e2
    subst e1 e2
    refine ⟨g, 14, rfl, hb0, ?_⟩
    rw [eM hj]
    rw [Nat.zero_add] at hc0
    exact hc0⟩
  have hs1 := HW1.out.bel.size
  go_wp2_with (first | (refine af rfl (ey HC1.out rfl rfl rfl rfl) ?_) | fail)
  refine (runbits_ok _ 4 (c - 14) _ 2 16 _ (piece l 14 4) w3 (Lib.hid rfl) HRD4.out hs1 (by omega) (by omega) (by omega) (by omega) (by decide)).mono ?_
  rintro e w4 ⟨v, rfl, hv, hb⟩
  rw [HST.out] at hv
  obtain ⟨A, cc, rfl, _, _, _⟩ := hv.open_ HSL.out
  have HV := Lib.hid hv
  have HW2 := Lib.hid (HW1.out.keep hb)
  have HSB : Hid (s < w3.heap.size) := Lib.hid (aD HW1.out.sup)
  clear hv hb HRD3 HRD4 HW1 hs1
  obtain ⟨B4, hB4⟩ : ∃ B4, w3.heap.size = B4 := ⟨_, rfl⟩
  rw [hB4] at HV HSB
  clear hB4
  go_wp2_with fail
  go_loopw [13] (fun i wr => ∃ j : Nat, j ≤ 16 ∧ i = .int .i64 j ∧ ∃ z : Vector UInt8 16, RgW w1 wr s ⟨I, (E : Nat), ⟨(M : Nat), (T : Nat), (R : Nat), z, 0, false⟩⟩ ∧ (∀ k, k < j → bt z.toList k = bt st k) ∧ Made wr B4 (.slice A 16 cc) st) (fun i _ => 16 - (intOf i).toNat)
  case atStart => exact ⟨0, Nat.zero_le _, rfl, _, HW2.out, fun k hk => absurd hk (by omega), HV.out⟩
  case round =>
    obtain ⟨j, hj, rfl, z, hW, hz, hM⟩ := hrel
    have HWR := Lib.hid hW
    have HZR := Lib.hid hz
    have HMR := Lib.hid hM
    clear hW hz hM
    by_cases hlt : j < 16
    · obtain ⟨bA, oA, rfl, hA, cA⟩ := HMR.out.rd.2 j hlt
      have cs := HWR.out.sup.sta hlt
      have fs := HWR.out.sup.free (5 + j)
      have hu : bt st j = ((st.getD j 0).toNat : Int) := rfl
      rw [hu] at cA
      have HU := Lib.hid hu
      clear hu
      obtain ⟨u, hu⟩ : ∃ u, st.getD j 0 = u := ⟨_, rfl⟩
      rw [hu] at cA HU
      clear hu
      have HW' := Lib.hid (HWR.out.set (5 + j) _ (setS_at _ hlt u))
      have HM' := Lib.hid (HMR.out.kept1 (dU wr s (5 + j) (.int .u8 (u.toNat : Int))) (fun k hk => by injection hk with e; have := HSB.out; omega))
      have HZ' : Hid (∀ k, k < j + 1 → bt (ofSt (z.toList.set j u)).toList k = bt st k) := Lib.hid fun k hk => by
        rw [dK (by simp), bt_setL (by simpa using hlt)]
        split
        · rename_i e; rw [e, HU.out]
        · exact HZR.out k (by omega)
      go_wp2_with fail
      go_roundw
      case rel => exact ⟨j + 1, by omega, by go_num, _, HW'.out, HZ'.out, HM'.out⟩
      case measure => simp [intOf]; omega
    · have e : j = 16 := by omega
      subst e
      have hzst : z = ofSt st := by
        rw [← dp z]
        congr 1
        exact dl (by rw [HSL.out]; simp) fun k hk => HZR.out k (by simpa using hk)
      subst hzst
      clear HMR HZR HV HW2
      have HRD5 := Lib.hid (HRD.out.below HWR.out.bel)
      go_wp2_with fail
      refine (cw _ 44 c _ l 18 2 _ HRD5.out (by unfold maxLen; omega) (by omega) (by omega) (by omega)).mono ?_
      rintro e w' ⟨rfl, rfl⟩
      rw [HCC.out]
      have cs := HWR.out.sup.cells.2.2.2.2.2.1
      have fs := HWR.out.sup.free 21
      have HW6 : Hid (RgW w1 (wr.setCell ⟨s, 21, none⟩ (.int .i64 (C : Nat))) s ⟨I, (E : Nat), ⟨(M : Nat), (T : Nat), (R : Nat), ofSt st, (C : Nat), false⟩⟩) := Lib.hid (HWR.out.set 21 _ (setS_cur _ _))
      clear HWR HRD5
      go_upto_region 13 with fail
      generalize wr.setCell ⟨s, 21, none⟩ (.int .i64 (C : Nat)) = w6 at *
      clear cs fs
      obtain ⟨b20, o20, e20, hb20, c20⟩ := (HRD.out.below HW6.out.bel).2 20 (by omega)
      injection e20 with e20
      injection e20 with e1 e2
      subst e1 e2
      have cs := HW6.out.sup.cells.2.2.2.2.2.2
      have fs := HW6.out.sup.free 22
      have HW7 : Hid (RgW w1 (w6.setCell ⟨s, 22, none⟩ (.bool (bt l 20 == 1))) s ⟨I, (E : Nat), ⟨(M : Nat), (T : Nat), (R : Nat), ofSt st, (C : Nat), gb⟩⟩) := Lib.hid (HW6.out.set 22 _ (by rw [HGB.out]; exact setS_gone _ _))
      rw [← HDEF.out] at HW7
      clear HW6
      go_upto_region 14 with fail
      generalize w6.setCell ⟨s, 22, none⟩ (.bool (bt l 20 == 1)) = w7 at *
      clear cs fs c20 hb20 HGB HDEF HST HSL HII HMM HTT HRR HEE HCC HSB
      obtain ⟨y, hy⟩ : ∃ y, bm l = y := ⟨_, rfl⟩
      rw [hy] at HW7 HM0
      have HY := Lib.hid hy
      clear hy
      have HB7 := Lib.hid (HW7.out.out HB1.out)
      have HR7 := Lib.hid (aI HR1.out HZ1.out HW7.out.bel)
      have HA7 := Lib.hid (br HA1.out (by have := HZ1.out; omega) HW7.out.bel)
      have HZ7 : Hid (w.heap.size + 1 < w7.heap.size) := Lib.hid (Nat.lt_of_lt_of_le HZ1.out HW7.out.bel.size)
      have HS7 := Lib.hid HW7.out.sup
      clear HW7 HA1 HR1 HB1 HZ1 HRD
      go_wp2_with fail
      refine (revent n w7).mono ?_
      rintro e w' ⟨rfl, rfl⟩
      rw [HEV.out]
      go_wp2_with (first | (refine ag (by rfl) (bw (c := y) rfl rfl ?_) ?_; (with_reducible exact HS7.out.range)) | fail)
      refine (rsmay y w7).mono ?_
      rintro e w8 ⟨rfl, hb⟩
      rw [HM0.out]
      have HS8 := Lib.hid (HS7.out.below (aD HS7.out) hb)
      have HB8 := Lib.hid (HB7.out.trans (hb.mono HB7.out.size))
      have HR8 := Lib.hid (aI HR7.out HZ7.out hb)
      have HA8 := Lib.hid (br HA7.out (by have := HZ7.out; omega) hb)
      have HZ8 : Hid (w.heap.size + 1 < w8.heap.size) := Lib.hid (Nat.lt_of_lt_of_le HZ7.out hb.size)
      clear hb HS7 HB7 HR7 HA7 HZ7
      go_wp2_with (first | (refine af rfl (dt rfl) ?_) | (refine av rfl (bP (c := a7) rfl rfl rfl ?_) ?_; (with_reducible exact HR8.out)) | fail)
      refine bodyPost_ret (da (t := 62) (cs := aL a7) rfl _ _ _ rfl ?h1 Tryz.underlying62 rfl ?h2) rfl ⟨rfl, ?h3⟩
      case h1 => exact World.rangeAt_setCells_same _ _ _ _ (by rw [ax]; exact HR8.out)
      case h2 => rw [ax]; exact dA
      case h3 => exact below_setCells HB8.out (Nat.le_succ _) _
set_option maxHeartbeats 4000000 in
theorem rsget_un (b : Blk) (w : World) (h0 : cr b.toList = 0) (hev : evB (cq b.toList) = true) (hm : supB (bm (bW b.toList)) = true) (hd : cX (cq b.toList) (ct (bm (bW b.toList))) ≠ b) : Calls Tryz.prog 52 #[blk b] w fun e w' => e = .returned (.tuple #[.int .u64 (0 : Nat), sup a7, .int .i64 (5 : Nat)]) ∧ Below w.heap.size w w' := by
  obtain ⟨n, hn⟩ : ∃ n, cq b.toList = n := ⟨_, rfl⟩
  obtain ⟨l, hl⟩ : ∃ l, bW b.toList = l := ⟨_, rfl⟩
  have h1 := (Below.refl w.heap.size w).alloc (Nat.le_refl _) (.cells (cel b).toArray 58)
  have h2 := h1.alloc h1.size (.cells (aL a7).toArray 62)
  have HA : Hid (((w.alloc (.cells (cel b).toArray 58)).alloc (.cells (aL a7).toArray 62)).rangeAt w.heap.size 0 (cel b)) := Lib.hid (World.rangeAt_alloc (cg w (cel b) 58) _)
  have hsn := bx.new (w.alloc (.cells (cel b).toArray 58)) a7
  rw [World.size_alloc] at hsn
  have HR := Lib.hid (ch (o := 0) (n := 23) hsn (by rw [ax]; exact Nat.le_refl _))
  have HZ := Lib.hid (aD hsn)
  have HB := Lib.hid h2
  have HN := Lib.hid hn
  have HL := Lib.hid hl
  clear h1 h2 hsn
  have hi64 := dR (l := bW b.toList) (by rw [dB h0]; omega)
  have hn64 := getN_lt64 b
  have hpe := dS (n := cq b.toList) (bm (bW b.toList)) hev
  rw [hn] at hev hd hn64 hpe
  rw [hl] at hm hd hi64 hpe
  have HEV := Lib.hid hev
  have HM0 := Lib.hid hm
  have HD0 : Hid ((!decide (cX n (ct (bm l)) = b)) = true) := Lib.hid (by simpa using hd)
  have HI64 := Lib.hid hi64
  have HN64 := Lib.hid hn64
  have HPE := Lib.hid hpe
  clear hev hm hd hi64 hn64 hpe
  have hll : l.length = 44 := by rw [← hl]; exact dB h0
  have HLL := Lib.hid hll
  obtain ⟨I, hI⟩ : ∃ I : Nat, val 8 (piece l 0 8) = I := ⟨_, rfl⟩
  obtain ⟨M, hM⟩ : ∃ M : Nat, val 8 (piece l 8 1) = M := ⟨_, rfl⟩
  obtain ⟨T, hT⟩ : ∃ T : Nat, val 8 (piece l 9 2) = T := ⟨_, rfl⟩
  obtain ⟨R, hR⟩ : ∃ R : Nat, val 8 (piece l 11 2) = R := ⟨_, rfl⟩
  obtain ⟨E, hE⟩ : ∃ E : Nat, val 8 (piece l 13 1) = E := ⟨_, rfl⟩
  obtain ⟨C, hC⟩ : ∃ C : Nat, val 8 (piece l 18 2) = C := ⟨_, rfl⟩
  obtain ⟨G, hG⟩ : ∃ G : Nat, val 8 (piece l 20 1) = G := ⟨_, rfl⟩
  obtain ⟨gb, hgb⟩ : ∃ gb, decide (G = 1) = gb := ⟨_, rfl⟩
  have hgg : (bt l 20 == 1) = gb := by
    have e := val_one1 (l := l) (p := 20) (by omega)
    rw [hG] at e
    rw [← e, ← hgb, Bool.eq_iff_iff]; simp; omega
  obtain ⟨st, hst⟩ : ∃ st, aC 2 16 (val 8 (piece l 14 4)) = st := ⟨_, rfl⟩
  have HST := Lib.hid hst
  have HSL : Hid (st.length = 16) := Lib.hid (by rw [← hst, ar])
  have HDEF : Hid (bm l = ⟨I, (E : Nat), ⟨(M : Nat), (T : Nat), (R : Nat), ofSt st, (C : Nat), gb⟩⟩) := Lib.hid (by unfold bm; rw [hI, hM, hT, hR, hE, hC, hG, hgb, hst])
  have HGB := Lib.hid hgg
  have H0 := Lib.hid h0
  have HII := Lib.hid hI
  have HMM := Lib.hid hM
  have HTT := Lib.hid hT
  have HRR := Lib.hid hR
  have HEE := Lib.hid hE
  have HCC := Lib.hid hC
  have HGG := Lib.hid hG
  clear hI hM hT hR hE hC hG hgb hst hll hgg h0 hn hl
  go_enter Tryz.func52, Tryz.ntmps52
  go_wp2_with (first | (refine af rfl (bu rfl rfl) ?_) | (refine af rfl (aX rfl) ?_) | (refine af rfl (aV (c := b) rfl rfl ?_) ?_; (with_reducible exact HA.out)) | fail)
  try simp only [World.size_alloc]
  generalize (w.alloc (.cells (cel b).toArray 58)).alloc (.cells (aL a7).toArray 62) = w0 at *
  refine (rget_any b _ w0 (Lib.hid rfl)).mono ?_
  rintro e w1 ⟨v, rfl, hv, hb⟩
  rw [HN.out]
  rw [H0.out]
  rw [HL.out] at hv
  obtain ⟨g, c, rfl, _, hc1, hc2⟩ := hv.some (by rw [HLL.out]; omega)
  rw [HLL.out] at hc1 hv ⊢
  have HRD := Lib.hid hv.rd
  have HR1 := Lib.hid (aI HR.out HZ.out hb)
  have HA1 := Lib.hid (br HA.out (by have := HZ.out; omega) hb)
  have HB1 := Lib.hid (HB.out.trans (hb.mono HB.out.size))
  have HZ1 : Hid (w.heap.size + 1 < w1.heap.size) := Lib.hid (Nat.lt_of_lt_of_le HZ.out hb.size)
  have HC1 := Lib.hid hc1
  clear hv hb HA HR HB HZ hc1 hc2
  go_wp2_with fail
  refine (dc _ 44 c _ l 0 8 w1 HRD.out (by unfold maxLen; omega) (by omega) (by omega) (by omega)).mono ?_
  rintro e w' ⟨rfl, rfl⟩
  rw [HII.out]
  go_wp2_with fail
  refine (cw _ 44 c _ l 13 1 w1 HRD.out (by unfold maxLen; omega) (by omega) (by omega) (by omega)).mono ?_
  rintro e w' ⟨rfl, rfl⟩
  rw [HEE.out]
  have HW0 := Lib.hid (RgW.start w1 ⟨I, (E : Nat), aZ⟩)
  go_upto_region 6 with (first | (refine af rfl (exec_bld2S I (E : Nat) rfl rfl rfl) ?_) | (refine af rfl (aX rfl) ?_) | (refine av rfl (bZ rfl rfl rfl) ?_) | fail)
  generalize w1.alloc (.cells (aL ⟨I, (E : Nat), aZ⟩).toArray 62) = w2 at *
  obtain ⟨s, hs⟩ : ∃ s, w1.heap.size = s := ⟨_, rfl⟩
  have HSD := Lib.hid hs
  rw [hs] at HW0 ⊢
  clear hs
  have HRD2 := Lib.hid (HRD.out.below HW0.out.bel)
  go_wp2_with fail
  refine (cw _ 44 c _ l 8 1 _ HRD2.out (by unfold maxLen; omega) (by omega) (by omega) (by omega)).mono ?_
  rintro e w' ⟨rfl, rfl⟩
  rw [HMM.out]
  go_wp2_with fail
  refine (cw _ 44 c _ l 9 2 _ HRD2.out (by unfold maxLen; omega) (by omega) (by omega) (by omega)).mono ?_
  rintro e w' ⟨rfl, rfl⟩
  rw [HTT.out]
  go_wp2_with fail
  refine (cw _ 44 c _ l 11 2 _ HRD2.out (by unfold maxLen; omega) (by omega) (by omega) (by omega)).mono ?_
  rintro e w' ⟨rfl, rfl⟩
  rw [HRR.out]
  have HTH := Lib.hid (ch (o := 2) (n := 3) HW0.out.sup (by rw [ax]; omega))
  have HW1 : Hid (RgW w1 (((w2.setCell ⟨s, 2, none⟩ (.int .i64 (M : Nat))).setCell ⟨s, 2 + 1, none⟩ (.int .i64 (T : Nat))).setCell ⟨s, 2 + 1 + 1, none⟩ (.int .i64 (R : Nat))) s ⟨I, (E : Nat), ⟨(M : Nat), (T : Nat), (R : Nat), aZ.st, 0, false⟩⟩) :=
    Lib.hid (((HW0.out.set 2 _ (setS_m _ _)).set 3 _ (setS_s _ _)).set 4 _ (setS_r _ _))
  go_upto_region 7 with (first | (refine af rfl (exec_bld3G (M : Nat) (T : Nat) (R : Nat) rfl rfl rfl rfl) ?_) | (refine av rfl (exec_putG3 (M : Nat) (T : Nat) (R : Nat) rfl rfl rfl HTH.out) ?_) | fail)
  generalize ((w2.setCell ⟨s, 2, none⟩ (.int .i64 (M : Nat))).setCell ⟨s, 2 + 1, none⟩ (.int .i64 (T : Nat))).setCell ⟨s, 2 + 1 + 1, none⟩ (.int .i64 (R : Nat)) = w3 at *
  clear HRD2 HTH HW0
  have HRD3 := Lib.hid (HRD.out.below HW1.out.bel)
  have HRD4 : Hid (Rd w3 w1.heap.size (some ⟨g, 14, none⟩) 4 (piece l 14 4)) := Lib.hid ⟨bJ (by rw [HLL.out]; omega), fun j hj => by
    obtain ⟨b0, o0, e, hb0, hc0⟩ := HRD3.out.2 (14 + j) (by omega)
    injection e with e
    injection e with e1 e2
    subst e1 e2
    refine ⟨g, 14, rfl, hb0, ?_⟩
    rw [eM hj]
    rw [Nat.zero_add] at hc0
    exact hc0⟩
  have hs1 := HW1.out.bel.size
  go_wp2_with (first | (refine af rfl (ey HC1.out rfl rfl rfl rfl) ?_) | fail)
  refine (runbits_ok _ 4 (c - 14) _ 2 16 _ (piece l 14 4) w3 (Lib.hid rfl) HRD4.out hs1 (by omega) (by omega) (by omega) (by omega) (by decide)).mono ?_
  rintro e w4 ⟨v, rfl, hv, hb⟩
  rw [HST.out] at hv
  obtain ⟨A, cc, rfl, _, _, _⟩ := hv.open_ HSL.out
  have HV := Lib.hid hv
  have HW2 := Lib.hid (HW1.out.keep hb)
  have HSB : Hid (s < w3.heap.size) := Lib.hid (aD HW1.out.sup)
  clear hv hb HRD3 HRD4 HW1 hs1
  obtain ⟨B4, hB4⟩ : ∃ B4, w3.heap.size = B4 := ⟨_, rfl⟩
  rw [hB4] at HV HSB
  clear hB4
  go_wp2_with fail
  go_loopw [13] (fun i wr => ∃ j : Nat, j ≤ 16 ∧ i = .int .i64 j ∧ ∃ z : Vector UInt8 16, RgW w1 wr s ⟨I, (E : Nat), ⟨(M : Nat), (T : Nat), (R : Nat), z, 0, false⟩⟩ ∧ (∀ k, k < j → bt z.toList k = bt st k) ∧ Made wr B4 (.slice A 16 cc) st) (fun i _ => 16 - (intOf i).toNat)
  case atStart => exact ⟨0, Nat.zero_le _, rfl, _, HW2.out, fun k hk => absurd hk (by omega), HV.out⟩
  case round =>
    obtain ⟨j, hj, rfl, z, hW, hz, hM⟩ := hrel
    have HWR := Lib.hid hW
    have HZR := Lib.hid hz
    have HMR := Lib.hid hM
    clear hW hz hM
    by_cases hlt : j < 16
    · obtain ⟨bA, oA, rfl, hA, cA⟩ := HMR.out.rd.2 j hlt
      have cs := HWR.out.sup.sta hlt
      have fs := HWR.out.sup.free (5 + j)
      have hu : bt st j = ((st.getD j 0).toNat : Int) := rfl
      rw [hu] at cA
      have HU := Lib.hid hu
      clear hu
      obtain ⟨u, hu⟩ : ∃ u, st.getD j 0 = u := ⟨_, rfl⟩
      rw [hu] at cA HU
      clear hu
      have HW' := Lib.hid (HWR.out.set (5 + j) _ (setS_at _ hlt u))
      have HM' := Lib.hid (HMR.out.kept1 (dU wr s (5 + j) (.int .u8 (u.toNat : Int))) (fun k hk => by injection hk with e; have := HSB.out; omega))
      have HZ' : Hid (∀ k, k < j + 1 → bt (ofSt (z.toList.set j u)).toList k = bt st k) := Lib.hid fun k hk => by
        rw [dK (by simp), bt_setL (by simpa using hlt)]
        split
        · rename_i e; rw [e, HU.out]
        · exact HZR.out k (by omega)
      go_wp2_with fail
      go_roundw
      case rel => exact ⟨j + 1, by omega, by go_num, _, HW'.out, HZ'.out, HM'.out⟩
      case measure => simp [intOf]; omega
    · have e : j = 16 := by omega
      subst e
      have hzst : z = ofSt st := by
        rw [← dp z]
        congr 1
        exact dl (by rw [HSL.out]; simp) fun k hk => HZR.out k (by simpa using hk)
      subst hzst
      clear HMR HZR HV HW2
      have HRD5 := Lib.hid (HRD.out.below HWR.out.bel)
      go_wp2_with fail
      refine (cw _ 44 c _ l 18 2 _ HRD5.out (by unfold maxLen; omega) (by omega) (by omega) (by omega)).mono ?_
      rintro e w' ⟨rfl, rfl⟩
      rw [HCC.out]
      have cs := HWR.out.sup.cells.2.2.2.2.2.1
      have fs := HWR.out.sup.free 21
      have HW6 : Hid (RgW w1 (wr.setCell ⟨s, 21, none⟩ (.int .i64 (C : Nat))) s ⟨I, (E : Nat), ⟨(M : Nat), (T : Nat), (R : Nat), ofSt st, (C : Nat), false⟩⟩) := Lib.hid (HWR.out.set 21 _ (setS_cur _ _))
      clear HWR HRD5
      go_upto_region 13 with fail
      generalize wr.setCell ⟨s, 21, none⟩ (.int .i64 (C : Nat)) = w6 at *
      clear cs fs
      obtain ⟨b20, o20, e20, hb20, c20⟩ := (HRD.out.below HW6.out.bel).2 20 (by omega)
      injection e20 with e20
      injection e20 with e1 e2
      subst e1 e2
      have cs := HW6.out.sup.cells.2.2.2.2.2.2
      have fs := HW6.out.sup.free 22
      have HW7 : Hid (RgW w1 (w6.setCell ⟨s, 22, none⟩ (.bool (bt l 20 == 1))) s ⟨I, (E : Nat), ⟨(M : Nat), (T : Nat), (R : Nat), ofSt st, (C : Nat), gb⟩⟩) := Lib.hid (HW6.out.set 22 _ (by rw [HGB.out]; exact setS_gone _ _))
      rw [← HDEF.out] at HW7
      clear HW6
      go_upto_region 14 with fail
      generalize w6.setCell ⟨s, 22, none⟩ (.bool (bt l 20 == 1)) = w7 at *
      clear cs fs c20 hb20 HGB HDEF HST HSL HII HMM HTT HRR HEE HCC HSB
      obtain ⟨y, hy⟩ : ∃ y, bm l = y := ⟨_, rfl⟩
      rw [hy] at HW7 HM0 HD0 HI64 HPE
      have HY := Lib.hid hy
      clear hy
      have HB7 := Lib.hid (HW7.out.out HB1.out)
      have HR7 := Lib.hid (aI HR1.out HZ1.out HW7.out.bel)
      have HA7 := Lib.hid (br HA1.out (by have := HZ1.out; omega) HW7.out.bel)
      have HZ7 : Hid (w.heap.size + 1 < w7.heap.size) := Lib.hid (Nat.lt_of_lt_of_le HZ1.out HW7.out.bel.size)
      have HS7 := Lib.hid HW7.out.sup
      clear HW7 HA1 HR1 HB1 HZ1 HRD
      go_wp2_with fail
      refine (revent n w7).mono ?_
      rintro e w' ⟨rfl, rfl⟩
      rw [HEV.out]
      go_wp2_with (first | (refine ag (by rfl) (bw (c := y) rfl rfl ?_) ?_; (with_reducible exact HS7.out.range)) | fail)
      refine (rsmay y w7).mono ?_
      rintro e w8 ⟨rfl, hb⟩
      rw [HM0.out]
      have HS8 := Lib.hid (HS7.out.below (aD HS7.out) hb)
      have HB8 := Lib.hid (HB7.out.trans (hb.mono HB7.out.size))
      have HR8 := Lib.hid (aI HR7.out HZ7.out hb)
      have HA8 := Lib.hid (br HA7.out (by have := HZ7.out; omega) hb)
      have HZ8 : Hid (w.heap.size + 1 < w8.heap.size) := Lib.hid (Nat.lt_of_lt_of_le HZ7.out hb.size)
      clear hb HS7 HB7 HR7 HA7 HZ7
      go_wp2_with (first | (refine af rfl (bw (c := y) rfl rfl ?_) ?_; (with_reducible exact HS8.out.range)) | fail)
      refine (rbody y w8 HI64.out HM0.out).mono ?_
      rintro e w9 ⟨v, rfl, hv, hb⟩
      obtain ⟨A9, c9, rfl, hrd, _, _⟩ := hv.open_ (c8 y)
      have HRD9 := Lib.hid hrd
      have HS9 := Lib.hid (HS8.out.below (aD HS8.out) hb)
      have HB9 := Lib.hid (HB8.out.trans (hb.mono HB8.out.size))
      have HR9 := Lib.hid (aI HR8.out HZ8.out hb)
      have HA9 := Lib.hid (br HA8.out (by have := HZ8.out; omega) hb)
      have HZ9 : Hid (w.heap.size + 1 < w9.heap.size) := Lib.hid (Nat.lt_of_lt_of_le HZ8.out hb.size)
      clear hb hv hrd HS8 HB8 HR8 HA8 HZ8
      go_wp2_with fail
      refine (rsput_all n 21 c9 _ A9 (ct y) w9 HN64.out HRD9.out (Nat.le_refl _) (by unfold maxLen; omega)).mono ?_
      rintro e w10 ⟨rfl, hb⟩
      rw [HPE.out]
      obtain ⟨q, hq⟩ : ∃ q, cX n (ct y) = q := ⟨_, rfl⟩
      rw [hq] at HD0 ⊢
      clear hq
      have hb2 := hb.alloc hb.size (.cells (cel q).toArray 58)
      have HQ := Lib.hid (cg w10 (cel q) 58)
      have HS10 := Lib.hid (HS9.out.below (aD HS9.out) hb2).range
      have HB10 := Lib.hid (HB9.out.trans (hb2.mono HB9.out.size))
      have HR10 := Lib.hid (aI HR9.out HZ9.out hb2)
      have HA10 := Lib.hid (br HA9.out (by have := HZ9.out; omega) hb2)
      clear hb hb2 HS9 HB9 HR9 HA9 HZ9 HRD9
      go_upto_region 17 with (first | (refine af rfl (aQ rfl) ?_) | (refine av rfl (exec_fill rfl rfl rfl) ?_) | fail)
      generalize w10.alloc (.cells (cel q).toArray 58) = w11 at *
      generalize w10.heap.size = qb at *
      go_wp2_with (first | (refine af rfl (aV (c := q) rfl rfl ?_) ?_; (with_reducible exact HQ.out)) | (refine af rfl (aV (c := b) rfl rfl ?_) ?_; (with_reducible exact HA10.out)) | (refine af (v := .bool true) rfl (exec_neqB true rfl rfl rfl HD0.out) ?_) | (refine af rfl (dt rfl) ?_) | (refine av rfl (bP (c := a7) rfl rfl rfl ?_) ?_; (with_reducible exact HR10.out)) | fail)
      refine bodyPost_ret (da (t := 62) (cs := aL a7) rfl _ _ _ rfl ?h1 Tryz.underlying62 rfl ?h2) rfl ⟨rfl, ?h3⟩
      case h1 => exact World.rangeAt_setCells_same _ _ _ _ (by rw [ax]; exact HR10.out)
      case h2 => rw [ax]; exact dA
      case h3 => exact below_setCells HB10.out (Nat.le_succ _) _
set_option maxHeartbeats 4000000 in
theorem rsget_yes (b : Blk) (w : World) (h0 : cr b.toList = 0) (hev : evB (cq b.toList) = true) (hm : supB (bm (bW b.toList)) = true) (hd : cX (cq b.toList) (ct (bm (bW b.toList))) = b) : Calls Tryz.prog 52 #[blk b] w fun e w' => e = .returned (.tuple #[.int .u64 (cq b.toList : Nat), sup (bm (bW b.toList)), .int .i64 (0 : Nat)]) ∧ Below w.heap.size w w' := by
  obtain ⟨n, hn⟩ : ∃ n, cq b.toList = n := ⟨_, rfl⟩
  obtain ⟨l, hl⟩ : ∃ l, bW b.toList = l := ⟨_, rfl⟩
  have h1 := (Below.refl w.heap.size w).alloc (Nat.le_refl _) (.cells (cel b).toArray 58)
  have h2 := h1.alloc h1.size (.cells (aL a7).toArray 62)
  have HA : Hid (((w.alloc (.cells (cel b).toArray 58)).alloc (.cells (aL a7).toArray 62)).rangeAt w.heap.size 0 (cel b)) := Lib.hid (World.rangeAt_alloc (cg w (cel b) 58) _)
  have hsn := bx.new (w.alloc (.cells (cel b).toArray 58)) a7
  rw [World.size_alloc] at hsn
  have HR := Lib.hid (ch (o := 0) (n := 23) hsn (by rw [ax]; exact Nat.le_refl _))
  have HZ := Lib.hid (aD hsn)
  have HB := Lib.hid h2
  have HN := Lib.hid hn
  have HL := Lib.hid hl
  clear h1 h2 hsn
  have hi64 := dR (l := bW b.toList) (by rw [dB h0]; omega)
  have hn64 := getN_lt64 b
  have hpe := dS (n := cq b.toList) (bm (bW b.toList)) hev
  rw [hn] at hev hd hn64 hpe
  rw [hl] at hm hd hi64 hpe
  have HEV := Lib.hid hev
  have HM0 := Lib.hid hm
  have HD0 : Hid ((!decide (cX n (ct (bm l)) = b)) = false) := Lib.hid (by simpa using hd)
  have HI64 := Lib.hid hi64
  have HN64 := Lib.hid hn64
  have HPE := Lib.hid hpe
  clear hev hm hd hi64 hn64 hpe
  have hll : l.length = 44 := by rw [← hl]; exact dB h0
  have HLL := Lib.hid hll
  obtain ⟨I, hI⟩ : ∃ I : Nat, val 8 (piece l 0 8) = I := ⟨_, rfl⟩
  obtain ⟨M, hM⟩ : ∃ M : Nat, val 8 (piece l 8 1) = M := ⟨_, rfl⟩
  obtain ⟨T, hT⟩ : ∃ T : Nat, val 8 (piece l 9 2) = T := ⟨_, rfl⟩
  obtain ⟨R, hR⟩ : ∃ R : Nat, val 8 (piece l 11 2) = R := ⟨_, rfl⟩
  obtain ⟨E, hE⟩ : ∃ E : Nat, val 8 (piece l 13 1) = E := ⟨_, rfl⟩
  obtain ⟨C, hC⟩ : ∃ C : Nat, val 8 (piece l 18 2) = C := ⟨_, rfl⟩
  obtain ⟨G, hG⟩ : ∃ G : Nat, val 8 (piece l 20 1) = G := ⟨_, rfl⟩
  obtain ⟨gb, hgb⟩ : ∃ gb, decide (G = 1) = gb := ⟨_, rfl⟩
  have hgg : (bt l 20 == 1) = gb := by
    have e := val_one1 (l := l) (p := 20) (by omega)
    rw [hG] at e
    rw [← e, ← hgb, Bool.eq_iff_iff]; simp; omega
  obtain ⟨st, hst⟩ : ∃ st, aC 2 16 (val 8 (piece l 14 4)) = st := ⟨_, rfl⟩
  have HST := Lib.hid hst
  have HSL : Hid (st.length = 16) := Lib.hid (by rw [← hst, ar])
  have HDEF : Hid (bm l = ⟨I, (E : Nat), ⟨(M : Nat), (T : Nat), (R : Nat), ofSt st, (C : Nat), gb⟩⟩) := Lib.hid (by unfold bm; rw [hI, hM, hT, hR, hE, hC, hG, hgb, hst])
  have HGB := Lib.hid hgg
  have H0 := Lib.hid h0
  have HII := Lib.hid hI
  have HMM := Lib.hid hM
  have HTT := Lib.hid hT
  have HRR := Lib.hid hR
  have HEE := Lib.hid hE
  have HCC := Lib.hid hC
  have HGG := Lib.hid hG
  clear hI hM hT hR hE hC hG hgb hst hll hgg h0 hn hl
  go_enter Tryz.func52, Tryz.ntmps52
  go_wp2_with (first | (refine af rfl (bu rfl rfl) ?_) | (refine af rfl (aX rfl) ?_) | (refine af rfl (aV (c := b) rfl rfl ?_) ?_; (with_reducible exact HA.out)) | fail)
  try simp only [World.size_alloc]
  generalize (w.alloc (.cells (cel b).toArray 58)).alloc (.cells (aL a7).toArray 62) = w0 at *
  refine (rget_any b _ w0 (Lib.hid rfl)).mono ?_
  rintro e w1 ⟨v, rfl, hv, hb⟩
  rw [HN.out]
  rw [H0.out]
  rw [HL.out] at hv
  obtain ⟨g, c, rfl, _, hc1, hc2⟩ := hv.some (by rw [HLL.out]; omega)
  rw [HLL.out] at hc1 hv ⊢
  have HRD := Lib.hid hv.rd
  have HR1 := Lib.hid (aI HR.out HZ.out hb)
  have HA1 := Lib.hid (br HA.out (by have := HZ.out; omega) hb)
  have HB1 := Lib.hid (HB.out.trans (hb.mono HB.out.size))
  have HZ1 : Hid (w.heap.size + 1 < w1.heap.size) := Lib.hid (Nat.lt_of_lt_of_le HZ.out hb.size)
  have HC1 := Lib.hid hc1
  clear hv hb HA HR HB HZ hc1 hc2
  go_wp2_with fail
  refine (dc _ 44 c _ l 0 8 w1 HRD.out (by unfold maxLen; omega) (by omega) (by omega) (by omega)).mono ?_
  rintro e w' ⟨rfl, rfl⟩
  rw [HII.out]
  go_wp2_with fail
  refine (cw _ 44 c _ l 13 1 w1 HRD.out (by unfold maxLen; omega) (by omega) (by omega) (by omega)).mono ?_
  rintro e w' ⟨rfl, rfl⟩
  rw [HEE.out]
  have HW0 := Lib.hid (RgW.start w1 ⟨I, (E : Nat), aZ⟩)
  go_upto_region 6 with (first | (refine af rfl (exec_bld2S I (E : Nat) rfl rfl rfl) ?_) | (refine af rfl (aX rfl) ?_) | (refine av rfl (bZ rfl rfl rfl) ?_) | fail)
  generalize w1.alloc (.cells (aL ⟨I, (E : Nat), aZ⟩).toArray 62) = w2 at *
  obtain ⟨s, hs⟩ : ∃ s, w1.heap.size = s := ⟨_, rfl⟩
  have HSD := Lib.hid hs
  rw [hs] at HW0 ⊢
  clear hs
  have HRD2 := Lib.hid (HRD.out.below HW0.out.bel)
  go_wp2_with fail
  refine (cw _ 44 c _ l 8 1 _ HRD2.out (by unfold maxLen; omega) (by omega) (by omega) (by omega)).mono ?_
  rintro e w' ⟨rfl, rfl⟩
  rw [HMM.out]
  go_wp2_with fail
  refine (cw _ 44 c _ l 9 2 _ HRD2.out (by unfold maxLen; omega) (by omega) (by omega) (by omega)).mono ?_
  rintro e w' ⟨rfl, rfl⟩
  rw [HTT.out]
  go_wp2_with fail
  refine (cw _ 44 c _ l 11 2 _ HRD2.out (by unfold maxLen; omega) (by omega) (by omega) (by omega)).mono ?_
  rintro e w' ⟨rfl, rfl⟩
  rw [HRR.out]
  have HTH := Lib.hid (ch (o := 2) (n := 3) HW0.out.sup (by rw [ax]; omega))
  have HW1 : Hid (RgW w1 (((w2.setCell ⟨s, 2, none⟩ (.int .i64 (M : Nat))).setCell ⟨s, 2 + 1, none⟩ (.int .i64 (T : Nat))).setCell ⟨s, 2 + 1 + 1, none⟩ (.int .i64 (R : Nat))) s ⟨I, (E : Nat), ⟨(M : Nat), (T : Nat), (R : Nat), aZ.st, 0, false⟩⟩) :=
    Lib.hid (((HW0.out.set 2 _ (setS_m _ _)).set 3 _ (setS_s _ _)).set 4 _ (setS_r _ _))
  go_upto_region 7 with (first | (refine af rfl (exec_bld3G (M : Nat) (T : Nat) (R : Nat) rfl rfl rfl rfl) ?_) | (refine av rfl (exec_putG3 (M : Nat) (T : Nat) (R : Nat) rfl rfl rfl HTH.out) ?_) | fail)
  generalize ((w2.setCell ⟨s, 2, none⟩ (.int .i64 (M : Nat))).setCell ⟨s, 2 + 1, none⟩ (.int .i64 (T : Nat))).setCell ⟨s, 2 + 1 + 1, none⟩ (.int .i64 (R : Nat)) = w3 at *
  clear HRD2 HTH HW0
  have HRD3 := Lib.hid (HRD.out.below HW1.out.bel)
  have HRD4 : Hid (Rd w3 w1.heap.size (some ⟨g, 14, none⟩) 4 (piece l 14 4)) := Lib.hid ⟨bJ (by rw [HLL.out]; omega), fun j hj => by
    obtain ⟨b0, o0, e, hb0, hc0⟩ := HRD3.out.2 (14 + j) (by omega)
    injection e with e
    injection e with e1 e2
    subst e1 e2
    refine ⟨g, 14, rfl, hb0, ?_⟩
    rw [eM hj]
    rw [Nat.zero_add] at hc0
    exact hc0⟩
  have hs1 := HW1.out.bel.size
  go_wp2_with (first | (refine af rfl (ey HC1.out rfl rfl rfl rfl) ?_) | fail)
  refine (runbits_ok _ 4 (c - 14) _ 2 16 _ (piece l 14 4) w3 (Lib.hid rfl) HRD4.out hs1 (by omega) (by omega) (by omega) (by omega) (by decide)).mono ?_
  rintro e w4 ⟨v, rfl, hv, hb⟩
  rw [HST.out] at hv
  obtain ⟨A, cc, rfl, _, _, _⟩ := hv.open_ HSL.out
  have HV := Lib.hid hv
  have HW2 := Lib.hid (HW1.out.keep hb)
  have HSB : Hid (s < w3.heap.size) := Lib.hid (aD HW1.out.sup)
  clear hv hb HRD3 HRD4 HW1 hs1
  obtain ⟨B4, hB4⟩ : ∃ B4, w3.heap.size = B4 := ⟨_, rfl⟩
  rw [hB4] at HV HSB
  clear hB4
  go_wp2_with fail
  go_loopw [13] (fun i wr => ∃ j : Nat, j ≤ 16 ∧ i = .int .i64 j ∧ ∃ z : Vector UInt8 16, RgW w1 wr s ⟨I, (E : Nat), ⟨(M : Nat), (T : Nat), (R : Nat), z, 0, false⟩⟩ ∧ (∀ k, k < j → bt z.toList k = bt st k) ∧ Made wr B4 (.slice A 16 cc) st) (fun i _ => 16 - (intOf i).toNat)
  case atStart => exact ⟨0, Nat.zero_le _, rfl, _, HW2.out, fun k hk => absurd hk (by omega), HV.out⟩
  case round =>
    obtain ⟨j, hj, rfl, z, hW, hz, hM⟩ := hrel
    have HWR := Lib.hid hW
    have HZR := Lib.hid hz
    have HMR := Lib.hid hM
    clear hW hz hM
    by_cases hlt : j < 16
    · obtain ⟨bA, oA, rfl, hA, cA⟩ := HMR.out.rd.2 j hlt
      have cs := HWR.out.sup.sta hlt
      have fs := HWR.out.sup.free (5 + j)
      have hu : bt st j = ((st.getD j 0).toNat : Int) := rfl
      rw [hu] at cA
      have HU := Lib.hid hu
      clear hu
      obtain ⟨u, hu⟩ : ∃ u, st.getD j 0 = u := ⟨_, rfl⟩
      rw [hu] at cA HU
      clear hu
      have HW' := Lib.hid (HWR.out.set (5 + j) _ (setS_at _ hlt u))
      have HM' := Lib.hid (HMR.out.kept1 (dU wr s (5 + j) (.int .u8 (u.toNat : Int))) (fun k hk => by injection hk with e; have := HSB.out; omega))
      have HZ' : Hid (∀ k, k < j + 1 → bt (ofSt (z.toList.set j u)).toList k = bt st k) := Lib.hid fun k hk => by
        rw [dK (by simp), bt_setL (by simpa using hlt)]
        split
        · rename_i e; rw [e, HU.out]
        · exact HZR.out k (by omega)
      go_wp2_with fail
      go_roundw
      case rel => exact ⟨j + 1, by omega, by go_num, _, HW'.out, HZ'.out, HM'.out⟩
      case measure => simp [intOf]; omega
    · have e : j = 16 := by omega
      subst e
      have hzst : z = ofSt st := by
        rw [← dp z]
        congr 1
        exact dl (by rw [HSL.out]; simp) fun k hk => HZR.out k (by simpa using hk)
      subst hzst
      clear HMR HZR HV HW2
      have HRD5 := Lib.hid (HRD.out.below HWR.out.bel)
      go_wp2_with fail
      refine (cw _ 44 c _ l 18 2 _ HRD5.out (by unfold maxLen; omega) (by omega) (by omega) (by omega)).mono ?_
      rintro e w' ⟨rfl, rfl⟩
      rw [HCC.out]
      have cs := HWR.out.sup.cells.2.2.2.2.2.1
      have fs := HWR.out.sup.free 21
      have HW6 : Hid (RgW w1 (wr.setCell ⟨s, 21, none⟩ (.int .i64 (C : Nat))) s ⟨I, (E : Nat), ⟨(M : Nat), (T : Nat), (R : Nat), ofSt st, (C : Nat), false⟩⟩) := Lib.hid (HWR.out.set 21 _ (setS_cur _ _))
      clear HWR HRD5
      go_upto_region 13 with fail
      generalize wr.setCell ⟨s, 21, none⟩ (.int .i64 (C : Nat)) = w6 at *
      clear cs fs
      obtain ⟨b20, o20, e20, hb20, c20⟩ := (HRD.out.below HW6.out.bel).2 20 (by omega)
      injection e20 with e20
      injection e20 with e1 e2
      subst e1 e2
      have cs := HW6.out.sup.cells.2.2.2.2.2.2
      have fs := HW6.out.sup.free 22
      have HW7 : Hid (RgW w1 (w6.setCell ⟨s, 22, none⟩ (.bool (bt l 20 == 1))) s ⟨I, (E : Nat), ⟨(M : Nat), (T : Nat), (R : Nat), ofSt st, (C : Nat), gb⟩⟩) := Lib.hid (HW6.out.set 22 _ (by rw [HGB.out]; exact setS_gone _ _))
      rw [← HDEF.out] at HW7
      clear HW6
      go_upto_region 14 with fail
      generalize w6.setCell ⟨s, 22, none⟩ (.bool (bt l 20 == 1)) = w7 at *
      clear cs fs c20 hb20 HGB HDEF HST HSL HII HMM HTT HRR HEE HCC HSB
      obtain ⟨y, hy⟩ : ∃ y, bm l = y := ⟨_, rfl⟩
      rw [hy] at HW7 HM0 HD0 HI64 HPE
      have HY := Lib.hid hy
      clear hy
      have HB7 := Lib.hid (HW7.out.out HB1.out)
      have HR7 := Lib.hid (aI HR1.out HZ1.out HW7.out.bel)
      have HA7 := Lib.hid (br HA1.out (by have := HZ1.out; omega) HW7.out.bel)
      have HZ7 : Hid (w.heap.size + 1 < w7.heap.size) := Lib.hid (Nat.lt_of_lt_of_le HZ1.out HW7.out.bel.size)
      have HS7 := Lib.hid HW7.out.sup
      clear HW7 HA1 HR1 HB1 HZ1 HRD
      go_wp2_with fail
      refine (revent n w7).mono ?_
      rintro e w' ⟨rfl, rfl⟩
      rw [HEV.out]
      go_wp2_with (first | (refine ag (by rfl) (bw (c := y) rfl rfl ?_) ?_; (with_reducible exact HS7.out.range)) | fail)
      refine (rsmay y w7).mono ?_
      rintro e w8 ⟨rfl, hb⟩
      rw [HM0.out]
      have HS8 := Lib.hid (HS7.out.below (aD HS7.out) hb)
      have HB8 := Lib.hid (HB7.out.trans (hb.mono HB7.out.size))
      have HR8 := Lib.hid (aI HR7.out HZ7.out hb)
      have HA8 := Lib.hid (br HA7.out (by have := HZ7.out; omega) hb)
      have HZ8 : Hid (w.heap.size + 1 < w8.heap.size) := Lib.hid (Nat.lt_of_lt_of_le HZ7.out hb.size)
      clear hb HS7 HB7 HR7 HA7 HZ7
      go_wp2_with (first | (refine af rfl (bw (c := y) rfl rfl ?_) ?_; (with_reducible exact HS8.out.range)) | fail)
      refine (rbody y w8 HI64.out HM0.out).mono ?_
      rintro e w9 ⟨v, rfl, hv, hb⟩
      obtain ⟨A9, c9, rfl, hrd, _, _⟩ := hv.open_ (c8 y)
      have HRD9 := Lib.hid hrd
      have HS9 := Lib.hid (HS8.out.below (aD HS8.out) hb)
      have HB9 := Lib.hid (HB8.out.trans (hb.mono HB8.out.size))
      have HR9 := Lib.hid (aI HR8.out HZ8.out hb)
      have HA9 := Lib.hid (br HA8.out (by have := HZ8.out; omega) hb)
      have HZ9 : Hid (w.heap.size + 1 < w9.heap.size) := Lib.hid (Nat.lt_of_lt_of_le HZ8.out hb.size)
      clear hb hv hrd HS8 HB8 HR8 HA8 HZ8
      go_wp2_with fail
      refine (rsput_all n 21 c9 _ A9 (ct y) w9 HN64.out HRD9.out (Nat.le_refl _) (by unfold maxLen; omega)).mono ?_
      rintro e w10 ⟨rfl, hb⟩
      rw [HPE.out]
      obtain ⟨q, hq⟩ : ∃ q, cX n (ct y) = q := ⟨_, rfl⟩
      rw [hq] at HD0 ⊢
      clear hq
      have hb2 := hb.alloc hb.size (.cells (cel q).toArray 58)
      have HQ := Lib.hid (cg w10 (cel q) 58)
      have HS10 := Lib.hid (HS9.out.below (aD HS9.out) hb2).range
      have HB10 := Lib.hid (HB9.out.trans (hb2.mono HB9.out.size))
      have HR10 := Lib.hid (aI HR9.out HZ9.out hb2)
      have HA10 := Lib.hid (br HA9.out (by have := HZ9.out; omega) hb2)
      clear hb hb2 HS9 HB9 HR9 HA9 HZ9 HRD9
      go_upto_region 17 with (first | (refine af rfl (aQ rfl) ?_) | (refine av rfl (exec_fill rfl rfl rfl) ?_) | fail)
      generalize w10.alloc (.cells (cel q).toArray 58) = w11 at *
      generalize w10.heap.size = qb at *
      go_wp2_with (first | (refine af rfl (aV (c := q) rfl rfl ?_) ?_; (with_reducible exact HQ.out)) | (refine af rfl (aV (c := b) rfl rfl ?_) ?_; (with_reducible exact HA10.out)) | (refine af (v := .bool false) rfl (exec_neqB false rfl rfl rfl HD0.out) ?_) | fail)
      refine wp_region_still_tail 3 (by kernel_rfl) (by kernel_rfl) ?_
      simp only [List.take_succ_cons, List.take_zero, List.drop_succ_cons, List.drop_zero]
      refine aK rfl (ai rfl (ev rfl)) ?_
      simp only [Act.put, aa, ac, ae]
      refine aK rfl (bw (c := y) rfl (ev rfl) HS10.out) ?_
      simp only [Act.put, aa, ac, ae]
      refine aK rfl (ak rfl (ev rfl)) ?_
      simp only [Act.put, aa, ac, ae]
      refine wpStill_nil ?_
      change wpList _ _ _ _ _ (World.drew _)
      refine aN rfl (bP (c := y) rfl (ev rfl) (ev rfl) HR10.out) ?_
      simp only [Act.put, aa, ac, ae]
      refine ag rfl (ak rfl evk) ?_
      simp only [Act.put, aa, ac, ae]
      refine wpList_nil ?_
      go_wp2_with fail
      refine bodyPost_ret (da (t := 62) (cs := aL y) rfl _ _ _ rfl ?h1 Tryz.underlying62 rfl ?h2) rfl ⟨by rw [HN.out, HL.out, HY.out]; rfl, ?h3⟩
      case h1 => exact World.rangeAt_setCells_same _ _ _ _ (by rw [ax]; exact HR10.out)
      case h2 => rw [ax]; exact dA
      case h3 => exact below_setCells (bd HB10.out) (Nat.le_succ _) _
theorem rsget (b : Blk) (w : World) : Calls Tryz.prog 52 #[blk b] w fun e w' => e = .returned (.tuple #[.int .u64 (gsN b : Nat), sup (gsS b), .int .i64 (gsE b : Nat)]) ∧ Below w.heap.size w w' := by
  by_cases h0 : cr b.toList = 0
  · by_cases hev : evB (cq b.toList) = true
    · by_cases hm : supB (bm (bW b.toList)) = true
      · by_cases hd : cX (cq b.toList) (ct (bm (bW b.toList))) = b
        · have hE := gsE_ok h0 ⟨hev, hm, (put_same h0 hev _).1 hd⟩
          rw [gsN_of hE, gsS_of hE, hE]
          exact rsget_yes b w h0 hev hm hd
        · have hE := gsE_form h0 (fun h => hd ((put_same h0 hev _).2 h.2.2))
          rw [gsN_no (by omega), gsS_no (by omega), hE]
          exact rsget_un b w h0 hev hm hd
      · have hE := gsE_form h0 (fun h => hm h.2.1)
        rw [gsN_no (by omega), gsS_no (by omega), hE]
        exact rsget_may b w h0 hev (by simpa using hm)
    · have hE := gsE_form h0 (fun h => hev h.1)
      rw [gsN_no (by omega), gsS_no (by omega), hE]
      exact rsget_ev b w h0 (by simpa using hev)
  · have hE := gsE_seal h0
    rw [gsN_no (by omega), gsS_no (by omega), hE]
    exact rsget_seal b w h0
end Go.Proofs.YtnliphgjcaippaaGreatDoor
