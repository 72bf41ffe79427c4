import Derived.Test.YtnliphgjcaippaaGreatDoorHnae
import Derived.Test.YtnliphgjcaippaaGreatDoorHnag
import Derived.Deep.DeepCutAuto
import Derived.Test.YtnliphgjcaippaaGreatDoorHnaa
import Derived.Laws.AppendOwn
import Derived.Laws.OwnMore
import Derived.Test.YtnliphgjcaippaaGreatDoorHnZ
namespace Go.Proofs.YtnliphgjcaippaaGreatDoor
open Go.RowKit
set_option linter.unusedVariables false
set_option maxRecDepth 100000
def aY (x : Sup) : List Value := .int .u64 x.id :: .int .i64 x.self :: aD x.ros
def sup (x : Sup) : Value := .agg (aY x).toArray
theorem aK (x : Sup) : (aY x).length = 23 := by simp [aY, aQ]
theorem celS_one (x : Sup) : ∀ v ∈ aY x, v.oneCell' = true := by
  intro v hv
  simp only [aY, List.mem_cons] at hv
  rcases hv with rfl | rfl | hv
  · rfl
  · rfl
  · exact celR_one _ v hv
theorem sizeS : (Tryz.prog.info? 62).map (·.size) = some 23 := by kernel_rfl
theorem size44 : (Tryz.prog.info? 161).map (·.size) = some 44 := by kernel_rfl
theorem zeroS_info : (Tryz.prog.info? 62).map (fun i => i.zero) = some (some (sup br)) := by kernel_rfl
theorem zero44_info : (Tryz.prog.info? 161).map (fun i => i.zero) = some (some (arr z44)) := by kernel_rfl
section
variable {ρ : Operand → Value} {o : Oper} {x y : Operand} {w : World} {b off : Nat}
theorem cg {c : Sup} (ho : o.op = .load 62 x) (hx : ρ x = .pointer (some ⟨b, off, none⟩)) (hc : w.rangeAt b off (aY c)) : (execOp ρ o).run Tryz.prog w = .ok (.value (sup c)) w :=
  bm Tryz.underlying62 rfl (by rw [aK]; exact sizeS) ho hx hc
theorem dR {l : List UInt8} (hl : l.length = 44) (ho : o.op = .load 161 x) (hx : ρ x = .pointer (some ⟨b, off, none⟩)) (hc : w.rangeAt b off (vals l)) : (execOp ρ o).run Tryz.prog w = .ok (.value (arr l)) w :=
  bm Tryz.underlying161 rfl (by rw [aO, hl]; exact size44) ho hx hc
theorem exec_boxS {c : Sup} (ho : o.op = .box 62 x) (hx : ρ x = sup c) : (execOp ρ o).run Tryz.prog w = .ok (.value (.pointer (some ⟨w.heap.size, 0, none⟩))) (w.alloc (.cells (aY c).toArray 62)) := bN ho hx
theorem bl (ho : o.op = .alloc 62) : (execOp ρ o).run Tryz.prog w = .ok (.value (.pointer (some ⟨w.heap.size, 0, none⟩))) (w.alloc (.cells (aY br).toArray 62)) := cP zeroS_info ho
theorem exec_alloc44 (ho : o.op = .alloc 161) : (execOp ρ o).run Tryz.prog w = .ok (.value (.pointer (some ⟨w.heap.size, 0, none⟩))) (w.alloc (.cells (vals z44).toArray 161)) := cP zero44_info ho
theorem cC {c d : Sup} (ho : o.op = .store 62 x y) (hx : ρ x = .pointer (some ⟨w.heap.size, 0, none⟩)) (hy : ρ y = sup c) : (execOp ρ o).run Tryz.prog (w.alloc (.cells (aY d).toArray 62)) = .ok .skip (w.alloc (.cells (aY c).toArray 62)) :=
  exec_filT (by rw [aK]; exact sizeS) (by rw [aK, aK]) (celS_one c) ho hx hy
theorem cI {c : Sup} (ho : o.op = .store 62 x y) (hx : ρ x = .pointer (some ⟨b, off, none⟩)) (hy : ρ y = sup c) (ht : w.there b off 23) : (execOp ρ o).run Tryz.prog w = .ok .skip (w.setCells b off (aY c)) :=
  exec_putT (by rw [aK]; exact sizeS) (celS_one c) ho hx hy (by rw [aK]; exact ht)
theorem run_bldS (w : World) : (Instr.build 62 #[]).run Tryz.prog w = .ok (sup br) w := by kernel_rfl
theorem exec_bldS (ho : o.op = .build 62 #[]) : (execOp ρ o).run Tryz.prog w = .ok (.value (sup br)) w := dm ho (run_bldS w)
end
theorem celS_eq (x : Sup) : aY x = [.int .u64 x.id, .int .i64 x.self] ++ aD x.ros := rfl
section
variable {ρ : Operand → Value} {o : Oper} {x y : Operand} {w : World} {t : TypeId}
theorem guard44 : Tryz.prog.eqGuardType Tryz.prog.depth 161 = false := by kernel_rfl
theorem exec_ne44 {a b : List UInt8} (c : Bool) (ha : a.length = 44) (hb : b.length = 44) (ho : o.op = .binOp .neq 161 x y t) (hx : ρ x = arr a) (hy : ρ y = arr b) (h : decide (a = b) = c) : (execOp ρ o).run Tryz.prog w = .ok (.value (.bool (!c))) w := by
  subst h; exact exec_neT guard44 (run_eqArr Tryz.underlying161 w a b ha hb 9998) ho hx hy
end
def bQ (w : World) (b : Nat) (x : Sup) : Prop := w.heap[b]? = some (.cells (aY x).toArray 62 (0, 0))
section
variable {w w' : World} {b : Nat} {x : Ros} {y : Sup}
theorem bQ.range (h : bQ w b y) : w.rangeAt b 0 (aY y) := aL h
theorem bQ.rosr (h : bQ w b y) : w.rangeAt b 2 (aD y.ros) := by
  have := du (k := 2) (ds := [.int .u64 y.id, .int .i64 y.self]) (es := aD y.ros) (fs := []) h.range (by simp [celS_eq]) rfl
  rwa [Nat.zero_add] at this
theorem bQ.cells (h : bQ w b y) : w.cell? ⟨b, 0, none⟩ = some (.int .u64 y.id) ∧ w.cell? ⟨b, 1, none⟩ = some (.int .i64 y.self) ∧ w.cell? ⟨b, 2, none⟩ = some (.int .i64 y.ros.m) ∧ w.cell? ⟨b, 3, none⟩ = some (.int .i64 y.ros.s) ∧ w.cell? ⟨b, 4, none⟩ = some (.int .i64 y.ros.r) ∧ w.cell? ⟨b, 21, none⟩ = some (.int .i64 y.ros.cur) ∧ w.cell? ⟨b, 22, none⟩ = some (.bool y.ros.gone) := by
  have hr := du (k := 19) (ds := celG y.ros ++ vals y.ros.st.toList) (es := [.int .i64 y.ros.cur, .bool y.ros.gone]) (fs := []) h.rosr (by simp [celR_eq]) (by simp [celG, aO])
  exact ⟨h.range 0 _ rfl, h.range 1 _ rfl, h.range 2 _ rfl, h.range 3 _ rfl, h.range 4 _ rfl, hr 0 _ rfl, hr 1 _ rfl⟩
theorem bQ.below {B : Nat} (h : bQ w b y) (hB : b < B) (hb : Below B w w') : bQ w' b y := blk_keep2 h hB hb
theorem bQ.new (w : World) (y : Sup) : bQ (w.alloc (.cells (aY y).toArray 62)) w.heap.size y := heap_alloc_new w _
theorem bQ.past (h : bQ w b y) (o : Obj) : bQ (w.alloc o) b y := aX h o
end
set_option maxHeartbeats 1000000 in
theorem pgmay (x : Ros) (w : World) : Calls Tryz.prog 76 #[geo x] w fun e w' => e = .returned (.bool (geoB x)) ∧ Below w.heap.size w w' := by
  have h1 := dP (x := x)
  have h2 := geoB_not (x := x)
  generalize geoB x = g at *
  obtain ⟨m, s, r, st, cur, gone⟩ := x
  simp only at h1 h2
  have H1 := Lib.hid h1
  have H2 := Lib.hid h2
  clear h1 h2
  show Calls Tryz.prog 76 #[.agg #[.int .i64 m, .int .i64 s, .int .i64 r]] w _
  go_enter Tryz.func76, Tryz.ntmps76
  go_wp2
  all_goals
    go_ret
    refine ⟨aJ ?_, (Below.refl _ _).alloc (Nat.le_refl _) _⟩
    first
      | (refine Eq.symm (H2.out.2 ?_); omega)
      | (rw [Bool.eq_iff_iff, H1.out, decide_eq_true_iff]; omega)
set_option maxHeartbeats 1000000 in
theorem rgmay (x : Ros) (w : World) : Calls Tryz.prog 84 #[geo x] w fun e w' => e = .returned (.bool (geoB x)) ∧ Below w.heap.size w w' := by
  have h1 := dP (x := x)
  have h2 := geoB_not (x := x)
  generalize geoB x = g at *
  obtain ⟨m, s, r, st, cur, gone⟩ := x
  simp only at h1 h2
  have H1 := Lib.hid h1
  have H2 := Lib.hid h2
  clear h1 h2
  show Calls Tryz.prog 84 #[.agg #[.int .i64 m, .int .i64 s, .int .i64 r]] w _
  go_enter Tryz.func84, Tryz.ntmps84
  go_wp2
  all_goals
    go_ret
    refine ⟨aJ ?_, (Below.refl _ _).alloc (Nat.le_refl _) _⟩
    first
      | (refine Eq.symm (H2.out.2 ?_); omega)
      | (rw [Bool.eq_iff_iff, H1.out, decide_eq_true_iff]; omega)
theorem boxS_new (w : World) (x : Sup) : bQ (w.alloc (.cells (aY x).toArray 62)) w.heap.size x ∧ Below w.heap.size w (w.alloc (.cells (aY x).toArray 62)) ∧ w.heap.size < (w.alloc (.cells (aY x).toArray 62)).heap.size :=
  ⟨bQ.new w x, (Below.refl w.heap.size w).alloc (Nat.le_refl _) _, by simp only [World.size_alloc]; omega⟩
theorem pevent (n : Nat) (w : World) : Calls Tryz.prog 127 #[.int .u64 n] w fun e w' => e = .returned (.bool (evB n)) ∧ w = w' := by
  by_cases h : 1 ≤ n
  · go_enter Tryz.func127, Tryz.ntmps127
    go_wp2
    go_ret
    refine ⟨aJ ?_, rfl⟩
    unfold evB
    rw [decide_eq_decide]
    omega
  · have h0 : n = 0 := by omega
    subst h0
    go_enter Tryz.func127, Tryz.ntmps127
    go_wp2
    go_ret
    exact ⟨rfl, rfl⟩
set_option maxHeartbeats 1000000 in
theorem pheal (x : Ros) (w : World) : Calls Tryz.prog 157 #[ros x] w fun e w' => e = .returned (.int .i64 (ci x : Nat)) ∧ Below w.heap.size w w' := by
  obtain ⟨h1, h2, h3⟩ := bV w x
  have HR := Lib.hid h1
  have HB := Lib.hid h2
  clear h1 h2 h3
  have HL := Lib.hid (stL_length x.st)
  have HH : Hid (ci x = healK x.st.toList 16) := Lib.hid rfl
  go_enter Tryz.func157, Tryz.ntmps157
  go_wp2_with (first | (refine af rfl (aE rfl rfl) ?_) | (refine af rfl (cw HL.out rfl rfl ?_) ?_; (with_reducible exact HR.out.sts)) | fail)
  generalize w.alloc (.cells (aD x).toArray 28) = w1 at *
  generalize x.st.toList = l at *
  go_loop [3, 8] (fun n i => ∃ j : Nat, j ≤ 16 ∧ i = .int .i64 j ∧ n = .int .i64 (healK l j : Nat)) (fun _ i => 16 - (intOf i).toNat)
  case atStart => exact ⟨0, Nat.zero_le _, rfl, rfl⟩
  case round =>
    obtain ⟨j, hj, rfl, rfl⟩ := hrel
    by_cases hlt : j < 16
    · have hs := Lib.hid (healK_succ l j)
      have hle := healK_le l j
      generalize healK l j = n at *
      by_cases h2 : bt l j = 2
      · rw [if_pos h2] at hs
        have hd : (bt l j == 2) = true := by rw [h2]; rfl
        clear h2
        go_wp2_with (first | (refine af rfl (cJ (l := l) (j := j) HL.out hlt rfl rfl rfl) ?_) | fail)
        go_round
        case rel => exact ⟨j + 1, by omega, by go_num, by rw [hs.out]; go_num⟩
        case measure => simp [intOf]; omega
      · rw [if_neg h2] at hs
        have hd : (bt l j == 2) = false := by simpa using h2
        clear h2
        go_wp2_with (first | (refine af rfl (cJ (l := l) (j := j) HL.out hlt rfl rfl rfl) ?_) | fail)
        go_round
        case rel => exact ⟨j + 1, by omega, by go_num, by rw [hs.out, Nat.add_zero]⟩
        case measure => simp [intOf]; omega
    · have e : j = 16 := by omega
      subst e
      go_wp2
      go_ret
      exact ⟨by rw [HH.out]; rfl, HB.out⟩
set_option maxHeartbeats 1000000 in
theorem pcur (x : Ros) (w : World) : Calls Tryz.prog 145 #[ros x] w fun e w' => e = .returned (.bool (curB x)) ∧ Below w.heap.size w w' := by
  obtain ⟨h1, h2, h3⟩ := bV w x
  have HR := Lib.hid h1
  have HB := Lib.hid h2
  have HZ := Lib.hid h3
  clear h1 h2 h3
  have HC : Hid (curB x = if ci x = 0 then decide (x.cur = 0) else decide (0 ≤ x.cur ∧ x.cur < x.s)) := Lib.hid rfl
  go_enter Tryz.func145, Tryz.ntmps145
  go_wp2_with (first | (refine af rfl (aE rfl rfl) ?_) | (refine af rfl (aM (c := x) rfl rfl ?_) ?_; (with_reducible exact HR.out.range)) | fail)
  generalize w.alloc (.cells (aD x).toArray 28) = w1 at *
  refine (pheal x w1).mono ?_
  rintro e w2 ⟨rfl, hb⟩
  obtain ⟨c0, c1, c2, c3, c4⟩ := (HR.out.below HZ.out hb).cells
  have HB2 := Lib.hid (HB.out.trans (hb.mono (Nat.le_of_lt HZ.out)))
  clear hb
  generalize x.cur = c at *
  generalize x.s = s at *
  by_cases h0 : ci x = 0
  · rw [if_pos h0] at HC
    rw [h0]
    go_wp2
    go_ret
    exact ⟨aJ (by rw [HC.out, Bool.eq_iff_iff]; simp), HB2.out⟩
  · rw [if_neg h0] at HC
    have hd : ((ci x : Int) == 0) = false := by simp; omega
    by_cases hc : 0 ≤ c
    · go_wp2
      go_ret
      exact ⟨aJ (by rw [HC.out, decide_eq_decide]; omega), HB2.out⟩
    · have hlt : c < 0 := by omega
      go_wp2
      go_ret
      exact ⟨aJ (by rw [HC.out]; simp; omega), HB2.out⟩
set_option linter.unusedSimpArgs false
def memL (x : Ros) : List UInt8 := splice (List.replicate 16 0) 0 (x.st.toList.take x.m.toNat)
theorem memL_length {x : Ros} : (memL x).length = 16 := by
  unfold memL
  rw [length_splice _ _ _ (by simp; omega)]
  simp
theorem bt_memL {x : Ros} (h0 : 0 ≤ x.m) (h16 : x.m ≤ 16) {k : Nat} (hk : k < 16) : bt (memL x) k = if (k : Int) < x.m then sta x k else 0 := by
  unfold memL
  have hl : (x.st.toList.take x.m.toNat).length = x.m.toNat := by simp; omega
  rw [bt_splice (by rw [hl]; simp; omega), hl, bt_noughts]
  by_cases h : (k : Int) < x.m
  · rw [if_pos (by omega), if_pos h]
    unfold sta bt
    simp only [List.getD, Nat.sub_zero, List.getElem?_take_of_lt (show k < x.m.toNat by omega)]
  · rw [if_neg (by omega), if_neg h]
theorem memL_big {x : Ros} (h0 : 0 ≤ x.m) (h16 : x.m ≤ 16) {k : Nat} (hk : k < 16) (hb : 2 < bt (memL x) k) : staB x = false := by
  rw [Bool.eq_false_iff]
  intro h
  have := (of_staB h).1 k hk
  rw [bt_memL h0 h16 hk] at hb
  split at hb <;> omega
theorem memL_all {x : Ros} (h0 : 0 ≤ x.m) (h16 : x.m ≤ 16) (h : ∀ k, k < 16 → bt (memL x) k ≤ 2) : staB x = decide (memL x = x.st.toList) := by
  rw [Bool.eq_iff_iff, decide_eq_true_iff, staB_iff]
  constructor
  · rintro ⟨h1, h2⟩
    refine eq_of_bt (by rw [memL_length]; simp) fun k hk => ?_
    rw [memL_length] at hk
    rw [bt_memL h0 h16 hk]
    split
    · rfl
    · exact (h2 k hk (by omega)).symm
  · intro e
    have h3 : ∀ k, k < 16 → sta x k = bt (memL x) k := fun k hk => by rw [e]; rfl
    refine ⟨fun k hk => by rw [h3 k hk]; exact h k hk, fun k hk hm => ?_⟩
    rw [h3 k hk, bt_memL h0 h16 hk, if_neg (by omega)]
section
variable {ρ : Operand → Value} {o : Oper} {x z : Operand} {w : World} {g off : Nat}
theorem exec_all16 (ho : o.op = .slice 26 x none none none) (hx : ρ x = .pointer (some ⟨g, off, none⟩)) : (execOp ρ o).run Tryz.prog w = .ok (.value (.slice (some ⟨g, off, none⟩) 16 16)) w := by
  have h : (Instr.sliceAt 26 (.pointer (some ⟨g, off, none⟩)) none none none).run Tryz.prog w = .ok (.slice (some ⟨g, off, none⟩) 16 16) w := by
    simp [Instr.sliceAt, Instr.sliceBounds, Instr.sliceBound, Instr.sureAddr, asIntOf, run_underlying Tryz.underlying26, Tryz.sizeOf5, Addr.add_mid]
  unfold execOp
  simp only [ho, hx, Option.map_none, Sem.run_bind, h, Result.andThen_ok, Sem.run_pure]
theorem exec_first16 {m : Int} (h0 : 0 < m) (h16 : m ≤ 16) (ho : o.op = .slice 26 x none (some z) none) (hx : ρ x = .pointer (some ⟨g, off, none⟩)) (hz : ρ z = .int .i64 m) : (execOp ρ o).run Tryz.prog w = .ok (.value (.slice (some ⟨g, off, none⟩) m.toNat 16)) w := by
  obtain ⟨n, rfl⟩ := Int.eq_ofNat_of_zero_le (Int.le_of_lt h0)
  have h : (Instr.sliceAt 26 (.pointer (some ⟨g, off, none⟩)) none (some (.int .i64 (n : Int))) none).run Tryz.prog w = .ok (.slice (some ⟨g, off, none⟩) n 16) w := by
    have e1 : (0 ≤ (n : Int) ∧ (n : Int) ≤ 16) := by omega
    have e2 : n ≤ 16 := by omega
    simp [Instr.sliceAt, Instr.sliceBounds, Instr.sliceBound, Instr.sureAddr, asIntOf, run_underlying Tryz.underlying26, Tryz.sizeOf5, Addr.add_mid, e1, e2]
  unfold execOp
  simp only [ho, hx, hz, Option.map_none, Option.map_some, Sem.run_bind, h, Result.andThen_ok, Sem.run_pure, Int.toNat_natCast]
end
set_option maxHeartbeats 2000000 in
theorem pstates (x : Ros) (w : World) (h0 : 0 < x.m) (h16 : x.m ≤ 16) : Calls Tryz.prog 144 #[ros x] w fun e w' => e = .returned (.bool (staB x && decide (ci x ≤ 1))) ∧ Below w.heap.size w w' := by
  obtain ⟨h1, h2, h3⟩ := bV w x
  have HR := Lib.hid (h1.past (.cells (vals (List.replicate 16 0)).toArray 26))
  have HB := Lib.hid (h2.alloc h2.size (.cells (vals (List.replicate 16 0)).toArray 26))
  have HM : Hid (bF ((w.alloc (.cells (aD x).toArray 28)).alloc (.cells (vals (List.replicate 16 0)).toArray 26)) (w.heap.size + 1) 26 (List.replicate 16 0)) := by
    have := bF.new (w.alloc (.cells (aD x).toArray 28)) (List.replicate 16 0) 26
    rw [World.size_alloc] at this
    exact Lib.hid this
  clear h1 h2 h3
  have HML := Lib.hid (memL_length (x := x))
  have HSL := Lib.hid (stL_length x.st)
  have HBIG : Hid (∀ k, k < 16 → 2 < bt (memL x) k → staB x = false) := Lib.hid fun k hk hb => memL_big (by omega) h16 hk hb
  have HALL : Hid ((∀ k, k < 16 → bt (memL x) k ≤ 2) → staB x = decide (memL x = x.st.toList)) := Lib.hid fun h => memL_all (by omega) h16 h
  have HDEF : Hid (splice (List.replicate 16 0) 0 (x.st.toList.take x.m.toNat) = memL x) := Lib.hid rfl
  go_enter Tryz.func144, Tryz.ntmps144
  go_wp2_with (first | (refine af rfl (aE rfl rfl) ?_) | (refine af rfl (exec_alloc16 rfl) ?_) | fail)
  simp only [World.size_alloc]
  generalize (w.alloc (.cells (aD x).toArray 28)).alloc (.cells (vals (List.replicate 16 0)).toArray 26) = w1 at *
  have c0 := HR.out.cells.1
  have HRD := Lib.hid (HR.out.rd (m := x.m.toNat) (by omega))
  refine wp_region_still_tail 6 (by kernel_rfl) (by kernel_rfl) ?_
  simp only [List.take_succ_cons, List.take_zero, List.drop_succ_cons, List.drop_zero]
  refine aI rfl (exec_all16 rfl (ev rfl)) ?_
  simp only [Act.put, aa, ac, ae]
  refine aI rfl (am rfl (ev rfl) faR1) ?_
  simp only [Act.put, aa, ac, ae]
  refine aI rfl (am rfl (ev rfl) faR0) ?_
  simp only [Act.put, aa, ac, ae]
  refine aI rfl (am rfl (ev rfl) faG0) ?_
  simp only [Act.put, aa, ac, ae]
  refine aI rfl (au rfl (ev rfl) (bq c0)) ?_
  simp only [Act.put, aa, ac, ae]
  refine aI rfl (exec_first16 h0 h16 rfl (ev rfl) (ev rfl)) ?_
  simp only [Act.put, aa, ac, ae]
  refine wpStill_nil ?_
  change wpList _ _ _ _ _ (World.drew _)
  refine cQ rfl _ _ rfl (w.heap.size + 1) 0 16 16 x.m.toNat 16 _ _ 26 (List.replicate 16 0) (x.st.toList.take x.m.toNat) (ev rfl) (ev rfl) HM.out.draw HRD.out (by omega) (by simp; omega) ?_
  intro w2 hr2 hg2
  rw [HDEF.out] at hr2
  have HR2 : Hid (a7 w2 w.heap.size x) := Lib.hid ((hg2.block w.heap.size (aF HR.out) (fun e => by injection e with e; omega)).trans HR.out)
  have HM2 := Lib.hid hr2
  have HM2R := Lib.hid (aL hr2)
  have HB2 : Hid (Below w.heap.size w w2) := Lib.hid ((bd HB.out).grown hg2 HB.out.size (fun k hk => by injection hk with e; omega))
  have HZ2 : Hid (w.heap.size < w2.heap.size) := Lib.hid (aF HR2.out)
  clear hr2 hg2 HR HM HB HRD c0
  simp only [Act.put, aa, ac, ae]
  refine wpList_nil ?_
  go_wp2_with (first | (refine af rfl (cw HML.out rfl rfl ?_) ?_; (with_reducible exact HM2R.out)) | fail)
  have HW2 := Lib.hid (show w2 = w2 from rfl)
  go_loop [14] (fun i => ∃ j : Nat, j ≤ 16 ∧ i = .int .i64 j ∧ ∀ k, k < j → bt (memL x) k ≤ 2) (fun i => 16 - (intOf i).toNat)
  case atStart => exact ⟨0, Nat.zero_le _, rfl, fun k hk => absurd hk (by omega)⟩
  case round =>
    obtain ⟨j, hj, rfl, hall⟩ := hrel
    have HA := Lib.hid hall
    clear hall
    by_cases hlt : j < 16
    · by_cases h2 : 2 < bt (memL x) j
      · have HF := Lib.hid (HBIG.out j hlt h2)
        go_wp2_with (first | (refine af rfl (cJ (l := memL x) (j := j) HML.out hlt rfl rfl rfl) ?_) | fail)
        go_ret
        exact ⟨aJ (by rw [HF.out]; rfl), HB2.out⟩
      · have h2' : bt (memL x) j ≤ 2 := by omega
        have HN : Hid (∀ k, k < j + 1 → bt (memL x) k ≤ 2) := Lib.hid fun k hk => by
          by_cases e : k = j
          · rw [e]; exact h2'
          · exact HA.out k (by omega)
        go_wp2_with (first | (refine af rfl (cJ (l := memL x) (j := j) HML.out hlt rfl rfl rfl) ?_) | fail)
        go_round
        case rel => exact ⟨j + 1, by omega, by go_num, HN.out⟩
        case measure => simp [intOf]; omega
    · have e : j = 16 := by omega
      subst e
      have HE := Lib.hid (HALL.out HA.out)
      cases hs : staB x
      · rw [hs] at HE
        have HD : Hid (decide (memL x = x.st.toList) = false) := Lib.hid HE.out.symm
        have HS := Lib.hid hs
        clear hs HE
        go_wp2_with (first | (refine af rfl (cw HML.out rfl rfl ?_) ?_; (with_reducible exact HM2R.out)) | (refine af rfl (cw HSL.out rfl rfl ?_) ?_; (with_reducible exact HR2.out.sts)) | (refine af rfl (exec_eq16 false HML.out HSL.out rfl rfl rfl HD.out) ?_) | fail)
        go_ret
        exact ⟨aJ (by rw [HS.out]; rfl), HB2.out⟩
      · rw [hs] at HE
        have HD : Hid (decide (memL x = x.st.toList) = true) := Lib.hid HE.out.symm
        have HS := Lib.hid hs
        clear hs HE
        go_wp2_with (first | (refine af rfl (cw HML.out rfl rfl ?_) ?_; (with_reducible exact HM2R.out)) | (refine af rfl (cw HSL.out rfl rfl ?_) ?_; (with_reducible exact HR2.out.sts)) | (refine af rfl (exec_eq16 true HML.out HSL.out rfl rfl rfl HD.out) ?_) | (refine ag (by rfl) (aM (c := x) rfl rfl ?_) ?_; (with_reducible exact HR2.out.range)) | fail)
        refine (pheal x w2).mono ?_
        rintro e w3 ⟨rfl, hb⟩
        have HB3 := Lib.hid (HB2.out.trans (hb.mono (Nat.le_of_lt HZ2.out)))
        clear hb
        go_wp2
        go_ret
        exact ⟨aJ (by rw [HS.out, Bool.true_and, decide_eq_decide]; omega), HB3.out⟩
set_option maxHeartbeats 2000000 in
theorem proster (x : Ros) (w : World) : Calls Tryz.prog 134 #[ros x] w fun e w' => e = .returned (.bool (aH x)) ∧ Below w.heap.size w w' := by
  have HF := Lib.hid (fine_split x)
  obtain ⟨h1, h2, h3⟩ := bV w x
  have HR := Lib.hid h1
  have HB := Lib.hid h2
  have HZ := Lib.hid h3
  clear h1 h2 h3
  go_enter Tryz.func134, Tryz.ntmps134
  go_wp2_with (first | (refine af rfl (aE rfl rfl) ?_) | (refine af rfl (cz (c := x) rfl rfl ?_) ?_; (with_reducible exact HR.out.geo)) | fail)
  generalize w.alloc (.cells (aD x).toArray 28) = w1 at *
  refine (pgmay x w1).mono ?_
  rintro e w2 ⟨rfl, hb⟩
  have HR2 := Lib.hid (HR.out.below HZ.out hb)
  have HB2 := Lib.hid (HB.out.trans (hb.mono (Nat.le_of_lt HZ.out)))
  have HZ2 := Lib.hid (aF HR2.out)
  clear hb HR HB HZ
  cases hg : geoB x
  · rw [hg] at HF
    go_wp2_with fail
    go_ret
    exact ⟨aJ (by rw [HF.out]; rfl), HB2.out⟩
  · rw [hg] at HF
    have hgg := dP.1 hg
    clear hg
    go_wp2_with (first | (refine ag (by rfl) (aM (c := x) rfl rfl ?_) ?_; (with_reducible exact HR2.out.range)) | fail)
    refine (pstates x w2 (by omega) (by omega)).mono ?_
    rintro e w3 ⟨rfl, hb⟩
    have HR3 := Lib.hid (HR2.out.below HZ2.out hb)
    have HB3 := Lib.hid (HB2.out.trans (hb.mono (Nat.le_of_lt HZ2.out)))
    have HZ3 := Lib.hid (aF HR3.out)
    clear hb HR2 HB2 HZ2 hgg
    generalize (staB x && decide (ci x ≤ 1)) = p at *
    cases p
    · go_wp2_with fail
      go_ret
      exact ⟨aJ (by rw [HF.out]; rfl), HB3.out⟩
    · go_wp2_with (first | (refine ag (by rfl) (aM (c := x) rfl rfl ?_) ?_; (with_reducible exact HR3.out.range)) | fail)
      refine (pcur x w3).mono ?_
      rintro e w4 ⟨rfl, hb⟩
      have HB4 := Lib.hid (HB3.out.trans (hb.mono (Nat.le_of_lt HZ3.out)))
      clear hb
      generalize curB x = q at *
      go_wp2_with fail
      go_ret
      exact ⟨aJ (by rw [HF.out]; rfl), HB4.out⟩
theorem sup_split (x : Sup) : supB x = (decide (x.id ≠ 0) && (aH x.ros && decide (0 ≤ x.self ∧ x.self < x.ros.m))) := by unfold supB; rw [Bool.and_assoc]
set_option maxHeartbeats 2000000 in
theorem psmay (x : Sup) (w : World) : Calls Tryz.prog 128 #[sup x] w fun e w' => e = .returned (.bool (supB x)) ∧ Below w.heap.size w w' := by
  have HF := Lib.hid (sup_split x)
  obtain ⟨h1, h2, h3⟩ := boxS_new w x
  have HR := Lib.hid h1
  have HB := Lib.hid h2
  have HZ := Lib.hid h3
  obtain ⟨c0, c1, c2, c3, c4, c5, c6⟩ := h1.cells
  clear h1 h2 h3
  go_enter Tryz.func128, Tryz.ntmps128
  by_cases hid : x.id = 0
  · rw [decide_eq_false (by simpa using hid)] at HF
    have hd : ((x.id : Int) != 0) = false := by rw [hid]; rfl
    go_wp2_with (first | (refine af rfl (exec_boxS rfl rfl) ?_) | fail)
    go_ret
    exact ⟨aJ (by rw [HF.out]; rfl), HB.out⟩
  · rw [decide_eq_true (by simpa using hid)] at HF
    have hd : ((x.id : Int) != 0) = true := by simp; omega
    go_wp2_with (first | (refine af rfl (exec_boxS rfl rfl) ?_) | (refine ag (by rfl) (aM (c := x.ros) rfl rfl ?_) ?_; (with_reducible exact HR.out.rosr)) | fail)
    generalize w.alloc (.cells (aY x).toArray 62) = w1 at *
    clear c0 c1 c2 c3 c4 c5 c6
    refine (proster x.ros w1).mono ?_
    rintro e w2 ⟨rfl, hb⟩
    obtain ⟨c0, c1, c2, c3, c4, c5, c6⟩ := (HR.out.below HZ.out hb).cells
    have HB2 := Lib.hid (HB.out.trans (hb.mono (Nat.le_of_lt HZ.out)))
    clear hb HR HB HZ hd hid
    generalize aH x.ros = p at *
    generalize x.self = a at *
    generalize x.ros.m = m at *
    cases p
    · go_wp2_with fail
      go_ret
      exact ⟨aJ (by rw [HF.out]; rfl), HB2.out⟩
    · by_cases ha : 0 ≤ a
      · go_wp2
        go_ret
        exact ⟨aJ (by rw [HF.out]; simp [ha]), HB2.out⟩
      · have ha' : a < 0 := by omega
        go_wp2
        go_ret
        exact ⟨aJ (by rw [HF.out]; simp; omega), HB2.out⟩
def unw (ops : Array Oper) : List Oper → Act → Bool
  | [], _ => true
  | r :: rs, a => !(Region.wanted r (yielded ops a.tmps)) && unw ops rs (a.put r.dst undef)
def bh : List Oper → Act → Act
  | [], a => a
  | r :: rs, a => bh rs (a.put r.dst undef)
section
variable {P : Program} {ops : Array Oper} {rest l : List Oper} {o : Oper} {a : Act} {w w' : World} {Q : Exit → Act → World → Prop} {v : Value}
theorem wpList_unw : ∀ (rs : List Oper) (a : Act), unw ops rs a = true → wpList P ops Q rest (bh rs a) w → wpList P ops Q (rs ++ rest) a w
  | [], _, _, h => h
  | r :: rs, a, hu, h => by
    simp only [unw, Bool.and_eq_true, Bool.not_eq_true'] at hu
    refine wpList_step fun K hK => ?_
    rw [if_neg (by rw [hu.1]; exact Bool.false_ne_true)]
    exact hK _ _ (wpList_unw rs _ hu.2 h)
theorem aR (n : Nat) (hw : Region.wanted o (yielded ops a.tmps) = true) (h : (execOp a.eval o).run P w = .ok (.value v) w') (hu : unw ops (l.take n) (a.put o.dst v) = true) (hr : wpList P ops Q (l.drop n) (bh (l.take n) (a.put o.dst v)) w') : wpList P ops Q (o :: l) a w :=
  ag hw h (by have := wpList_unw (P := P) (Q := Q) (l.take n) _ hu hr; rwa [List.take_append_drop] at this)
end
set_option maxHeartbeats 4000000 in
theorem rfine (x : Ros) (w : World) : Calls Tryz.prog 46 #[ros x] w fun e w' => e = .returned (.bool (aH x)) ∧ Below w.heap.size w w' := by
  have HGE : Hid (geoB x = false → aH x = false) := Lib.hid fun h => by unfold aH; rw [h]; rfl
  have HOK : Hid (geoB x = true → staB x = true → aH x = (decide (ci x ≤ 1) && decide (0 ≤ x.cur ∧ x.cur < x.s ∧ (ci x = 1 ∨ x.cur = 0)))) := Lib.hid fun h h' => by unfold aH; rw [h, h', Bool.true_and, Bool.true_and]
  have HNO : Hid (∀ j, j < 16 → (2 < sta x j ∨ (x.m ≤ (j : Int) ∧ sta x j ≠ 0)) → aH x = false) := Lib.hid fun j => sta_no
  have HSTA := Lib.hid (staB_iff (x := x))
  obtain ⟨h1, h2, h3⟩ := bV w x
  have HR := Lib.hid h1
  have HB := Lib.hid h2
  have HZ := Lib.hid h3
  clear h1 h2 h3
  have HH : Hid (ci x = healK x.st.toList 16) := Lib.hid rfl
  have HST : Hid (∀ j, sta x j = bt x.st.toList j) := Lib.hid fun _ => rfl
  go_enter Tryz.func46, Tryz.ntmps46
  go_wp2_with (first | (refine af rfl (aE rfl rfl) ?_) | (refine af rfl (cz (c := x) rfl rfl ?_) ?_; (with_reducible exact HR.out.geo)) | fail)
  generalize w.alloc (.cells (aD x).toArray 28) = w1 at *
  refine (rgmay x w1).mono ?_
  rintro e w2 ⟨rfl, hb⟩
  have HR2 := Lib.hid (HR.out.below HZ.out hb)
  have HB2 := Lib.hid (HB.out.trans (hb.mono (Nat.le_of_lt HZ.out)))
  clear hb HR HB HZ
  cases hg : geoB x
  · have HF := Lib.hid (HGE.out hg)
    clear hg
    go_wp2_with fail
    go_ret
    exact ⟨by rw [HF.out]; rfl, HB2.out⟩
  · have HOK2 := Lib.hid (HOK.out hg)
    clear hg HOK HGE
    have HM := Lib.hid HR2.out.cells.1
    have HSS := Lib.hid HR2.out.cells.2.1
    have HCU := Lib.hid HR2.out.cells.2.2.2.1
    go_wp2_with fail
    go_loop [3, 4] (fun n i => ∃ j : Nat, j ≤ 16 ∧ i = .int .i64 j ∧ n = .int .i64 (healK x.st.toList j : Nat) ∧ (∀ k, k < j → sta x k ≤ 2) ∧ (∀ k : Nat, k < j → x.m ≤ (k : Int) → sta x k = 0)) (fun _ i => 16 - (intOf i).toNat)
    case atStart => exact ⟨0, Nat.zero_le _, rfl, rfl, fun k hk => absurd hk (by omega), fun k hk => absurd hk (by omega)⟩
    case round =>
      obtain ⟨j, hj, rfl, rfl, ha1, ha2⟩ := hrel
      have HA1 := Lib.hid ha1
      have HA2 := Lib.hid ha2
      clear ha1 ha2
      by_cases hlt : j < 16
      · have HC := Lib.hid (HR2.out.sta hlt)
        have HS := Lib.hid (healK_succ x.st.toList j)
        have hle := healK_le x.st.toList j
        generalize healK x.st.toList j = n at *
        by_cases g2 : 2 < sta x j
        · have HF := Lib.hid (HNO.out j hlt (.inl g2))
          have H17 : Hid (decide ((2 : Int) < sta x j) = true) := Lib.hid (decide_eq_true g2)
          clear g2
          go_upto_region 7 with fail
          refine wp_region_lit ?_
          refine af rfl (ai rfl (ev rfl)) ?_
          simp only [Act.put, aa, ac, ae]
          refine af rfl (am rfl (ev rfl) faR1) ?_
          simp only [Act.put, aa, ac, ae]
          refine af rfl (bX rfl (ev rfl) (ev rfl) (ix16 hlt)) ?_
          simp only [Act.put, aa, ac, ae]
          refine af rfl (au rfl (ev rfl) (ldU8 HC.out)) ?_
          simp only [Act.put, aa, ac, ae]
          refine af (v := .bool true) rfl (cD true rfl (ev rfl) evk H17.out) ?_
          simp only [Act.put, aa, ac, ae]
          refine aR 12 (v := .bool true) rfl (ai rfl (ev rfl)) (by kernel_rfl) ?_
          simp only [bh, List.take_succ_cons, List.take_zero, List.drop_succ_cons, List.drop_zero, Act.put, List.setIfInBounds_toArray, List.set_cons_succ, List.set_cons_zero]
          refine af (v := .bool true) rfl (ay rfl (ev rfl) evk) ?_
          simp only [Act.put, aa, ac, ae]
          refine wpList_nil ?_
          go_wp2_with fail
          go_ret
          exact ⟨by rw [HF.out]; rfl, HB2.out⟩
        · have H17 : Hid (decide ((2 : Int) < sta x j) = false) := Lib.hid (decide_eq_false g2)
          have HLE : Hid (sta x j ≤ 2) := Lib.hid (by omega)
          by_cases gm : x.m ≤ (j : Int)
          · have H23 : Hid (decide (x.m ≤ (j : Int)) = true) := Lib.hid (decide_eq_true gm)
            by_cases g0 : sta x j = 0
            · have H29 : Hid ((sta x j != 0) = false) := Lib.hid (by rw [g0]; rfl)
              have HEQ := Lib.hid g0
              clear g2 gm g0
              go_upto_region 7 with fail
              refine wp_region_lit ?_
              refine af rfl (ai rfl (ev rfl)) ?_
              simp only [Act.put, aa, ac, ae]
              refine af rfl (am rfl (ev rfl) faR1) ?_
              simp only [Act.put, aa, ac, ae]
              refine af rfl (bX rfl (ev rfl) (ev rfl) (ix16 hlt)) ?_
              simp only [Act.put, aa, ac, ae]
              refine af rfl (au rfl (ev rfl) (ldU8 HC.out)) ?_
              simp only [Act.put, aa, ac, ae]
              refine af (v := .bool false) rfl (cD false rfl (ev rfl) evk H17.out) ?_
              simp only [Act.put, aa, ac, ae]
              refine af (v := .bool false) rfl (ai rfl (ev rfl)) ?_
              simp only [Act.put, aa, ac, ae]
              refine ag (ah rfl rfl rfl rfl) (ai rfl (ev rfl)) ?_
              simp only [Act.put, aa, ac, ae]
              refine ag (ah rfl rfl rfl rfl) (am rfl (ev rfl) faR0) ?_
              simp only [Act.put, aa, ac, ae]
              refine ag (ah rfl rfl rfl rfl) (am rfl (ev rfl) faG0) ?_
              simp only [Act.put, aa, ac, ae]
              refine ag (ah rfl rfl rfl rfl) (au rfl (ev rfl) (bq HM.out)) ?_
              simp only [Act.put, aa, ac, ae]
              refine ag (v := .bool true) (ah rfl rfl rfl rfl) (bP true rfl (ev rfl) (ev rfl) H23.out) ?_
              simp only [Act.put, aa, ac, ae]
              refine ag (v := .bool true) (ah rfl rfl rfl rfl) (ai rfl (ev rfl)) ?_
              simp only [Act.put, aa, ac, ae]
              refine ag (ah rfl rfl rfl rfl) (ai rfl (ev rfl)) ?_
              simp only [Act.put, aa, ac, ae]
              refine ag (ah rfl rfl rfl rfl) (am rfl (ev rfl) faR1) ?_
              simp only [Act.put, aa, ac, ae]
              refine ag (ah rfl rfl rfl rfl) (bX rfl (ev rfl) (ev rfl) (ix16 hlt)) ?_
              simp only [Act.put, aa, ac, ae]
              refine ag (ah rfl rfl rfl rfl) (au rfl (ev rfl) (ldU8 HC.out)) ?_
              simp only [Act.put, aa, ac, ae]
              refine ag (v := .bool false) (ah rfl rfl rfl rfl) (aW false rfl (ev rfl) evk H29.out) ?_
              simp only [Act.put, aa, ac, ae]
              refine ag (v := .bool false) (ah rfl rfl rfl rfl) (ay rfl (ev rfl) (ev rfl)) ?_
              simp only [Act.put, aa, ac, ae]
              refine af (v := .bool false) rfl (aG rfl (ev rfl) (ev rfl)) ?_
              simp only [Act.put, aa, ac, ae]
              refine wpList_nil ?_
              have cs := HC.out
              rw [HEQ.out] at cs
              go_wp2_with fail
              go_round
              case rel =>
                refine ⟨j + 1, by omega, by go_num, ?_, fun k hk => ?_, fun k hk hm => ?_⟩
                · rw [HS.out, if_neg (by rw [← HST.out, HEQ.out]; omega), Nat.add_zero]
                · by_cases e : k = j
                  · rw [e]; exact HLE.out
                  · exact HA1.out k (by omega)
                · by_cases e : k = j
                  · rw [e]; exact HEQ.out
                  · exact HA2.out k (by omega) hm
              case measure => simp [intOf]; omega
            · have HF := Lib.hid (HNO.out j hlt (.inr ⟨gm, g0⟩))
              have H29 : Hid ((sta x j != 0) = true) := Lib.hid (by simpa using g0)
              clear g2 gm g0
              go_upto_region 7 with fail
              refine wp_region_lit ?_
              refine af rfl (ai rfl (ev rfl)) ?_
              simp only [Act.put, aa, ac, ae]
              refine af rfl (am rfl (ev rfl) faR1) ?_
              simp only [Act.put, aa, ac, ae]
              refine af rfl (bX rfl (ev rfl) (ev rfl) (ix16 hlt)) ?_
              simp only [Act.put, aa, ac, ae]
              refine af rfl (au rfl (ev rfl) (ldU8 HC.out)) ?_
              simp only [Act.put, aa, ac, ae]
              refine af (v := .bool false) rfl (cD false rfl (ev rfl) evk H17.out) ?_
              simp only [Act.put, aa, ac, ae]
              refine af (v := .bool false) rfl (ai rfl (ev rfl)) ?_
              simp only [Act.put, aa, ac, ae]
              refine ag (ah rfl rfl rfl rfl) (ai rfl (ev rfl)) ?_
              simp only [Act.put, aa, ac, ae]
              refine ag (ah rfl rfl rfl rfl) (am rfl (ev rfl) faR0) ?_
              simp only [Act.put, aa, ac, ae]
              refine ag (ah rfl rfl rfl rfl) (am rfl (ev rfl) faG0) ?_
              simp only [Act.put, aa, ac, ae]
              refine ag (ah rfl rfl rfl rfl) (au rfl (ev rfl) (bq HM.out)) ?_
              simp only [Act.put, aa, ac, ae]
              refine ag (v := .bool true) (ah rfl rfl rfl rfl) (bP true rfl (ev rfl) (ev rfl) H23.out) ?_
              simp only [Act.put, aa, ac, ae]
              refine ag (v := .bool true) (ah rfl rfl rfl rfl) (ai rfl (ev rfl)) ?_
              simp only [Act.put, aa, ac, ae]
              refine ag (ah rfl rfl rfl rfl) (ai rfl (ev rfl)) ?_
              simp only [Act.put, aa, ac, ae]
              refine ag (ah rfl rfl rfl rfl) (am rfl (ev rfl) faR1) ?_
              simp only [Act.put, aa, ac, ae]
              refine ag (ah rfl rfl rfl rfl) (bX rfl (ev rfl) (ev rfl) (ix16 hlt)) ?_
              simp only [Act.put, aa, ac, ae]
              refine ag (ah rfl rfl rfl rfl) (au rfl (ev rfl) (ldU8 HC.out)) ?_
              simp only [Act.put, aa, ac, ae]
              refine ag (v := .bool true) (ah rfl rfl rfl rfl) (aW true rfl (ev rfl) evk H29.out) ?_
              simp only [Act.put, aa, ac, ae]
              refine ag (v := .bool true) (ah rfl rfl rfl rfl) (ay rfl (ev rfl) (ev rfl)) ?_
              simp only [Act.put, aa, ac, ae]
              refine af (v := .bool true) rfl (aG rfl (ev rfl) (ev rfl)) ?_
              simp only [Act.put, aa, ac, ae]
              refine wpList_nil ?_
              go_wp2_with fail
              go_ret
              exact ⟨by rw [HF.out]; rfl, HB2.out⟩
          · have H23 : Hid (decide (x.m ≤ (j : Int)) = false) := Lib.hid (decide_eq_false gm)
            have HGM := Lib.hid gm
            clear g2 gm
            go_upto_region 7 with fail
            refine wp_region_lit ?_
            refine af rfl (ai rfl (ev rfl)) ?_
            simp only [Act.put, aa, ac, ae]
            refine af rfl (am rfl (ev rfl) faR1) ?_
            simp only [Act.put, aa, ac, ae]
            refine af rfl (bX rfl (ev rfl) (ev rfl) (ix16 hlt)) ?_
            simp only [Act.put, aa, ac, ae]
            refine af rfl (au rfl (ev rfl) (ldU8 HC.out)) ?_
            simp only [Act.put, aa, ac, ae]
            refine af (v := .bool false) rfl (cD false rfl (ev rfl) evk H17.out) ?_
            simp only [Act.put, aa, ac, ae]
            refine af (v := .bool false) rfl (ai rfl (ev rfl)) ?_
            simp only [Act.put, aa, ac, ae]
            refine ag (ah rfl rfl rfl rfl) (ai rfl (ev rfl)) ?_
            simp only [Act.put, aa, ac, ae]
            refine ag (ah rfl rfl rfl rfl) (am rfl (ev rfl) faR0) ?_
            simp only [Act.put, aa, ac, ae]
            refine ag (ah rfl rfl rfl rfl) (am rfl (ev rfl) faG0) ?_
            simp only [Act.put, aa, ac, ae]
            refine ag (ah rfl rfl rfl rfl) (au rfl (ev rfl) (bq HM.out)) ?_
            simp only [Act.put, aa, ac, ae]
            refine ag (v := .bool false) (ah rfl rfl rfl rfl) (bP false rfl (ev rfl) (ev rfl) H23.out) ?_
            simp only [Act.put, aa, ac, ae]
            refine aR 5 (v := .bool false) (ah rfl rfl rfl rfl) (ai rfl (ev rfl)) (by kernel_rfl) ?_
            simp only [bh, List.take_succ_cons, List.take_zero, List.drop_succ_cons, List.drop_zero, Act.put, List.setIfInBounds_toArray, List.set_cons_succ, List.set_cons_zero]
            refine ag (v := .bool false) (ah rfl rfl rfl rfl) (aG rfl (ev rfl) evk) ?_
            simp only [Act.put, aa, ac, ae]
            refine af (v := .bool false) rfl (aG rfl (ev rfl) (ev rfl)) ?_
            simp only [Act.put, aa, ac, ae]
            refine wpList_nil ?_
            have cs := HC.out
            have HN1 : Hid (∀ k, k < j + 1 → sta x k ≤ 2) := Lib.hid fun k hk => by
              by_cases e : k = j
              · rw [e]; exact HLE.out
              · exact HA1.out k (by omega)
            have HN2 : Hid (∀ k : Nat, k < j + 1 → x.m ≤ (k : Int) → sta x k = 0) := Lib.hid fun k hk hm => by
              by_cases e : k = j
              · rw [e] at hm; exact absurd hm HGM.out
              · exact HA2.out k (by omega) hm
            by_cases h2 : sta x j = 2
            · have hd : (sta x j == 2) = true := by rw [h2]; rfl
              have HEQ := Lib.hid h2
              clear h2
              go_wp2_with fail
              go_round
              case rel => exact ⟨j + 1, by omega, by go_num, by rw [HS.out, if_pos (by rw [← HST.out, HEQ.out])]; go_num, HN1.out, HN2.out⟩
              case measure => simp [intOf]; omega
            · have hd : (sta x j == 2) = false := by simpa using h2
              have HEQ := Lib.hid h2
              clear h2
              go_wp2_with fail
              go_round
              case rel => exact ⟨j + 1, by omega, by go_num, by rw [HS.out, if_neg (by rw [← HST.out]; exact HEQ.out), Nat.add_zero], HN1.out, HN2.out⟩
              case measure => simp [intOf]; omega
      · have e : j = 16 := by omega
        subst e
        have HF := Lib.hid (HOK2.out (HSTA.out.2 ⟨HA1.out, HA2.out⟩))
        rw [HH.out] at HF
        have hle := healK_le x.st.toList 16
        generalize healK x.st.toList 16 = n at *
        clear HA1 HA2 HNO HSTA hlt hj HST HOK2
        obtain ⟨c, hc⟩ : ∃ c, x.cur = c := ⟨_, rfl⟩
        obtain ⟨s, hs⟩ : ∃ s, x.s = s := ⟨_, rfl⟩
        rw [hc, hs] at HF
        rw [hc] at HCU
        rw [hs] at HSS
        clear hc hs
        by_cases q1 : n ≤ 1
        · have H40 : Hid (decide ((n : Int) ≤ 1) = true) := Lib.hid (decide_eq_true (by omega))
          by_cases q2 : 0 ≤ c
          · have H44 : Hid (decide ((0 : Int) ≤ c) = true) := Lib.hid (decide_eq_true q2)
            by_cases q3 : c < s
            · have H52 : Hid (decide (c < s) = true) := Lib.hid (decide_eq_true q3)
              by_cases q4 : n = 1
              · have H56 : Hid (((n : Int) == 1) = true) := Lib.hid (by rw [q4]; rfl)
                go_upto_region 11 with fail
                refine wp_region_lit ?_
                refine af rfl (ai rfl (ev rfl)) ?_
                simp only [Act.put, aa, ac, ae]
                refine af (v := .bool true) rfl (dy true rfl (ev rfl) evk H40.out) ?_
                simp only [Act.put, aa, ac, ae]
                refine af (v := .bool true) rfl (ai rfl (ev rfl)) ?_
                simp only [Act.put, aa, ac, ae]
                refine ag (ah rfl rfl rfl rfl) (am rfl (ev rfl) faR2) ?_
                simp only [Act.put, aa, ac, ae]
                refine ag (ah rfl rfl rfl rfl) (au rfl (ev rfl) (bq HCU.out)) ?_
                simp only [Act.put, aa, ac, ae]
                refine ag (v := .bool true) (ah rfl rfl rfl rfl) (bP true rfl (ev rfl) evk H44.out) ?_
                simp only [Act.put, aa, ac, ae]
                refine af (v := .bool true) rfl (ay rfl (ev rfl) (ev rfl)) ?_
                simp only [Act.put, aa, ac, ae]
                refine af (v := .bool true) rfl (ai rfl (ev rfl)) ?_
                simp only [Act.put, aa, ac, ae]
                refine ag (ah rfl rfl rfl rfl) (am rfl (ev rfl) faR2) ?_
                simp only [Act.put, aa, ac, ae]
                refine ag (ah rfl rfl rfl rfl) (au rfl (ev rfl) (bq HCU.out)) ?_
                simp only [Act.put, aa, ac, ae]
                refine ag (ah rfl rfl rfl rfl) (am rfl (ev rfl) faR0) ?_
                simp only [Act.put, aa, ac, ae]
                refine ag (ah rfl rfl rfl rfl) (am rfl (ev rfl) faG1) ?_
                simp only [Act.put, aa, ac, ae]
                refine ag (ah rfl rfl rfl rfl) (au rfl (ev rfl) (bq HSS.out)) ?_
                simp only [Act.put, aa, ac, ae]
                refine ag (v := .bool true) (ah rfl rfl rfl rfl) (bJ true rfl (ev rfl) (ev rfl) H52.out) ?_
                simp only [Act.put, aa, ac, ae]
                refine af (v := .bool true) rfl (ay rfl (ev rfl) (ev rfl)) ?_
                simp only [Act.put, aa, ac, ae]
                refine af (v := .bool true) rfl (ai rfl (ev rfl)) ?_
                simp only [Act.put, aa, ac, ae]
                refine ag (ah rfl rfl rfl rfl) (ai rfl (ev rfl)) ?_
                simp only [Act.put, aa, ac, ae]
                refine ag (v := .bool true) (ah rfl rfl rfl rfl) (aq true rfl (ev rfl) evk H56.out) ?_
                simp only [Act.put, aa, ac, ae]
                refine aR 3 (v := .bool true) (ah rfl rfl rfl rfl) (ai rfl (ev rfl)) (by kernel_rfl) ?_
                simp only [bh, List.take_succ_cons, List.take_zero, List.drop_succ_cons, List.drop_zero, Act.put, List.setIfInBounds_toArray, List.set_cons_succ, List.set_cons_zero]
                refine ag (v := .bool true) (ah rfl rfl rfl rfl) (ay rfl (ev rfl) evk) ?_
                simp only [Act.put, aa, ac, ae]
                refine af (v := .bool true) rfl (ay rfl (ev rfl) (ev rfl)) ?_
                simp only [Act.put, aa, ac, ae]
                refine af (v := .bool true) rfl (ak rfl (ev rfl)) ?_
                simp only [Act.put, aa, ac, ae]
                refine wpList_nil ?_
                go_wp2_with fail
                go_ret
                exact ⟨aJ (by rw [HF.out]; rw [decide_eq_true q1, decide_eq_true (by omega)]; rfl), HB2.out⟩
              · have H56 : Hid (((n : Int) == 1) = false) := Lib.hid (by simp; omega)
                by_cases q5 : c = 0
                · have H60 : Hid ((c == 0) = true) := Lib.hid (by simpa using q5)
                  go_upto_region 11 with fail
                  refine wp_region_lit ?_
                  refine af rfl (ai rfl (ev rfl)) ?_
                  simp only [Act.put, aa, ac, ae]
                  refine af (v := .bool true) rfl (dy true rfl (ev rfl) evk H40.out) ?_
                  simp only [Act.put, aa, ac, ae]
                  refine af (v := .bool true) rfl (ai rfl (ev rfl)) ?_
                  simp only [Act.put, aa, ac, ae]
                  refine ag (ah rfl rfl rfl rfl) (am rfl (ev rfl) faR2) ?_
                  simp only [Act.put, aa, ac, ae]
                  refine ag (ah rfl rfl rfl rfl) (au rfl (ev rfl) (bq HCU.out)) ?_
                  simp only [Act.put, aa, ac, ae]
                  refine ag (v := .bool true) (ah rfl rfl rfl rfl) (bP true rfl (ev rfl) evk H44.out) ?_
                  simp only [Act.put, aa, ac, ae]
                  refine af (v := .bool true) rfl (ay rfl (ev rfl) (ev rfl)) ?_
                  simp only [Act.put, aa, ac, ae]
                  refine af (v := .bool true) rfl (ai rfl (ev rfl)) ?_
                  simp only [Act.put, aa, ac, ae]
                  refine ag (ah rfl rfl rfl rfl) (am rfl (ev rfl) faR2) ?_
                  simp only [Act.put, aa, ac, ae]
                  refine ag (ah rfl rfl rfl rfl) (au rfl (ev rfl) (bq HCU.out)) ?_
                  simp only [Act.put, aa, ac, ae]
                  refine ag (ah rfl rfl rfl rfl) (am rfl (ev rfl) faR0) ?_
                  simp only [Act.put, aa, ac, ae]
                  refine ag (ah rfl rfl rfl rfl) (am rfl (ev rfl) faG1) ?_
                  simp only [Act.put, aa, ac, ae]
                  refine ag (ah rfl rfl rfl rfl) (au rfl (ev rfl) (bq HSS.out)) ?_
                  simp only [Act.put, aa, ac, ae]
                  refine ag (v := .bool true) (ah rfl rfl rfl rfl) (bJ true rfl (ev rfl) (ev rfl) H52.out) ?_
                  simp only [Act.put, aa, ac, ae]
                  refine af (v := .bool true) rfl (ay rfl (ev rfl) (ev rfl)) ?_
                  simp only [Act.put, aa, ac, ae]
                  refine af (v := .bool true) rfl (ai rfl (ev rfl)) ?_
                  simp only [Act.put, aa, ac, ae]
                  refine ag (ah rfl rfl rfl rfl) (ai rfl (ev rfl)) ?_
                  simp only [Act.put, aa, ac, ae]
                  refine ag (v := .bool false) (ah rfl rfl rfl rfl) (aq false rfl (ev rfl) evk H56.out) ?_
                  simp only [Act.put, aa, ac, ae]
                  refine ag (v := .bool false) (ah rfl rfl rfl rfl) (ai rfl (ev rfl)) ?_
                  simp only [Act.put, aa, ac, ae]
                  refine ag (ah rfl rfl rfl rfl) (am rfl (ev rfl) faR2) ?_
                  simp only [Act.put, aa, ac, ae]
                  refine ag (ah rfl rfl rfl rfl) (au rfl (ev rfl) (bq HCU.out)) ?_
                  simp only [Act.put, aa, ac, ae]
                  refine ag (v := .bool true) (ah rfl rfl rfl rfl) (aq true rfl (ev rfl) evk H60.out) ?_
                  simp only [Act.put, aa, ac, ae]
                  refine ag (v := .bool true) (ah rfl rfl rfl rfl) (aG rfl (ev rfl) (ev rfl)) ?_
                  simp only [Act.put, aa, ac, ae]
                  refine af (v := .bool true) rfl (ay rfl (ev rfl) (ev rfl)) ?_
                  simp only [Act.put, aa, ac, ae]
                  refine af (v := .bool true) rfl (ak rfl (ev rfl)) ?_
                  simp only [Act.put, aa, ac, ae]
                  refine wpList_nil ?_
                  go_wp2_with fail
                  go_ret
                  exact ⟨aJ (by rw [HF.out]; rw [decide_eq_true q1, decide_eq_true (by omega)]; rfl), HB2.out⟩
                · have H60 : Hid ((c == 0) = false) := Lib.hid (by simpa using q5)
                  go_upto_region 11 with fail
                  refine wp_region_lit ?_
                  refine af rfl (ai rfl (ev rfl)) ?_
                  simp only [Act.put, aa, ac, ae]
                  refine af (v := .bool true) rfl (dy true rfl (ev rfl) evk H40.out) ?_
                  simp only [Act.put, aa, ac, ae]
                  refine af (v := .bool true) rfl (ai rfl (ev rfl)) ?_
                  simp only [Act.put, aa, ac, ae]
                  refine ag (ah rfl rfl rfl rfl) (am rfl (ev rfl) faR2) ?_
                  simp only [Act.put, aa, ac, ae]
                  refine ag (ah rfl rfl rfl rfl) (au rfl (ev rfl) (bq HCU.out)) ?_
                  simp only [Act.put, aa, ac, ae]
                  refine ag (v := .bool true) (ah rfl rfl rfl rfl) (bP true rfl (ev rfl) evk H44.out) ?_
                  simp only [Act.put, aa, ac, ae]
                  refine af (v := .bool true) rfl (ay rfl (ev rfl) (ev rfl)) ?_
                  simp only [Act.put, aa, ac, ae]
                  refine af (v := .bool true) rfl (ai rfl (ev rfl)) ?_
                  simp only [Act.put, aa, ac, ae]
                  refine ag (ah rfl rfl rfl rfl) (am rfl (ev rfl) faR2) ?_
                  simp only [Act.put, aa, ac, ae]
                  refine ag (ah rfl rfl rfl rfl) (au rfl (ev rfl) (bq HCU.out)) ?_
                  simp only [Act.put, aa, ac, ae]
                  refine ag (ah rfl rfl rfl rfl) (am rfl (ev rfl) faR0) ?_
                  simp only [Act.put, aa, ac, ae]
                  refine ag (ah rfl rfl rfl rfl) (am rfl (ev rfl) faG1) ?_
                  simp only [Act.put, aa, ac, ae]
                  refine ag (ah rfl rfl rfl rfl) (au rfl (ev rfl) (bq HSS.out)) ?_
                  simp only [Act.put, aa, ac, ae]
                  refine ag (v := .bool true) (ah rfl rfl rfl rfl) (bJ true rfl (ev rfl) (ev rfl) H52.out) ?_
                  simp only [Act.put, aa, ac, ae]
                  refine af (v := .bool true) rfl (ay rfl (ev rfl) (ev rfl)) ?_
                  simp only [Act.put, aa, ac, ae]
                  refine af (v := .bool true) rfl (ai rfl (ev rfl)) ?_
                  simp only [Act.put, aa, ac, ae]
                  refine ag (ah rfl rfl rfl rfl) (ai rfl (ev rfl)) ?_
                  simp only [Act.put, aa, ac, ae]
                  refine ag (v := .bool false) (ah rfl rfl rfl rfl) (aq false rfl (ev rfl) evk H56.out) ?_
                  simp only [Act.put, aa, ac, ae]
                  refine ag (v := .bool false) (ah rfl rfl rfl rfl) (ai rfl (ev rfl)) ?_
                  simp only [Act.put, aa, ac, ae]
                  refine ag (ah rfl rfl rfl rfl) (am rfl (ev rfl) faR2) ?_
                  simp only [Act.put, aa, ac, ae]
                  refine ag (ah rfl rfl rfl rfl) (au rfl (ev rfl) (bq HCU.out)) ?_
                  simp only [Act.put, aa, ac, ae]
                  refine ag (v := .bool false) (ah rfl rfl rfl rfl) (aq false rfl (ev rfl) evk H60.out) ?_
                  simp only [Act.put, aa, ac, ae]
                  refine ag (v := .bool false) (ah rfl rfl rfl rfl) (aG rfl (ev rfl) (ev rfl)) ?_
                  simp only [Act.put, aa, ac, ae]
                  refine af (v := .bool false) rfl (ay rfl (ev rfl) (ev rfl)) ?_
                  simp only [Act.put, aa, ac, ae]
                  refine af (v := .bool false) rfl (ak rfl (ev rfl)) ?_
                  simp only [Act.put, aa, ac, ae]
                  refine wpList_nil ?_
                  go_wp2_with fail
                  go_ret
                  exact ⟨aJ (by rw [HF.out]; rw [decide_eq_true q1, decide_eq_false (by omega)]; rfl), HB2.out⟩
            · have H52 : Hid (decide (c < s) = false) := Lib.hid (decide_eq_false q3)
              go_upto_region 11 with fail
              refine wp_region_lit ?_
              refine af rfl (ai rfl (ev rfl)) ?_
              simp only [Act.put, aa, ac, ae]
              refine af (v := .bool true) rfl (dy true rfl (ev rfl) evk H40.out) ?_
              simp only [Act.put, aa, ac, ae]
              refine af (v := .bool true) rfl (ai rfl (ev rfl)) ?_
              simp only [Act.put, aa, ac, ae]
              refine ag (ah rfl rfl rfl rfl) (am rfl (ev rfl) faR2) ?_
              simp only [Act.put, aa, ac, ae]
              refine ag (ah rfl rfl rfl rfl) (au rfl (ev rfl) (bq HCU.out)) ?_
              simp only [Act.put, aa, ac, ae]
              refine ag (v := .bool true) (ah rfl rfl rfl rfl) (bP true rfl (ev rfl) evk H44.out) ?_
              simp only [Act.put, aa, ac, ae]
              refine af (v := .bool true) rfl (ay rfl (ev rfl) (ev rfl)) ?_
              simp only [Act.put, aa, ac, ae]
              refine af (v := .bool true) rfl (ai rfl (ev rfl)) ?_
              simp only [Act.put, aa, ac, ae]
              refine ag (ah rfl rfl rfl rfl) (am rfl (ev rfl) faR2) ?_
              simp only [Act.put, aa, ac, ae]
              refine ag (ah rfl rfl rfl rfl) (au rfl (ev rfl) (bq HCU.out)) ?_
              simp only [Act.put, aa, ac, ae]
              refine ag (ah rfl rfl rfl rfl) (am rfl (ev rfl) faR0) ?_
              simp only [Act.put, aa, ac, ae]
              refine ag (ah rfl rfl rfl rfl) (am rfl (ev rfl) faG1) ?_
              simp only [Act.put, aa, ac, ae]
              refine ag (ah rfl rfl rfl rfl) (au rfl (ev rfl) (bq HSS.out)) ?_
              simp only [Act.put, aa, ac, ae]
              refine ag (v := .bool false) (ah rfl rfl rfl rfl) (bJ false rfl (ev rfl) (ev rfl) H52.out) ?_
              simp only [Act.put, aa, ac, ae]
              refine af (v := .bool false) rfl (ay rfl (ev rfl) (ev rfl)) ?_
              simp only [Act.put, aa, ac, ae]
              refine aR 7 (v := .bool false) rfl (ai rfl (ev rfl)) (by kernel_rfl) ?_
              simp only [bh, List.take_succ_cons, List.take_zero, List.drop_succ_cons, List.drop_zero, Act.put, List.setIfInBounds_toArray, List.set_cons_succ, List.set_cons_zero]
              refine af (v := .bool false) rfl (aG rfl (ev rfl) evk) ?_
              simp only [Act.put, aa, ac, ae]
              refine af (v := .bool false) rfl (ak rfl (ev rfl)) ?_
              simp only [Act.put, aa, ac, ae]
              refine wpList_nil ?_
              go_wp2_with fail
              go_ret
              exact ⟨aJ (by rw [HF.out]; rw [decide_eq_true q1, decide_eq_false (by omega)]; rfl), HB2.out⟩
          · have H44 : Hid (decide ((0 : Int) ≤ c) = false) := Lib.hid (decide_eq_false q2)
            go_upto_region 11 with fail
            refine wp_region_lit ?_
            refine af rfl (ai rfl (ev rfl)) ?_
            simp only [Act.put, aa, ac, ae]
            refine af (v := .bool true) rfl (dy true rfl (ev rfl) evk H40.out) ?_
            simp only [Act.put, aa, ac, ae]
            refine af (v := .bool true) rfl (ai rfl (ev rfl)) ?_
            simp only [Act.put, aa, ac, ae]
            refine ag (ah rfl rfl rfl rfl) (am rfl (ev rfl) faR2) ?_
            simp only [Act.put, aa, ac, ae]
            refine ag (ah rfl rfl rfl rfl) (au rfl (ev rfl) (bq HCU.out)) ?_
            simp only [Act.put, aa, ac, ae]
            refine ag (v := .bool false) (ah rfl rfl rfl rfl) (bP false rfl (ev rfl) evk H44.out) ?_
            simp only [Act.put, aa, ac, ae]
            refine af (v := .bool false) rfl (ay rfl (ev rfl) (ev rfl)) ?_
            simp only [Act.put, aa, ac, ae]
            refine aR 6 (v := .bool false) rfl (ai rfl (ev rfl)) (by kernel_rfl) ?_
            simp only [bh, List.take_succ_cons, List.take_zero, List.drop_succ_cons, List.drop_zero, Act.put, List.setIfInBounds_toArray, List.set_cons_succ, List.set_cons_zero]
            refine af (v := .bool false) rfl (aG rfl (ev rfl) evk) ?_
            simp only [Act.put, aa, ac, ae]
            refine aR 7 (v := .bool false) rfl (ai rfl (ev rfl)) (by kernel_rfl) ?_
            simp only [bh, List.take_succ_cons, List.take_zero, List.drop_succ_cons, List.drop_zero, Act.put, List.setIfInBounds_toArray, List.set_cons_succ, List.set_cons_zero]
            refine af (v := .bool false) rfl (aG rfl (ev rfl) evk) ?_
            simp only [Act.put, aa, ac, ae]
            refine af (v := .bool false) rfl (ak rfl (ev rfl)) ?_
            simp only [Act.put, aa, ac, ae]
            refine wpList_nil ?_
            go_wp2_with fail
            go_ret
            exact ⟨aJ (by rw [HF.out]; rw [decide_eq_true q1, decide_eq_false (by omega)]; rfl), HB2.out⟩
        · have H40 : Hid (decide ((n : Int) ≤ 1) = false) := Lib.hid (decide_eq_false (by omega))
          go_upto_region 11 with fail
          refine wp_region_lit ?_
          refine af rfl (ai rfl (ev rfl)) ?_
          simp only [Act.put, aa, ac, ae]
          refine af (v := .bool false) rfl (dy false rfl (ev rfl) evk H40.out) ?_
          simp only [Act.put, aa, ac, ae]
          refine aR 3 (v := .bool false) rfl (ai rfl (ev rfl)) (by kernel_rfl) ?_
          simp only [bh, List.take_succ_cons, List.take_zero, List.drop_succ_cons, List.drop_zero, Act.put, List.setIfInBounds_toArray, List.set_cons_succ, List.set_cons_zero]
          refine af (v := .bool false) rfl (aG rfl (ev rfl) evk) ?_
          simp only [Act.put, aa, ac, ae]
          refine aR 6 (v := .bool false) rfl (ai rfl (ev rfl)) (by kernel_rfl) ?_
          simp only [bh, List.take_succ_cons, List.take_zero, List.drop_succ_cons, List.drop_zero, Act.put, List.setIfInBounds_toArray, List.set_cons_succ, List.set_cons_zero]
          refine af (v := .bool false) rfl (aG rfl (ev rfl) evk) ?_
          simp only [Act.put, aa, ac, ae]
          refine aR 7 (v := .bool false) rfl (ai rfl (ev rfl)) (by kernel_rfl) ?_
          simp only [bh, List.take_succ_cons, List.take_zero, List.drop_succ_cons, List.drop_zero, Act.put, List.setIfInBounds_toArray, List.set_cons_succ, List.set_cons_zero]
          refine af (v := .bool false) rfl (aG rfl (ev rfl) evk) ?_
          simp only [Act.put, aa, ac, ae]
          refine af (v := .bool false) rfl (ak rfl (ev rfl)) ?_
          simp only [Act.put, aa, ac, ae]
          refine wpList_nil ?_
          go_wp2_with fail
          go_ret
          exact ⟨aJ (by rw [HF.out]; rw [decide_eq_false q1]; rfl), HB2.out⟩
theorem mayWidth_yes (s : Int) (w : World) (h1 : 1 ≤ s) (h2 : s ≤ 8) : Calls Tryz.prog 149 #[.int .i64 s] w fun e w' => e = .returned (.bool true) ∧ w = w' := by
  go_enter Tryz.func149, Tryz.ntmps149
  go_wp2
  go_ret
  exact ⟨rfl, rfl⟩
theorem widths {d : Nat} (h1 : 1 ≤ d) (h2 : d ≤ 8) : d = 1 ∨ d = 2 ∨ d = 3 ∨ d = 4 ∨ d = 5 ∨ d = 6 ∨ d = 7 ∨ d = 8 := by omega
def bytesOf (m d : Nat) : Nat := (m * d + 7) / 8
set_option maxHeartbeats 1000000 in
theorem taken_any (m d : Nat) (w : World) (h1 : 1 ≤ d) (h2 : d ≤ 8) (hm : m ≤ 4611686018427387904) : Calls Tryz.prog 150 #[.int .i64 m, .int .i64 d] w fun e w' => e = .returned (.int .i64 (bytesOf m d)) ∧ w = w' := by
  rcases widths h1 h2 with rfl | rfl | rfl | rfl | rfl | rfl | rfl | rfl
  all_goals
    clear h1 h2
    go_enter Tryz.func150, Tryz.ntmps150
    go_wp2
    go_ret
    exact ⟨bU (by unfold bytesOf; omega), rfl⟩
set_option maxHeartbeats 1000000 in
theorem place_any (m d : Nat) (w : World) (h1 : 1 ≤ d) (h2 : d ≤ 8) (hm : m ≤ 4611686018427387904) : Calls Tryz.prog 151 #[.int .i64 m, .int .i64 d] w fun e w' => e = .returned (.tuple #[.int .i64 (m * d / 8 : Nat), .int .i64 (m * d % 8 : Nat)]) ∧ w = w' := by
  rcases widths h1 h2 with rfl | rfl | rfl | rfl | rfl | rfl | rfl | rfl
  all_goals
    clear h1 h2
    go_enter Tryz.func151, Tryz.ntmps151
    go_wp2
    go_ret2
    exact ⟨ret_ints (by omega) (by omega), rfl⟩
theorem spills_yes (a d : Nat) (w : World) (ha : a ≤ 8) (h2 : d ≤ 8) (h : 8 < a + d) : Calls Tryz.prog 152 #[.int .i64 a, .int .i64 d] w fun e w' => e = .returned (.bool true) ∧ w = w' := by
  go_enter Tryz.func152, Tryz.ntmps152
  go_wp2
  go_ret
  exact ⟨aJ (by simp; omega), rfl⟩
theorem spills_no (a d : Nat) (w : World) (ha : a ≤ 8) (h2 : d ≤ 8) (h : ¬ 8 < a + d) : Calls Tryz.prog 152 #[.int .i64 a, .int .i64 d] w fun e w' => e = .returned (.bool false) ∧ w = w' := by
  go_enter Tryz.func152, Tryz.ntmps152
  go_wp2
  go_ret
  exact ⟨aJ (by simp; omega), rfl⟩
end Go.Proofs.YtnliphgjcaippaaGreatDoor
