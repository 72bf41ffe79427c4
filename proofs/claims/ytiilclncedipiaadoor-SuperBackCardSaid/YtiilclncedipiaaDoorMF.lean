/-
  The program's laid: a superblock's body.
  The program's told: the superblock that a body tells.
  The program's told, walked.
  The program's super.Put, Rosters.
-/
import Derived.Test.YtiilclncedipiaaDoorME
import Derived.Laws.EntriesVeiled
import Derived.Test.YtiilclncedipiaaDoorMC
import Derived.Test.YtiilclncedipiaaDoorMD
namespace Go.Proofs.YtiilclncedipiaaDoor
open Go.RowKit
set_option linter.unusedVariables false
set_option linter.unusedSimpArgs false
set_option maxRecDepth 100000

section
variable {ρ : Operand → Value} {o : Oper} {x z : Operand} {w : World} {g off : Nat}
theorem exec_all44 (ho : o.op = .slice 52 x none none none) (hx : ρ x = .pointer (some ⟨g, off, none⟩)) : (execOp ρ o).run Tryd.prog w = .ok (.value (.slice (some ⟨g, off, none⟩) 44 44)) w := by
  have h : (Instr.sliceAt 52 (.pointer (some ⟨g, off, none⟩)) none none none).run Tryd.prog w = .ok (.slice (some ⟨g, off, none⟩) 44 44) w := by
    simp [Instr.sliceAt, Instr.sliceBounds, Instr.sliceBound, Instr.sureAddr, asIntOf, run_underlying Tryd.underlying52, Tryd.sizeOf5, Addr.add_mid]
  unfold execOp
  simp only [ho, hx, Option.map_none, Sem.run_bind, h, Result.andThen_ok, Sem.run_pure]
end
theorem RosAt.rd16 {w : World} {b : Nat} {x : Ros} (h : RosAt w b x) : Rd w w.heap.size (some ⟨b, 3, none⟩) 16 x.st.toList := by
  have := h.rd (m := 16) (Nat.le_refl _)
  rwa [List.take_of_length_le (by simp)] at this
theorem layW_start {w w1 w2 : World} {x : Sup} {p q : Nat} (HS : SupAt w1 w.heap.size x) (HB : Below w.heap.size w w1) (HRES : RowL w1 (w.heap.size + 1) 52 z44) (HROW : RowL w1 (w.heap.size + 1 + 1) 52 z44)
    (hb : Below w1.heap.size w1 w2) (hc : CutAt w2 p q (.slice (some ⟨w.heap.size + 1 + 1, 0, none⟩) 44 44) 0) (hd : w1.heap.size ≤ p ∧ w1.heap.size ≤ q ∧ p ≠ q ∧ p < w2.heap.size ∧ q < w2.heap.size) :
    LayW w.heap.size w ((w2.alloc (.cells #[onwV p q] 72)).alloc (.cells (celR x.ros).toArray 27)) x w.heap.size (w2.heap.size + 1) (w.heap.size + 1) w2.heap.size p q (w.heap.size + 1 + 1) [] := by
  have e1 := World.size_alloc (w := w2) (o := Obj.cells #[onwV p q] 72)
  have h2 := blk_lt HROW
  have h3 := hb.size
  have hro := RosAt.new (w2.alloc (.cells #[onwV p q] 72)) x.ros
  rw [e1] at hro
  have hb2 : Below w.heap.size w w2 := HB.trans (hb.mono HB.size)
  refine ⟨((HS.below (blk_lt HS) hb).past _).past _, hro, blk_past (blk_past (blk_keep HRES hb) _) _, blk_past (heap_alloc_new w2 _) _, ⟨blk_past (blk_past hc.1 _) _, blk_past (blk_past hc.2 _) _⟩, blk_past (blk_past (blk_keep HROW hb) _) _, (hb2.alloc (by omega) _).alloc (by rw [e1]; omega) _, ?_, ?_, ?_⟩
  · omega
  · omega
  · refine ⟨?_, ?_, ?_, ?_, ?_, ?_, ?_, ?_, ?_, ?_, ?_⟩ <;> omega
theorem res_rng {fn : Func} {p : Tmp} {t : TypeId} {cs : List Value} {d : TypeDesc} (h0 : fn.results = #[.cell p t]) (tmps : Array Value) (w : World) (b : Nat) (hp : tmps.getD p undef = .pointer (some ⟨b, 0, none⟩)) (hr : w.rangeAt b 0 cs) (hu : Tryd.prog.underlying t = some d) (hd : d.isRow = true) (hz : (Tryd.prog.info? t).map (·.size) = some cs.length) :
    (results fn tmps).run Tryd.prog w = .ok (.agg cs.toArray) w := by
  have hl : (loadVar t ⟨b, 0, none⟩).run Tryd.prog w = .ok (.agg cs.toArray) w := run_loadVar_mid (P := Tryd.prog) w b 0 t cs d hr hu hd hz
  have hp' : tmps[p]?.getD undef = .pointer (some ⟨b, 0, none⟩) := by simpa using hp
  simp [results, h0, hp', asAddr, hl]
theorem padL_zero {a : List UInt8} (h : a.length < 44) : padL (a ++ digL 8 1 0) = padL a := by
  unfold padL
  have e : digL 8 1 0 = [0] := by decide
  rw [e, List.append_assoc, List.length_append, List.length_singleton]
  congr 1
  rw [show 44 - a.length = (44 - (a.length + 1)) + 1 from by omega, List.replicate_succ]
  rfl
theorem full_yes {x : Sup} (h : x.ros.gone = true) : padL (digL 8 8 x.id ++ digL 8 1 x.ros.m.toNat ++ digL 8 2 x.ros.s.toNat ++ digL 8 2 x.ros.r.toNat ++ digL 8 1 x.self.toNat ++ digL 8 4 (val 2 x.ros.st.toList) ++ digL 8 2 x.ros.cur.toNat ++ digL 8 1 1) = fullL x := by
  unfold fullL bodyL goneN
  rw [h]
  simp only [List.append_assoc, if_true]
theorem full_no {x : Sup} (h : x.ros.gone = false) : padL (digL 8 8 x.id ++ digL 8 1 x.ros.m.toNat ++ digL 8 2 x.ros.s.toNat ++ digL 8 2 x.ros.r.toNat ++ digL 8 1 x.self.toNat ++ digL 8 4 (val 2 x.ros.st.toList) ++ digL 8 2 x.ros.cur.toNat) = fullL x := by
  rw [← padL_zero (by simp [length_digL])]
  unfold fullL bodyL goneN
  rw [h]
  simp only [List.append_assoc, Bool.false_eq_true, if_false]
set_option maxHeartbeats 4000000 in
theorem plaid (x : Sup) (w : World) (hid : x.id < 18446744073709551616) (hx : supB x = true) : Calls Tryd.prog 24 #[sup x] w fun e w' => e = .returned (arr (fullL x)) ∧ Below w.heap.size w w' := by
  obtain ⟨_, hf, q1, q2⟩ := of_supB hx
  obtain ⟨hgeo, hsta, _, q3, q4, _⟩ := of_fineB hf
  obtain ⟨g1, g2, g3, g4, g5, g6⟩ := of_geoB hgeo
  have HNAR : Hid (narrow 2 x.ros.st.toList = true) := Lib.hid (by
    unfold narrow
    rw [List.all_eq_true]
    intro u hu
    simpa using st_small hsta u hu)
  have HSMALL := Lib.hid (sta_val hsta)
  obtain ⟨M, hM⟩ : ∃ M : Nat, x.ros.m.toNat = M := ⟨_, rfl⟩
  obtain ⟨T, hT⟩ : ∃ T : Nat, x.ros.s.toNat = T := ⟨_, rfl⟩
  obtain ⟨R, hR⟩ : ∃ R : Nat, x.ros.r.toNat = R := ⟨_, rfl⟩
  obtain ⟨E, hE⟩ : ∃ E : Nat, x.self.toNat = E := ⟨_, rfl⟩
  obtain ⟨C, hC⟩ : ∃ C : Nat, x.ros.cur.toNat = C := ⟨_, rfl⟩
  have HCR : Hid (∀ w' rb, RosAt w' rb x.ros → w'.cell? ⟨rb, 0, none⟩ = some (.int .i64 (M : Nat)) ∧ w'.cell? ⟨rb, 1, none⟩ = some (.int .i64 (T : Nat)) ∧ w'.cell? ⟨rb, 2, none⟩ = some (.int .i64 (R : Nat)) ∧ w'.cell? ⟨rb, 19, none⟩ = some (.int .i64 (C : Nat)) ∧ w'.cell? ⟨rb, 20, none⟩ = some (.bool x.ros.gone)) := Lib.hid fun w' rb h => by
    have := h.cells
    rw [show x.ros.m = (M : Int) from by omega, show x.ros.s = (T : Int) from by omega, show x.ros.r = (R : Int) from by omega, show x.ros.cur = (C : Int) from by omega] at this
    exact this
  have HCS : Hid (∀ w' sb, SupAt w' sb x → w'.cell? ⟨sb, 0, none⟩ = some (.int .u64 x.id) ∧ w'.cell? ⟨sb, 1, none⟩ = some (.int .i64 (E : Nat))) := Lib.hid fun w' sb h => by
    have := h.cells
    rw [show x.self = (E : Int) from by omega] at this
    exact ⟨this.1, this.2.1⟩
  have hM16 : M ≤ 16 := by omega
  have hT64 : T ≤ 64 := by omega
  have hR256 : R ≤ 256 := by omega
  have hE16 : E ≤ 16 := by omega
  have hC64 : C ≤ 64 := by omega
  have HYES := fun h => Lib.hid (full_yes (x := x) h)
  have HNO := fun h => Lib.hid (full_no (x := x) h)
  rw [hM, hT, hR, hE, hC] at HYES HNO
  clear hf q1 q2 hgeo hsta q3 q4 g1 g2 g3 g4 g5 g6 hM hT hR hE hC hx
  have hmf : ∀ (fn : Fn) (first cap : Array Value) (w : World), (Instr.makeFunc fn first cap).run Tryd.prog w = .ok (.func fn first cap) w := fun _ _ _ _ => rfl
  obtain ⟨h1, h2, h3⟩ := boxS_new w x
  have HS := Lib.hid ((h1.past (.cells (vals z44).toArray 52)).past (.cells (vals z44).toArray 52))
  have hb2 := h2.alloc h2.size (.cells (vals z44).toArray 52)
  have HB := Lib.hid (hb2.alloc hb2.size (.cells (vals z44).toArray 52))
  have hr := RowL.new (w.alloc (.cells (celS x).toArray 29)) z44 52
  rw [World.size_alloc] at hr
  have HRES := Lib.hid (hr.past (.cells (vals z44).toArray 52))
  have hg := RowL.new ((w.alloc (.cells (celS x).toArray 29)).alloc (.cells (vals z44).toArray 52)) z44 52
  rw [World.size_alloc, World.size_alloc] at hg
  have HROW := Lib.hid hg
  clear h1 h2 h3 hb2 hr hg
  go_enter Tryd.func24, Tryd.ntmps24
  go_wp2_with (first | (refine wpList_valn rfl (exec_boxS rfl rfl) ?_) | (refine wpList_valn rfl (exec_alloc44 rfl) ?_) | (refine wpList_valn rfl (exec_all44 rfl rfl) ?_) | fail)
  try simp only [World.size_alloc]
  generalize ((w.alloc (.cells (celS x).toArray 29)).alloc (.cells (vals z44).toArray 52)).alloc (.cells (vals z44).toArray 52) = w1 at *
  refine (onward_any (.slice (some ⟨w.heap.size + 1 + 1, 0, none⟩) 44 44) _ 44 44 rfl w1).mono ?_
  rintro e w2 ⟨p, q, rfl, hc, hp0, hq0, hpq, hp1, hq1, hb⟩
  have hsz : w.heap.size + 1 + 1 < w2.heap.size := by have := blk_lt HROW.out; have := hb.size; omega
  have HS2 := Lib.hid ((HS.out.below (blk_lt HS.out) hb).past (.cells #[onwV p q] 72))
  have HW0 := Lib.hid (layW_start HS.out HB.out HRES.out HROW.out hb hc ⟨hp0, hq0, hpq, hp1, hq1⟩)
  have HR0 : Hid (w.heap.size ≤ w.heap.size + 1) := Lib.hid (Nat.le_succ _)
  clear hb hc hp0 hq0 hpq hp1 hq1 HS HB HRES HROW
  unfold onwV at HS2 HW0 ⊢
  go_upto_region 5 with (first | (refine wpList_valn rfl (exec_loadR (c := x.ros) rfl rfl ?_) ?_; (with_reducible exact HS2.out.rosr)) | (refine wpList_valn rfl (exec_allocR rfl) ?_) | (refine wpList_nuln rfl (exec_fillR rfl rfl rfl) ?_) | fail)
  try simp only [World.size_alloc]
  generalize ((w2.alloc (.cells #[Value.func (.func 60) #[] #[.pointer (some ⟨p, 0, none⟩), .pointer (some ⟨q, 0, none⟩)]] 72)).alloc (.cells (celR x.ros).toArray 27)) = w3 at *
  try simp only [World.size_alloc]
  generalize w2.heap.size = nb at *
  generalize w.heap.size + 1 + 1 = g at *
  generalize w.heap.size + 1 = r at *
  obtain ⟨B, hBdef⟩ : ∃ B, w.heap.size = B := ⟨_, rfl⟩
  have HBD := Lib.hid hBdef
  rw [hBdef] at HW0 HR0 ⊢
  clear hBdef HS2 hsz
  obtain ⟨c0, c1⟩ := HCS.out _ _ HW0.out.sup
  obtain ⟨d0, d1, d2, d3, d4⟩ := HCR.out _ _ HW0.out.ros
  go_wp2_with fail
  refine (lay1 B w w3 x B (nb + 1) r nb p q g _ x.id 8 HW0.out (Nat.le_of_eq HBD.out.symm) (by omega) (by omega) (by simp [length_digL]) (by simpa using hid)).mono ?_
  rintro e w4 ⟨rfl, hW⟩
  have HW1 := Lib.hid hW
  clear hW c0 c1 d0 d1 d2 d3 d4 HW0
  obtain ⟨c0, c1⟩ := HCS.out _ _ HW1.out.sup
  obtain ⟨d0, d1, d2, d3, d4⟩ := HCR.out _ _ HW1.out.ros
  go_wp2_with fail
  refine (lay1 B w w4 x B (nb + 1) r nb p q g _ M 1 HW1.out (Nat.le_of_eq HBD.out.symm) (by omega) (by omega) (by simp [length_digL]) (by omega)).mono ?_
  rintro e w5 ⟨rfl, hW⟩
  have HW2 := Lib.hid hW
  clear hW c0 c1 d0 d1 d2 d3 d4 HW1
  obtain ⟨c0, c1⟩ := HCS.out _ _ HW2.out.sup
  obtain ⟨d0, d1, d2, d3, d4⟩ := HCR.out _ _ HW2.out.ros
  go_wp2_with fail
  refine (lay1 B w w5 x B (nb + 1) r nb p q g _ T 2 HW2.out (Nat.le_of_eq HBD.out.symm) (by omega) (by omega) (by simp [length_digL]) (by omega)).mono ?_
  rintro e w6 ⟨rfl, hW⟩
  have HW3 := Lib.hid hW
  clear hW c0 c1 d0 d1 d2 d3 d4 HW2
  obtain ⟨c0, c1⟩ := HCS.out _ _ HW3.out.sup
  obtain ⟨d0, d1, d2, d3, d4⟩ := HCR.out _ _ HW3.out.ros
  go_wp2_with fail
  refine (lay1 B w w6 x B (nb + 1) r nb p q g _ R 2 HW3.out (Nat.le_of_eq HBD.out.symm) (by omega) (by omega) (by simp [length_digL]) (by omega)).mono ?_
  rintro e w7 ⟨rfl, hW⟩
  have HW4 := Lib.hid hW
  clear hW c0 c1 d0 d1 d2 d3 d4 HW3
  obtain ⟨c0, c1⟩ := HCS.out _ _ HW4.out.sup
  obtain ⟨d0, d1, d2, d3, d4⟩ := HCR.out _ _ HW4.out.ros
  go_wp2_with fail
  refine (lay1 B w w7 x B (nb + 1) r nb p q g _ E 1 HW4.out (Nat.le_of_eq HBD.out.symm) (by omega) (by omega) (by simp [length_digL]) (by omega)).mono ?_
  rintro e w8 ⟨rfl, hW⟩
  have HW5 := Lib.hid hW
  clear hW c0 c1 d0 d1 d2 d3 d4 HW4
  have HRD := Lib.hid HW5.out.ros.rd16
  go_wp2_with (first | (refine wpList_valn rfl (exec_all16 rfl rfl) ?_) | fail)
  refine (bits_ok _ 16 16 _ 2 _ x.ros.st.toList w8 (Lib.hid rfl) HRD.out (Nat.le_refl _) (by omega) (by omega) (by omega) HNAR.out).mono ?_
  rintro e w9 ⟨v, rfl, hv, hb⟩
  rw [show bytesOf 16 2 = 4 from rfl] at hv
  have hvm := hv.made
  obtain ⟨A, c, rfl, _, _, _⟩ := hvm.open_ (length_digL 8 4 _)
  have HV := Lib.hid hvm
  have HW6 := Lib.hid (HW5.out.keep hb (Nat.le_of_eq HBD.out.symm))
  have HPP := Lib.hid (blk_lt HW5.out.cut.1)
  have n0 := (cell1 HW6.out.nxt).1
  unfold onwV at n0
  clear hv hvm hb HRD HW5
  go_wp2_with fail
  refine (onw1 p q g 0 44 44 _ 4 w9 HW6.out.cut HW6.out.dif.2.2.2.2.2.2.2.2.1 (by omega) (by simp [length_digL]) (Nat.le_refl _) (by omega)).mono ?_
  rintro e w10 ⟨rfl, hc2, hg2⟩
  clear n0
  have HC2 := Lib.hid hc2
  have HG2 := Lib.hid hg2
  have HROW2 := Lib.hid (grown_blk HW6.out.row hg2 (fun e => HW6.out.dif.2.2.2.2.2.2.2.2.2.1 e.symm))
  have HRD2 : Hid (Rd w10 w10.heap.size A 4 (digL 8 4 (val 2 x.ros.st.toList))) := Lib.hid (by
    have := (HV.out.kept1 hg2 (fun j hj => by injection hj with e; have := HPP.out; omega)).rd
    exact this)
  clear hc2 hg2
  obtain ⟨a, ha⟩ : ∃ a, [] ++ digL 8 8 x.id ++ digL 8 1 M ++ digL 8 2 T ++ digL 8 2 R ++ digL 8 1 E = a := ⟨_, rfl⟩
  have hal : a.length = 14 := by rw [← ha]; simp [length_digL]
  rw [ha] at HC2 HROW2 HW6
  have HA := Lib.hid ha
  have HAL := Lib.hid hal
  clear ha
  rw [hal] at HC2
  go_wp2_with (first | (refine wpList_copyL rfl _ _ rfl g 14 4 4 4 c _ A 52 (padL a) (digL 8 4 (val 2 x.ros.st.toList)) rfl rfl HROW2.out HRD2.out (Nat.le_refl _) ?_ ?_) | fail)
  · rw [padL_length (by omega)]; omega
  intro w11 hr3 hg3
  rw [← hal, splice_pad (by rw [hal, length_digL]; omega)] at hr3
  have hdf := HW6.out.dif
  have hc3 : CutAt w11 p q (.slice (some ⟨g, 0, none⟩) 44 44) (a ++ digL 8 4 (val 2 x.ros.st.toList)).length := by
    rw [List.length_append, length_digL, hal]
    exact ⟨grown_blk HC2.out.1 hg3 hdf.2.2.2.2.2.2.2.2.2.1, grown_blk HC2.out.2 hg3 hdf.2.2.2.2.2.2.2.2.2.2⟩
  have HW7 := Lib.hid (HW6.out.cutR hc3 hr3 ⟨w10, HG2.out, hg3⟩ (Nat.le_of_eq HBD.out.symm))
  clear hr3 hg3 hdf hc3 HW6 HC2 HG2 HROW2 HRD2 HV HPP
  obtain ⟨d0, d1, d2, d3, d4⟩ := HCR.out _ _ HW7.out.ros
  go_wp2_with fail
  refine (lay1 B w w11 x B (nb + 1) r nb p q g _ C 2 HW7.out (Nat.le_of_eq HBD.out.symm) (by omega) (by omega) (by rw [List.length_append, length_digL]; omega) (by omega)).mono ?_
  rintro e w12 ⟨rfl, hW⟩
  have HW8 := Lib.hid hW
  clear hW d0 d1 d2 d3 d4 HW7
  have d4 := (HCR.out _ _ HW8.out.ros).2.2.2.2
  cases hgn : x.ros.gone
  · have HF := HNO hgn
    rw [hgn] at d4
    have HL := Lib.hid HW8.out.row
    rw [← HA.out] at HL
    simp only [List.nil_append] at HL
    rw [HF.out] at HL
    have HLR := Lib.hid (rng_at HL.out)
    have HTH := Lib.hid (there_at (o := 0) (n := 44) HW8.out.res (by rw [vals_length]; exact Nat.le_refl _))
    have HBB := Lib.hid HW8.out.bel
    have HFL := Lib.hid (fullL_length x)
    clear HYES HNO HF hgn
    go_wp2_with (first | (refine wpList_valn rfl (exec_load44 HFL.out rfl rfl ?_) ?_; (with_reducible exact HLR.out)) | (refine wpList_nuln rfl (exec_putT (cs := vals (fullL x)) ?k1 (vals_one _) rfl rfl rfl ?k2) ?_; (case k1 => rw [vals_length, HFL.out]; exact size44); (case k2 => rw [vals_length, HFL.out]; exact HTH.out)) | fail)
    refine bodyPost_ret (res_rng (t := 52) (cs := vals (fullL x)) rfl _ _ r rfl ?h1 Tryd.underlying52 rfl ?h2) rfl ⟨rfl, ?h3⟩
    case h1 => exact World.rangeAt_setCells_same _ _ _ _ (by rw [vals_length, HFL.out]; exact HTH.out)
    case h2 => rw [vals_length, HFL.out]; exact size44
    case h3 => rw [HBD.out]; exact below_setCells HBB.out HR0.out _
  · have HF := HYES hgn
    rw [hgn] at d4
    go_wp2_with fail
    refine (lay1 B w w12 x B (nb + 1) r nb p q g _ 1 1 HW8.out (Nat.le_of_eq HBD.out.symm) (by omega) (by omega) (by rw [List.length_append, List.length_append, length_digL, length_digL]; have := HAL.out; omega) (by omega)).mono ?_
    rintro e w13 ⟨rfl, hW⟩
    have HW9 := Lib.hid hW
    clear hW d4 HW8
    have HL := Lib.hid HW9.out.row
    rw [← HA.out] at HL
    simp only [List.nil_append] at HL
    rw [HF.out] at HL
    have HLR := Lib.hid (rng_at HL.out)
    have HTH := Lib.hid (there_at (o := 0) (n := 44) HW9.out.res (by rw [vals_length]; exact Nat.le_refl _))
    have HBB := Lib.hid HW9.out.bel
    have HFL := Lib.hid (fullL_length x)
    clear HYES HNO HF hgn
    go_wp2_with (first | (refine wpList_valn rfl (exec_load44 HFL.out rfl rfl ?_) ?_; (with_reducible exact HLR.out)) | (refine wpList_nuln rfl (exec_putT (cs := vals (fullL x)) ?k1 (vals_one _) rfl rfl rfl ?k2) ?_; (case k1 => rw [vals_length, HFL.out]; exact size44); (case k2 => rw [vals_length, HFL.out]; exact HTH.out)) | fail)
    refine bodyPost_ret (res_rng (t := 52) (cs := vals (fullL x)) rfl _ _ r rfl ?h1 Tryd.underlying52 rfl ?h2) rfl ⟨rfl, ?h3⟩
    case h1 => exact World.rangeAt_setCells_same _ _ _ _ (by rw [vals_length, HFL.out]; exact HTH.out)
    case h2 => rw [vals_length, HFL.out]; exact size44
    case h3 => rw [HBD.out]; exact below_setCells HBB.out HR0.out _
end Go.Proofs.YtiilclncedipiaaDoor
namespace Go.Proofs.YtiilclncedipiaaDoor
open Go.RowKit
set_option linter.unusedVariables false
set_option linter.unusedSimpArgs false
set_option maxRecDepth 100000

/-! ### Fields that are set -/
theorem set_tail (y : Ros) (j : Nat) (v : Value) : (vals y.st.toList ++ [Value.int .i64 y.cur, Value.bool y.gone]).set (16 + j) v = vals y.st.toList ++ [Value.int .i64 y.cur, Value.bool y.gone].set j v := by
  rw [List.set_append_right _ _ (by simp [vals_length])]
  congr 2
  simp [vals_length]
theorem celS_mk (id : Nat) (self m s r : Int) (st : Vector UInt8 16) (cur : Int) (gone : Bool) : celS ⟨id, self, ⟨m, s, r, st, cur, gone⟩⟩ = Value.int .u64 id :: Value.int .i64 self :: Value.int .i64 m :: Value.int .i64 s :: Value.int .i64 r :: (vals st.toList ++ [Value.int .i64 cur, Value.bool gone]) := rfl
section
variable (y : Sup)
theorem setS_id (n : Nat) : (celS y).set 0 (.int .u64 n) = celS { y with id := n } := rfl
theorem setS_self (n : Int) : (celS y).set 1 (.int .i64 n) = celS { y with self := n } := rfl
theorem setS_m (n : Int) : (celS y).set 2 (.int .i64 n) = celS { y with ros := { y.ros with m := n } } := rfl
theorem setS_s (n : Int) : (celS y).set 3 (.int .i64 n) = celS { y with ros := { y.ros with s := n } } := rfl
theorem setS_r (n : Int) : (celS y).set 4 (.int .i64 n) = celS { y with ros := { y.ros with r := n } } := rfl
theorem setS_cur (n : Int) : (celS y).set 21 (.int .i64 n) = celS { y with ros := { y.ros with cur := n } } := by
  show Value.int .u64 y.id :: Value.int .i64 y.self :: Value.int .i64 y.ros.m :: Value.int .i64 y.ros.s :: Value.int .i64 y.ros.r :: (vals y.ros.st.toList ++ [Value.int .i64 y.ros.cur, Value.bool y.ros.gone]).set (16 + 0) (.int .i64 n) = _
  rw [set_tail]
  rfl
theorem setS_gone (b : Bool) : (celS y).set 22 (.bool b) = celS { y with ros := { y.ros with gone := b } } := by
  show Value.int .u64 y.id :: Value.int .i64 y.self :: Value.int .i64 y.ros.m :: Value.int .i64 y.ros.s :: Value.int .i64 y.ros.r :: (vals y.ros.st.toList ++ [Value.int .i64 y.ros.cur, Value.bool y.ros.gone]).set (16 + 1) (.bool b) = _
  rw [set_tail]
  rfl
theorem splS_st {l : List UInt8} (h : l.length = 16) : splice (celS y) 5 (vals l) = celS { y with ros := { y.ros with st := ofSt l } } := by
  obtain ⟨id, self, m, s, r, st, cur, gone⟩ := y
  show splice (celS ⟨id, self, ⟨m, s, r, st, cur, gone⟩⟩) 5 (vals l) = celS ⟨id, self, ⟨m, s, r, ofSt l, cur, gone⟩⟩
  have h2 : (vals st.toList).length = 16 := by simp [vals_length]
  rw [celS_mk, celS_mk, toList_ofSt h]
  generalize vals st.toList = z at *
  unfold splice
  rw [vals_length, h, show 5 + 16 = 16 + 1 + 1 + 1 + 1 + 1 from rfl]
  simp only [List.drop_succ_cons, List.take_succ_cons, List.take_zero]
  rw [List.drop_append_of_le_length (by omega), List.drop_of_length_le (by omega)]
  rfl
end
theorem SupAt.set {w : World} {s j : Nat} {y y' : Sup} {v : Value} (h : SupAt w s y) (e : (celS y).set j v = celS y') : SupAt (w.setCell ⟨s, j, none⟩ v) s y' := by
  have := heap_setCell_same w s j (celS y).toArray 29 v h
  rw [List.setIfInBounds_toArray, e] at this
  exact this
theorem SupAt.free {w : World} {s : Nat} {y : Sup} (h : SupAt w s y) (j : Nat) : w.frozen? ⟨s, j, none⟩ = false := frozen_of_row w s j _ _ h
/-- A copy of bytes into a block of whatever cells. -/
theorem wpList_copyC {w : World} {ops : Array Oper} {rest : List Oper} {o : Oper} {a : Act} {Q : Exit → Act → World → Prop} (hgd : o.guard = none) (d s : Operand)
    (ho : o.op = .call { callee := .builtin .copy, args := #[d, s], argTypes := #[39, 39] }) (g off n c c' N : Nat) (A : Option Addr) (t : TypeId) (cs : List Value) (x : List UInt8)
    (hd : a.eval d = .slice (some ⟨g, off, none⟩) n c) (hs : a.eval s = .slice A n c') (hS : w.heap[g]? = some (.cells cs.toArray t (0, 0))) (hr : Rd w N A n x) (hn : 0 < n) (hfit : off + n ≤ cs.length)
    (h : ∀ w', w'.heap[g]? = some (.cells (splice cs off (vals x)).toArray t (0, 0)) → w.grownBy w' (some g) → wpList Tryd.prog ops Q rest (a.put o.dst (goInt n)) w') : wpList Tryd.prog ops Q (o :: rest) a w := by
  have hx := hr.1
  obtain ⟨ad, rfl⟩ : ∃ ad, A = some ad := by
    obtain ⟨b, off, e, _⟩ := hr.2 0 hn
    exact ⟨_, e⟩
  have hcl : (vals x).length = n := by rw [vals_length, hx]
  refine wpList_copy_own hgd d s _ _ ho 5 Tryd.underlying39 (by kernel_rfl) g off n c ad n c' hd hs _ t hS (vals x) (by rw [hcl]; exact (Nat.min_self n).symm) (fun j v hj => ?_) (by simp [hcl]; omega) (vals_one x) ?_
  · have hlt : j < n := by have := (List.getElem?_eq_some_iff.1 hj).1; omega
    obtain ⟨b, o2, e, _, hc⟩ := hr.2 j hlt
    injection e with e
    subst e
    rw [Addr.add_mid, hc, ← hj, vals_at (by omega)]
  · have hrow := setRow_heap w g cs.toArray (cs.toArray.toList.take off ++ (vals x ++ cs.toArray.toList.drop (off + (vals x).length))).toArray t (0, 0) hS
    have e : cs.toArray.toList.take off ++ (vals x ++ cs.toArray.toList.drop (off + (vals x).length)) = splice cs off (vals x) := rfl
    rw [hcl]
    rw [hcl] at hrow e
    refine h _ ?_ ⟨rfl, rfl, rfl, by simp [World.setRow], fun k hk hne => setRow_other w g k _ (fun e => hne (by rw [e]))⟩
    rw [e] at hrow ⊢
    exact hrow

/-! ### Telling -/
/-- What stands while a body is told: its bytes, the superblock so far, the result, the cutter; 'k' bytes are cut. -/
structure TelW (B : Nat) (w0 w : World) (g : Nat) (l : List UInt8) (s r nb p q k : Nat) (y : Sup) : Prop where
  row : RowL w g 5 l
  sup : SupAt w s y
  res : SupAt w r zeroS
  nxt : w.heap[nb]? = some (.cells #[onwV p q] 72 (0, 0))
  cut : CutAt w p q (.slice (some ⟨g, 0, none⟩) 44 44) k
  bel : Below B w0 w
  p0 : B ≤ p
  s0 : B ≤ s
  dif : g ≠ p ∧ s ≠ p ∧ r ≠ p ∧ nb ≠ p ∧ p ≠ q ∧ g ≠ s ∧ r ≠ s ∧ nb ≠ s ∧ p ≠ s ∧ q ≠ s
section
variable {B : Nat} {w0 w w' : World} {g s r nb p q k k' : Nat} {l : List UInt8} {y y' : Sup}
theorem TelW.keep (h : TelW B w0 w g l s r nb p q k y) (hb : Below w.heap.size w w') (hB : B ≤ w0.heap.size) : TelW B w0 w' g l s r nb p q k y :=
  ⟨blk_keep h.row hb, blk_keep h.sup hb, blk_keep h.res hb, blk_keep h.nxt hb, ⟨blk_keep h.cut.1 hb, blk_keep h.cut.2 hb⟩, h.bel.trans (hb.mono (Nat.le_trans hB h.bel.size)), h.p0, h.s0, h.dif⟩
theorem TelW.step (h : TelW B w0 w g l s r nb p q k y) (hc : CutAt w' p q (.slice (some ⟨g, 0, none⟩) 44 44) k') (hg : w.grownBy w' (some p)) (hB : B ≤ w0.heap.size) : TelW B w0 w' g l s r nb p q k' y := by
  obtain ⟨d1, d2, d3, d4, d5, d6, d7, d8, d9, d10⟩ := h.dif
  exact ⟨grown_blk h.row hg d1, grown_blk h.sup hg d2, grown_blk h.res hg d3, grown_blk h.nxt hg d4, hc, h.bel.grown hg (Nat.le_trans hB h.bel.size) (fun k hk => by injection hk with e; have := h.p0; omega), h.p0, h.s0, h.dif⟩
theorem TelW.put (h : TelW B w0 w g l s r nb p q k y) (hs : SupAt w' s y') (hg : w.grownBy w' (some s)) (hB : B ≤ w0.heap.size) : TelW B w0 w' g l s r nb p q k y' := by
  obtain ⟨d1, d2, d3, d4, d5, d6, d7, d8, d9, d10⟩ := h.dif
  exact ⟨grown_blk h.row hg d6, hs, grown_blk h.res hg d7, grown_blk h.nxt hg d8, ⟨grown_blk h.cut.1 hg d9, grown_blk h.cut.2 hg d10⟩, h.bel.grown hg (Nat.le_trans hB h.bel.size) (fun k hk => by injection hk with e; have := h.s0; omega), h.p0, h.s0, h.dif⟩
theorem TelW.set (h : TelW B w0 w g l s r nb p q k y) (j : Nat) (v : Value) (e : (celS y).set j v = celS y') (hB : B ≤ w0.heap.size) : TelW B w0 (w.setCell ⟨s, j, none⟩ v) g l s r nb p q k y' :=
  h.put (h.sup.set e) (grown_set w s j v) hB
end
set_option maxHeartbeats 1000000 in
theorem tell1 (B : Nat) (w0 w : World) (g : Nat) (l : List UInt8) (s r nb p q k n : Nat) (y : Sup) (h : TelW B w0 w g l s r nb p q k y) (hB : B ≤ w0.heap.size) (hl : l.length = 44) (h1 : 1 ≤ n) (h2 : n ≤ 8) (hk : k + n ≤ 44) :
    Calls Tryd.prog 56 #[.int .i64 n, .pointer (some ⟨nb, 0, none⟩)] w fun e w' => e = .returned (.int .u64 (val 8 (piece l k n) : Nat)) ∧ TelW B w0 w' g l s r nb p q (k + n) y := by
  have HH := Lib.hid h
  have HL := Lib.hid hl
  have HP := Lib.hid (piece_all (b := piece l k n) (n := n) (length_piece (by omega)))
  have c0 := (cell1 h.nxt).1
  unfold onwV at c0
  clear h hl
  go_enter Tryd.func56, Tryd.ntmps56
  go_wp2_with fail
  refine (onw1 p q g 0 44 44 k n w HH.out.cut HH.out.dif.2.2.2.2.1 h1 hk (Nat.le_refl _) (by omega)).mono ?_
  rintro e w1 ⟨rfl, hc, hg⟩
  have H1 := Lib.hid (HH.out.step hc hg hB)
  clear hc hg c0 HH
  have HRD := Lib.hid (H1.out.row.rd (p := k) (k := n) (by rw [HL.out]; omega))
  go_wp2_with fail
  refine (get_ok _ n n _ (piece l k n) 0 n w1 HRD.out (by unfold maxLen; omega) h1 h2 (by omega)).mono ?_
  rintro e w2 ⟨rfl, rfl⟩
  rw [HP.out]
  obtain ⟨v, hv⟩ : ∃ v, val 8 (piece l k n) = v := ⟨_, rfl⟩
  rw [hv]
  have HV := Lib.hid hv
  clear hv
  go_wp2_with fail
  go_ret
  exact ⟨by rw [HV.out]; rfl, H1.out⟩
end Go.Proofs.YtiilclncedipiaaDoor
namespace Go.Proofs.YtiilclncedipiaaDoor
open Go.RowKit
set_option linter.unusedVariables false
set_option linter.unusedSimpArgs false
set_option maxRecDepth 100000

theorem telW_start {w w2 : World} {g p q : Nat} {l : List UInt8} (HR : RowL w g 5 l) (hb : Below (w.alloc (.cells (celS zeroS).toArray 29)).heap.size (w.alloc (.cells (celS zeroS).toArray 29)) w2)
    (hc : CutAt w2 p q (.slice (some ⟨g, 0, none⟩) 44 44) 0) (hd : w.heap.size + 1 ≤ p ∧ w.heap.size + 1 ≤ q ∧ p ≠ q ∧ p < w2.heap.size ∧ q < w2.heap.size) :
    TelW w.heap.size w ((w2.alloc (.cells #[onwV p q] 72)).alloc (.cells (celS zeroS).toArray 29)) g l (w2.heap.size + 1) w.heap.size w2.heap.size p q 0 zeroS := by
  have e0 := World.size_alloc (w := w) (o := Obj.cells (celS zeroS).toArray 29)
  have e1 := World.size_alloc (w := w2) (o := Obj.cells #[onwV p q] 72)
  have h1 := blk_lt HR
  have h3 := hb.size
  rw [e0] at h3
  have hro := SupAt.new (w2.alloc (.cells #[onwV p q] 72)) zeroS
  rw [e1] at hro
  have hb1 := (Below.refl w.heap.size w).alloc (Nat.le_refl _) (.cells (celS zeroS).toArray 29)
  have hb2 : Below w.heap.size w w2 := hb1.trans (hb.mono hb1.size)
  refine ⟨((HR.past _).below (by rw [e0]; omega) hb).past _ |>.past _, hro, blk_past (blk_past (blk_keep (heap_alloc_new w _) hb) _) _, blk_past (heap_alloc_new w2 _) _, ⟨blk_past (blk_past hc.1 _) _, blk_past (blk_past hc.2 _) _⟩, (hb2.alloc (by omega) _).alloc (by rw [e1]; omega) _, ?_, ?_, ?_⟩
  · omega
  · omega
  · refine ⟨?_, ?_, ?_, ?_, ?_, ?_, ?_, ?_, ?_, ?_⟩ <;> omega
set_option maxHeartbeats 4000000 in
theorem ptold (g : Nat) (l : List UInt8) (w : World) (hl : l.length = 44) (hr : RowL w g 5 l) : Calls Tryd.prog 33 #[.slice (some ⟨g, 0, none⟩) 44 44] w fun e w' => e = .returned (sup (toldS l)) ∧ Below w.heap.size w w' := by
  have hmf : ∀ (fn : Fn) (first cap : Array Value) (w : World), (Instr.makeFunc fn first cap).run Tryd.prog w = .ok (.func fn first cap) w := fun _ _ _ _ => rfl
  have HL := Lib.hid hl
  have HR := Lib.hid hr
  obtain ⟨I, hI⟩ : ∃ I : Nat, val 8 (piece l 0 8) = I := ⟨_, rfl⟩
  obtain ⟨M, hM⟩ : ∃ M : Nat, val 8 (piece l 8 1) = M := ⟨_, rfl⟩
  have bM : M < 256 := by rw [← hM]; exact val_piece_lt (b := l) (p := 8) (k := 1) (by omega)
  obtain ⟨T, hT⟩ : ∃ T : Nat, val 8 (piece l 9 2) = T := ⟨_, rfl⟩
  have bT : T < 65536 := by rw [← hT]; exact val_piece_lt (b := l) (p := 9) (k := 2) (by omega)
  obtain ⟨R, hR⟩ : ∃ R : Nat, val 8 (piece l 11 2) = R := ⟨_, rfl⟩
  have bR : R < 65536 := by rw [← hR]; exact val_piece_lt (b := l) (p := 11) (k := 2) (by omega)
  obtain ⟨E, hE⟩ : ∃ E : Nat, val 8 (piece l 13 1) = E := ⟨_, rfl⟩
  have bE : E < 256 := by rw [← hE]; exact val_piece_lt (b := l) (p := 13) (k := 1) (by omega)
  obtain ⟨C, hC⟩ : ∃ C : Nat, val 8 (piece l 18 2) = C := ⟨_, rfl⟩
  have bC : C < 65536 := by rw [← hC]; exact val_piece_lt (b := l) (p := 18) (k := 2) (by omega)
  obtain ⟨G, hG⟩ : ∃ G : Nat, val 8 (piece l 20 1) = G := ⟨_, rfl⟩
  have bG : G < 256 := by rw [← hG]; exact val_piece_lt (b := l) (p := 20) (k := 1) (by omega)
  obtain ⟨gb, hgb⟩ : ∃ gb, decide (G = 1) = gb := ⟨_, rfl⟩
  have hgg : ((G : Int) == 1) = gb := by rw [← hgb, Bool.eq_iff_iff]; simp; omega
  obtain ⟨st, hst⟩ : ∃ st, digL 2 16 (val 8 (piece l 14 4)) = st := ⟨_, rfl⟩
  have HST := Lib.hid hst
  have HSL : Hid (st.length = 16) := Lib.hid (by rw [← hst, length_digL])
  have HDEF : Hid (toldS l = ⟨I, (E : Nat), ⟨(M : Nat), (T : Nat), (R : Nat), ofSt st, (C : Nat), gb⟩⟩) := Lib.hid (by unfold toldS; rw [hI, hM, hT, hR, hE, hC, hG, hgb, hst])
  have HII := Lib.hid hI
  have HMM := Lib.hid hM
  have HTT := Lib.hid hT
  have HRR := Lib.hid hR
  have HEE := Lib.hid hE
  have HCC := Lib.hid hC
  have HGG2 := Lib.hid hG
  have HGG := Lib.hid hgg
  clear hI hM hT hR hE hC hG hgb hst hl hr hgg
  go_enter Tryd.func33, Tryd.ntmps33
  go_wp2_with (first | (refine wpList_valn rfl (exec_allocS rfl) ?_) | fail)
  refine (onward_any (.slice (some ⟨g, 0, none⟩) 44 44) _ 44 44 rfl _).mono ?_
  rintro e w2 ⟨p, q, rfl, hc, hp0, hq0, hpq, hp1, hq1, hb⟩
  have HW0 := Lib.hid (telW_start HR.out hb hc (by rw [World.size_alloc] at hp0 hq0; exact ⟨hp0, hq0, hpq, hp1, hq1⟩))
  clear hb hc hp0 hq0 hpq hp1 hq1 HR
  unfold onwV at HW0 ⊢
  go_upto_region 5 with (first | (refine wpList_valn rfl (exec_allocS rfl) ?_) | fail)
  try simp only [World.size_alloc]
  generalize ((w2.alloc (.cells #[Value.func (.func 60) #[] #[.pointer (some ⟨p, 0, none⟩), .pointer (some ⟨q, 0, none⟩)]] 72)).alloc (.cells (celS zeroS).toArray 29)) = w3 at *
  try simp only [World.size_alloc]
  generalize w2.heap.size = nb at *
  obtain ⟨B, hBdef⟩ : ∃ B, w.heap.size = B := ⟨_, rfl⟩
  have HBD := Lib.hid hBdef
  rw [hBdef] at HW0 ⊢
  clear hBdef
  have HSN : Hid (nb + 1 ≠ nb) := Lib.hid (by omega)
  obtain ⟨s, hs⟩ : ∃ s, nb + 1 = s := ⟨_, rfl⟩
  rw [hs] at HW0 ⊢
  clear hs
  have HB0 : Hid (B ≤ w.heap.size) := Lib.hid (Nat.le_of_eq HBD.out.symm)
  go_wp2_with fail
  refine (tell1 B w _ g l s B nb p q 0 8 _ HW0.out HB0.out HL.out (by omega) (by omega) (by omega)).mono ?_
  rintro e w4 ⟨rfl, hW⟩
  rw [HII.out]
  have HV0 := Lib.hid hW
  have cc := HV0.out.sup.cells.1
  have ff := HV0.out.sup.free 0
  clear hW
  have HW1 : Hid (TelW B w (w4.setCell ⟨s, 0, none⟩ (.int .u64 (I : Nat))) g l s B nb p q 8 ⟨I, 0, ⟨0, 0, 0, zeroR.st, 0, false⟩⟩) := Lib.hid (HV0.out.set 0 _ (setS_id _ _) HB0.out)
  clear HV0
  go_wp2_with fail
  refine (tell1 B w _ g l s B nb p q 8 1 _ HW1.out HB0.out HL.out (by omega) (by omega) (by omega)).mono ?_
  rintro e w5 ⟨rfl, hW⟩
  rw [HMM.out]
  have HV1 := Lib.hid hW
  have cc := HV1.out.sup.cells.2.2.1
  have ff := HV1.out.sup.free 2
  clear hW HW1
  have HW2 : Hid (TelW B w (w5.setCell ⟨s, 2, none⟩ (.int .i64 (M : Nat))) g l s B nb p q 9 ⟨I, 0, ⟨(M : Nat), 0, 0, zeroR.st, 0, false⟩⟩) := Lib.hid (HV1.out.set 2 _ (setS_m _ _) HB0.out)
  clear HV1
  go_wp2_with fail
  refine (tell1 B w _ g l s B nb p q 9 2 _ HW2.out HB0.out HL.out (by omega) (by omega) (by omega)).mono ?_
  rintro e w6 ⟨rfl, hW⟩
  rw [HTT.out]
  have HV2 := Lib.hid hW
  have cc := HV2.out.sup.cells.2.2.2.1
  have ff := HV2.out.sup.free 3
  clear hW HW2
  have HW3 : Hid (TelW B w (w6.setCell ⟨s, 3, none⟩ (.int .i64 (T : Nat))) g l s B nb p q 11 ⟨I, 0, ⟨(M : Nat), (T : Nat), 0, zeroR.st, 0, false⟩⟩) := Lib.hid (HV2.out.set 3 _ (setS_s _ _) HB0.out)
  clear HV2
  go_wp2_with fail
  refine (tell1 B w _ g l s B nb p q 11 2 _ HW3.out HB0.out HL.out (by omega) (by omega) (by omega)).mono ?_
  rintro e w7 ⟨rfl, hW⟩
  rw [HRR.out]
  have HV3 := Lib.hid hW
  have cc := HV3.out.sup.cells.2.2.2.2.1
  have ff := HV3.out.sup.free 4
  clear hW HW3
  have HW4 : Hid (TelW B w (w7.setCell ⟨s, 4, none⟩ (.int .i64 (R : Nat))) g l s B nb p q 13 ⟨I, 0, ⟨(M : Nat), (T : Nat), (R : Nat), zeroR.st, 0, false⟩⟩) := Lib.hid (HV3.out.set 4 _ (setS_r _ _) HB0.out)
  clear HV3
  go_wp2_with fail
  refine (tell1 B w _ g l s B nb p q 13 1 _ HW4.out HB0.out HL.out (by omega) (by omega) (by omega)).mono ?_
  rintro e w8 ⟨rfl, hW⟩
  rw [HEE.out]
  have HV4 := Lib.hid hW
  have cc := HV4.out.sup.cells.2.1
  have ff := HV4.out.sup.free 1
  clear hW HW4
  have HW5 : Hid (TelW B w (w8.setCell ⟨s, 1, none⟩ (.int .i64 (E : Nat))) g l s B nb p q 14 ⟨I, (E : Nat), ⟨(M : Nat), (T : Nat), (R : Nat), zeroR.st, 0, false⟩⟩) := Lib.hid (HV4.out.set 1 _ (setS_self _ _) HB0.out)
  clear HV4
  have n0 := (cell1 HW5.out.nxt).1
  unfold onwV at n0
  go_wp2_with fail
  refine (onw1 p q g 0 44 44 14 4 _ HW5.out.cut HW5.out.dif.2.2.2.2.1 (by omega) (by omega) (Nat.le_refl _) (by omega)).mono ?_
  rintro e w9 ⟨rfl, hc, hg⟩
  have HV5 := Lib.hid (HW5.out.step hc hg HB0.out)
  clear hc hg n0 HW5 cc ff
  have HRD := Lib.hid (HV5.out.row.rd (p := 14) (k := 4) (by rw [HL.out]; omega))
  go_wp2_with fail
  refine (unbits_ok _ 4 4 _ 2 16 _ (piece l 14 4) w9 (Lib.hid rfl) HRD.out (Nat.le_refl _) (by omega) (by omega) (by omega) (by omega) (by decide)).mono ?_
  rintro e w10 ⟨v, rfl, hv, hb⟩
  rw [HST.out] at hv
  have hvm := hv.made
  obtain ⟨A, c, rfl, hrd, _, _⟩ := hvm.open_ HSL.out
  have HV6 := Lib.hid (HV5.out.keep hb HB0.out)
  have HRD2 := Lib.hid hrd
  clear hv hvm hrd hb HRD HV5
  go_wp2_with (first | (refine wpList_valn rfl (exec_all16 rfl rfl) ?_) | (refine wpList_copyC rfl _ _ rfl s 5 16 16 c _ A 29 (celS _) st rfl rfl HV6.out.sup HRD2.out (by omega) ?_ ?_) | fail)
  · rw [celS_length]; omega
  intro w11 hs11 hg11
  rw [splS_st _ HSL.out] at hs11
  have HW6 : Hid (TelW B w w11 g l s B nb p q 18 ⟨I, (E : Nat), ⟨(M : Nat), (T : Nat), (R : Nat), ofSt st, 0, false⟩⟩) := Lib.hid (HV6.out.put hs11 hg11 HB0.out)
  clear hs11 hg11 HV6 HRD2
  go_wp2_with fail
  refine (tell1 B w _ g l s B nb p q 18 2 _ HW6.out HB0.out HL.out (by omega) (by omega) (by omega)).mono ?_
  rintro e w12 ⟨rfl, hW⟩
  rw [HCC.out]
  have HV6 := Lib.hid hW
  have cc := HV6.out.sup.cells.2.2.2.2.2.1
  have ff := HV6.out.sup.free 21
  clear hW HW6
  have HW7 : Hid (TelW B w (w12.setCell ⟨s, 21, none⟩ (.int .i64 (C : Nat))) g l s B nb p q 20 ⟨I, (E : Nat), ⟨(M : Nat), (T : Nat), (R : Nat), ofSt st, (C : Nat), false⟩⟩) := Lib.hid (HV6.out.set 21 _ (setS_cur _ _) HB0.out)
  clear HV6
  go_wp2_with fail
  refine (tell1 B w _ g l s B nb p q 20 1 _ HW7.out HB0.out HL.out (by omega) (by omega) (by omega)).mono ?_
  rintro e w13 ⟨rfl, hW⟩
  rw [HGG2.out]
  have HV7 := Lib.hid hW
  clear hW HW7 cc ff
  have cc := HV7.out.sup.cells.2.2.2.2.2.2
  have ff := HV7.out.sup.free 22
  have HW8 : Hid (TelW B w (w13.setCell ⟨s, 22, none⟩ (.bool gb)) g l s B nb p q 21 ⟨I, (E : Nat), ⟨(M : Nat), (T : Nat), (R : Nat), ofSt st, (C : Nat), gb⟩⟩) := Lib.hid (HV7.out.set 22 _ (setS_gone _ _) HB0.out)
  rw [← HDEF.out] at HW8
  have hgg := HGG.out
  clear HV7
  have HLS := Lib.hid HW8.out.sup.range
  have HTH := Lib.hid (there_at (o := 0) (n := 23) HW8.out.res (by rw [celS_length]; exact Nat.le_refl _))
  have HBB := Lib.hid HW8.out.bel
  go_upto_region 14 with fail
  generalize w13.setCell ⟨s, 22, none⟩ (.bool gb) = w14 at *
  clear cc ff
  go_wp2_with (first | (refine wpList_valn rfl (exec_loadS (c := toldS l) rfl rfl ?_) ?_; (with_reducible exact HLS.out)) | (refine wpList_nuln rfl (exec_putS rfl rfl rfl ?_) ?_; (with_reducible exact HTH.out)) | fail)
  refine bodyPost_ret (res_rng (t := 29) (cs := celS (toldS l)) rfl _ _ B rfl ?h1 Tryd.underlying29 rfl ?h2) rfl ⟨rfl, ?h3⟩
  case h1 => exact World.rangeAt_setCells_same _ _ _ _ (by rw [celS_length]; exact HTH.out)
  case h2 => rw [celS_length]; exact sizeS
  case h3 => rw [HBD.out]; exact below_setCells HBB.out (Nat.le_refl _) _
end Go.Proofs.YtiilclncedipiaaDoor
namespace Go.Proofs.YtiilclncedipiaaDoor
open Go.RowKit
set_option linter.unusedVariables false
set_option linter.unusedSimpArgs false
set_option maxRecDepth 100000

set_option maxHeartbeats 1000000 in
theorem prosters (x y : Ros) (w : World) : Calls Tryd.prog 12 #[ros x, ros y] w fun e w' => e = .returned (.bool (decide (x = y))) ∧ Below w.heap.size w w' := by
  obtain ⟨h1, h2, h3⟩ := boxR_new w x
  have HX := Lib.hid (h1.past (.cells (celR y).toArray 27)).range
  have HY : Hid (((w.alloc (.cells (celR x).toArray 27)).alloc (.cells (celR y).toArray 27)).rangeAt (w.heap.size + 1) 0 (celR y)) := Lib.hid (by
    have := (RosAt.new (w.alloc (.cells (celR x).toArray 27)) y).range
    rwa [World.size_alloc] at this)
  have HB := Lib.hid (h2.alloc h2.size (.cells (celR y).toArray 27))
  clear h1 h2 h3
  obtain ⟨b, hb⟩ : ∃ b, decide (x = y) = b := ⟨_, rfl⟩
  have HD := Lib.hid hb
  rw [hb]
  clear hb
  go_enter Tryd.func12, Tryd.ntmps12
  go_wp2_with (first | (refine wpList_valn rfl (exec_boxR rfl rfl) ?_) | (refine wpList_valn rfl (exec_loadR (c := x) rfl rfl ?_) ?_; (with_reducible exact HX.out)) | (refine wpList_valn rfl (exec_loadR (c := y) rfl rfl ?_) ?_; (with_reducible exact HY.out)) | (refine wpList_valn rfl (exec_eqR b rfl rfl rfl HD.out) ?_) | fail)
  go_ret
  exact ⟨rfl, HB.out⟩
theorem exec_fill44 {ρ : Operand → Value} {o : Oper} {x y : Operand} {w : World} {l : List UInt8} (hl : l.length = 44) (ho : o.op = .store 52 x y) (hx : ρ x = .pointer (some ⟨w.heap.size, 0, none⟩)) (hy : ρ y = arr l) :
    (execOp ρ o).run Tryd.prog (w.alloc (.cells (vals z44).toArray 52)) = .ok .skip (w.alloc (.cells (vals l).toArray 52)) :=
  exec_filT (by rw [vals_length, hl]; exact size44) (by rw [vals_length, vals_length, hl, z44_length]) (vals_one l) ho hx hy
theorem pevent_b (n : Nat) (w : World) {b : Bool} (h : evB n = b) : Calls Tryd.prog 23 #[.int .u64 n] w fun e w' => e = .returned (.bool b) ∧ Below w.heap.size w w' := by
  subst h
  exact (pevent n w).mono fun e w' ⟨he, hw⟩ => ⟨he, hw ▸ Below.refl _ _⟩
theorem pmay_b (x : Sup) (w : World) {b : Bool} (h : supB x = b) : Calls Tryd.prog 10 #[sup x] w fun e w' => e = .returned (.bool b) ∧ Below w.heap.size w w' := by
  subst h
  exact pmay x w
set_option maxHeartbeats 1000000 in
theorem psput (n : Nat) (x : Sup) (w : World) (T : Tab w) (hn : n < 18446744073709551616) (hid : x.id < 18446744073709551616) :
    Calls Tryd.prog 8 #[.int .u64 n, sup x] w fun e w' => e = .returned (.tuple #[blk (sputB n x), .int .i64 (sputE n x : Nat)]) ∧ Below w.heap.size w w' := by
  obtain ⟨h1, h2, h3⟩ := boxS_new w x
  have HS := Lib.hid (h1.past (.cells (cel zeroB).toArray 31))
  have HB := Lib.hid (h2.alloc h2.size (.cells (cel zeroB).toArray 31))
  have HT := Lib.hid T
  have HN := Lib.hid hn
  have HI := Lib.hid hid
  have HR : Hid (((w.alloc (.cells (celS x).toArray 29)).alloc (.cells (cel zeroB).toArray 31)).there (w.heap.size + 1) 0 64) := Lib.hid (by
    have := there_new (w.alloc (.cells (celS x).toArray 29)) zeroB 31
    rwa [World.size_alloc] at this)
  have HZ : Hid (w.heap.size + 1 < ((w.alloc (.cells (celS x).toArray 29)).alloc (.cells (cel zeroB).toArray 31)).heap.size) := Lib.hid (by simp only [World.size_alloc]; omega)
  clear h1 h2 h3 T hn hid
  go_enter Tryd.func8, Tryd.ntmps8
  go_wp2_with (first | (refine wpList_valn rfl (exec_boxS rfl rfl) ?_) | (refine wpList_valn rfl (exec_alloc rfl) ?_) | fail)
  try simp only [World.size_alloc]
  generalize (w.alloc (.cells (celS x).toArray 29)).alloc (.cells (cel zeroB).toArray 31) = w1 at *
  refine (pevent n w1).mono ?_
  rintro e w' ⟨rfl, rfl⟩
  by_cases hev : evB n = true
  · rw [hev]
    have HEV := Lib.hid hev
    clear hev
    go_wp2_with (first | (refine wpList_val (by rfl) (exec_loadS (c := x) rfl rfl ?_) ?_; (with_reducible exact HS.out.range)) | fail)
    refine (pmay x w1).mono ?_
    rintro e w2 ⟨rfl, hb⟩
    have HS2 := Lib.hid (HS.out.below (blk_lt HS.out) hb)
    have HB2 := Lib.hid (HB.out.trans (hb.mono HB.out.size))
    have HR2 := Lib.hid (there_below HR.out HZ.out hb)
    have HZ2 : Hid (w.heap.size + 1 < w2.heap.size) := Lib.hid (by have := hb.size; have := HZ.out; omega)
    clear hb HS HB HR HZ
    by_cases hm : supB x = true
    · rw [hm]
      have HM := Lib.hid hm
      clear hm
      go_wp2_with (first | (refine wpList_valn rfl (exec_loadS (c := x) rfl rfl ?_) ?_; (with_reducible exact HS2.out.range)) | fail)
      refine (plaid x w2 HI.out HM.out).mono ?_
      rintro e w3 ⟨rfl, hb⟩
      have hb3 := HB2.out.trans (hb.mono HB2.out.size)
      have HB3 := Lib.hid (hb3.alloc hb3.size (.cells (vals (fullL x)).toArray 52))
      have HR3 := Lib.hid (there_below HR2.out HZ2.out (hb.alloc hb.size (.cells (vals (fullL x)).toArray 52)))
      have hrd := (RowL.new w3 (fullL x) 52).rd (p := 0) (k := 44) (by rw [fullL_length]; omega)
      rw [piece_all (fullL_length x)] at hrd
      have HRD := Lib.hid hrd
      have HFL := Lib.hid (fullL_length x)
      have HZ3 : Hid (w.heap.size + 1 < (w3.alloc (.cells (vals (fullL x)).toArray 52)).heap.size) := Lib.hid (by have := hb.size; have := HZ2.out; simp only [World.size_alloc]; omega)
      clear hb hb3 hrd HS2 HB2 HR2 HZ2
      go_wp2_with (first | (refine wpList_valn rfl (exec_alloc44 rfl) ?_) | (refine wpList_nuln rfl (exec_fill44 (l := fullL x) HFL.out rfl rfl rfl) ?_) | (refine wpList_valn rfl (exec_all44 rfl rfl) ?_) | fail)
      generalize hw4 : w3.alloc (.cells (vals (fullL x)).toArray 52) = w4 at *
      refine (put_all n 44 44 _ _ (fullL x) w4 (HT.out.below HB3.out) HN.out HRD.out (Nat.le_refl _) (by unfold maxLen; omega)).mono ?_
      rintro e w5 ⟨rfl, hb⟩
      rw [putB_full, putE_full, body_putE x HEV.out]
      have HR5 := Lib.hid (there_below HR3.out HZ3.out hb)
      have HB5 := Lib.hid (HB3.out.trans (hb.mono HB3.out.size))
      have HPB := Lib.hid (sputB_ok HEV.out HM.out)
      have HPE := Lib.hid (sputE_ok HEV.out HM.out)
      clear hb hw4 HRD HR3 HZ3 HB3
      generalize putB n (bodyL x) = pb at *
      go_wp2_with (first | (refine wpList_nuln rfl (exec_store (c := pb) rfl rfl rfl ?_) ?_; (with_reducible exact HR5.out)) | fail)
      refine bodyPost_ret (res_blk2 rfl _ _ _ rfl (World.rangeAt_setCells_same _ _ _ _ (by rw [cel_length]; exact HR5.out))) rfl ⟨by rw [HPB.out, HPE.out]; rfl, below_setCells HB5.out (Nat.le_succ _) _⟩
    · have hm' : supB x = false := by simpa using hm
      have HPB := Lib.hid (sputB_no (n := n) (x := x) (fun h => hm h.2))
      have HPE := Lib.hid (sputE_no (n := n) (x := x) (fun h => hm h.2))
      rw [hm']
      clear hm hm'
      go_wp2_with (first | (refine wpList_valn rfl (exec_build (c := zeroB) (parts := []) rfl rfl) ?_) | (refine wpList_nuln rfl (exec_store (c := zeroB) rfl rfl rfl ?_) ?_; (with_reducible exact HR2.out)) | fail)
      refine bodyPost_ret (res_blk2 rfl _ _ _ rfl (World.rangeAt_setCells_same _ _ _ _ (by rw [cel_length]; exact HR2.out))) rfl ⟨by rw [HPB.out, HPE.out]; rfl, below_setCells HB2.out (Nat.le_succ _) _⟩
  · have hev' : evB n = false := by simpa using hev
    have HPB := Lib.hid (sputB_no (n := n) (x := x) (fun h => hev h.1))
    have HPE := Lib.hid (sputE_no (n := n) (x := x) (fun h => hev h.1))
    rw [hev']
    clear hev hev'
    go_wp2_with (first | (refine wpList_valn rfl (exec_build (c := zeroB) (parts := []) rfl rfl) ?_) | (refine wpList_nuln rfl (exec_store (c := zeroB) rfl rfl rfl ?_) ?_; (with_reducible exact HR.out)) | fail)
    refine bodyPost_ret (res_blk2 rfl _ _ _ rfl (World.rangeAt_setCells_same _ _ _ _ (by rw [cel_length]; exact HR.out))) rfl ⟨by rw [HPB.out, HPE.out]; rfl, below_setCells HB.out (Nat.le_succ _) _⟩
end Go.Proofs.YtiilclncedipiaaDoor
