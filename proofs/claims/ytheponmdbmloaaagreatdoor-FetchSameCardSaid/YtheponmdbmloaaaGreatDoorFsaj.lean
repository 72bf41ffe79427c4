import Derived.Test.YtheponmdbmloaaaGreatDoorFsai
import Derived.Test.YtheponmdbmloaaaGreatDoorFsag
import Derived.Test.YtheponmdbmloaaaGreatDoorFsZ
namespace Go.Proofs.YtheponmdbmloaaaGreatDoor
open Go.RowKit
set_option linter.unusedVariables false
set_option linter.unusedSimpArgs false
set_option maxRecDepth 100000
theorem telW_start {w w2 : World} {g p q : Nat} {l : List UInt8} (HR : bJ w g 5 l) (hb : Below (w.alloc (.cells (aZ bD).toArray 128)).heap.size (w.alloc (.cells (aZ bD).toArray 128)) w2)
    (hc : CutAt w2 p q (.slice (some ⟨g, 0, none⟩) 44 44) 0) (hd : w.heap.size + 1 ≤ p ∧ w.heap.size + 1 ≤ q ∧ p ≠ q ∧ p < w2.heap.size ∧ q < w2.heap.size) :
    TelW w.heap.size w ((w2.alloc (.cells #[onwV p q] 144)).alloc (.cells (aZ bD).toArray 128)) g l (w2.heap.size + 1) w.heap.size w2.heap.size p q 0 bD := by
  have e0 := World.size_alloc (w := w) (o := Obj.cells (aZ bD).toArray 128)
  have e1 := World.size_alloc (w := w2) (o := Obj.cells #[onwV p q] 144)
  have h1 := aH HR
  have h3 := hb.size
  rw [e0] at h3
  have hro := bS.new (w2.alloc (.cells #[onwV p q] 144)) bD
  rw [e1] at hro
  have hb1 := (Below.refl w.heap.size w).alloc (Nat.le_refl _) (.cells (aZ bD).toArray 128)
  have hb2 : Below w.heap.size w w2 := hb1.trans (hb.mono hb1.size)
  refine ⟨((HR.past _).below (by rw [e0]; omega) hb).past _ |>.past _, hro, aY (aY (ao (heap_alloc_new w _) hb) _) _, aY (heap_alloc_new w2 _) _, ⟨aY (aY hc.1 _) _, aY (aY hc.2 _) _⟩, (hb2.alloc (by omega) _).alloc (by rw [e1]; omega) _, ?_, ?_, ?_⟩
  · omega
  · omega
  · refine ⟨?_, ?_, ?_, ?_, ?_, ?_, ?_, ?_, ?_, ?_⟩ <;> omega
set_option maxHeartbeats 4000000 in
theorem ptold (g : Nat) (l : List UInt8) (w : World) (hl : l.length = 44) (hr : bJ w g 5 l) : Calls Tryz.prog 116 #[.slice (some ⟨g, 0, none⟩) 44 44] w fun e w' => e = .returned (sup (bL l)) ∧ Below w.heap.size w w' := by
  have hmf : ∀ (fn : Fn) (first cap : Array Value) (w : World), (Instr.makeFunc fn first cap).run Tryz.prog w = .ok (.func fn first cap) w := fun _ _ _ _ => rfl
  have HL := Lib.hid hl
  have HR := Lib.hid hr
  obtain ⟨I, hI⟩ : ∃ I : Nat, val 8 (piece l 0 8) = I := ⟨_, rfl⟩
  obtain ⟨M, hM⟩ : ∃ M : Nat, val 8 (piece l 8 1) = M := ⟨_, rfl⟩
  have bM : M < 256 := by rw [← hM]; exact co (b := l) (p := 8) (k := 1) (by omega)
  obtain ⟨T, hT⟩ : ∃ T : Nat, val 8 (piece l 9 2) = T := ⟨_, rfl⟩
  have bT : T < 65536 := by rw [← hT]; exact co (b := l) (p := 9) (k := 2) (by omega)
  obtain ⟨R, hR⟩ : ∃ R : Nat, val 8 (piece l 11 2) = R := ⟨_, rfl⟩
  have bR : R < 65536 := by rw [← hR]; exact co (b := l) (p := 11) (k := 2) (by omega)
  obtain ⟨E, hE⟩ : ∃ E : Nat, val 8 (piece l 13 1) = E := ⟨_, rfl⟩
  have bE : E < 256 := by rw [← hE]; exact co (b := l) (p := 13) (k := 1) (by omega)
  obtain ⟨C, hC⟩ : ∃ C : Nat, val 8 (piece l 18 2) = C := ⟨_, rfl⟩
  have bC : C < 65536 := by rw [← hC]; exact co (b := l) (p := 18) (k := 2) (by omega)
  obtain ⟨G, hG⟩ : ∃ G : Nat, val 8 (piece l 20 1) = G := ⟨_, rfl⟩
  have bG : G < 256 := by rw [← hG]; exact co (b := l) (p := 20) (k := 1) (by omega)
  obtain ⟨gb, hgb⟩ : ∃ gb, decide (G = 1) = gb := ⟨_, rfl⟩
  have hgg : ((G : Int) == 1) = gb := by rw [← hgb, Bool.eq_iff_iff]; simp; omega
  obtain ⟨st, hst⟩ : ∃ st, bw 2 16 (val 8 (piece l 14 4)) = st := ⟨_, rfl⟩
  have HST := Lib.hid hst
  have HSL : Hid (st.length = 16) := Lib.hid (by rw [← hst, ay])
  have HDEF : Hid (bL l = ⟨I, (E : Nat), ⟨(M : Nat), (T : Nat), (R : Nat), ofSt st, (C : Nat), gb⟩⟩) := Lib.hid (by unfold bL; rw [hI, hM, hT, hR, hE, hC, hG, hgb, hst])
  have HII := Lib.hid hI
  have HMM := Lib.hid hM
  have HTT := Lib.hid hT
  have HRR := Lib.hid hR
  have HEE := Lib.hid hE
  have HCC := Lib.hid hC
  have HGG2 := Lib.hid hG
  have HGG := Lib.hid hgg
  clear hI hM hT hR hE hC hG hgb hst hl hr hgg
  go_enter Tryz.func116, Tryz.ntmps116
  go_wp2_with (first | (refine af rfl (bq rfl) ?_) | fail)
  refine (onward_any (.slice (some ⟨g, 0, none⟩) 44 44) _ 44 44 rfl _).mono ?_
  rintro e w2 ⟨p, q, rfl, hc, hp0, hq0, hpq, hp1, hq1, hb⟩
  have HW0 := Lib.hid (telW_start HR.out hb hc (by rw [World.size_alloc] at hp0 hq0; exact ⟨hp0, hq0, hpq, hp1, hq1⟩))
  clear hb hc hp0 hq0 hpq hp1 hq1 HR
  unfold onwV at HW0 ⊢
  go_upto_region 5 with (first | (refine af rfl (bq rfl) ?_) | fail)
  try simp only [World.size_alloc]
  generalize ((w2.alloc (.cells #[Value.func (.func 107) #[] #[.pointer (some ⟨p, 0, none⟩), .pointer (some ⟨q, 0, none⟩)]] 144)).alloc (.cells (aZ bD).toArray 128)) = w3 at *
  try simp only [World.size_alloc]
  generalize w2.heap.size = nb at *
  obtain ⟨B, hBdef⟩ : ∃ B, w.heap.size = B := ⟨_, rfl⟩
  have HBD := Lib.hid hBdef
  rw [hBdef] at HW0 ⊢
  clear hBdef
  have HSN : Hid (nb + 1 ≠ nb) := Lib.hid (by omega)
  obtain ⟨s, hs⟩ : ∃ s, nb + 1 = s := ⟨_, rfl⟩
  rw [hs] at HW0 ⊢
  clear hs
  have HB0 : Hid (B ≤ w.heap.size) := Lib.hid (Nat.le_of_eq HBD.out.symm)
  go_wp2_with fail
  refine (tell1 B w _ g l s B nb p q 0 8 _ HW0.out HB0.out HL.out (by omega) (by omega) (by omega)).mono ?_
  rintro e w4 ⟨rfl, hW⟩
  rw [HII.out]
  have HV0 := Lib.hid hW
  have cc := HV0.out.sup.cells.1
  have ff := HV0.out.sup.free 0
  clear hW
  have HW1 : Hid (TelW B w (w4.setCell ⟨s, 0, none⟩ (.int .u64 (I : Nat))) g l s B nb p q 8 ⟨I, 0, ⟨0, 0, 0, bh.st, 0, false⟩⟩) := Lib.hid (HV0.out.set 0 _ (setS_id _ _) HB0.out)
  clear HV0
  go_wp2_with fail
  refine (tell1 B w _ g l s B nb p q 8 1 _ HW1.out HB0.out HL.out (by omega) (by omega) (by omega)).mono ?_
  rintro e w5 ⟨rfl, hW⟩
  rw [HMM.out]
  have HV1 := Lib.hid hW
  have cc := HV1.out.sup.cells.2.2.1
  have ff := HV1.out.sup.free 2
  clear hW HW1
  have HW2 : Hid (TelW B w (w5.setCell ⟨s, 2, none⟩ (.int .i64 (M : Nat))) g l s B nb p q 9 ⟨I, 0, ⟨(M : Nat), 0, 0, bh.st, 0, false⟩⟩) := Lib.hid (HV1.out.set 2 _ (setS_m _ _) HB0.out)
  clear HV1
  go_wp2_with fail
  refine (tell1 B w _ g l s B nb p q 9 2 _ HW2.out HB0.out HL.out (by omega) (by omega) (by omega)).mono ?_
  rintro e w6 ⟨rfl, hW⟩
  rw [HTT.out]
  have HV2 := Lib.hid hW
  have cc := HV2.out.sup.cells.2.2.2.1
  have ff := HV2.out.sup.free 3
  clear hW HW2
  have HW3 : Hid (TelW B w (w6.setCell ⟨s, 3, none⟩ (.int .i64 (T : Nat))) g l s B nb p q 11 ⟨I, 0, ⟨(M : Nat), (T : Nat), 0, bh.st, 0, false⟩⟩) := Lib.hid (HV2.out.set 3 _ (setS_s _ _) HB0.out)
  clear HV2
  go_wp2_with fail
  refine (tell1 B w _ g l s B nb p q 11 2 _ HW3.out HB0.out HL.out (by omega) (by omega) (by omega)).mono ?_
  rintro e w7 ⟨rfl, hW⟩
  rw [HRR.out]
  have HV3 := Lib.hid hW
  have cc := HV3.out.sup.cells.2.2.2.2.1
  have ff := HV3.out.sup.free 4
  clear hW HW3
  have HW4 : Hid (TelW B w (w7.setCell ⟨s, 4, none⟩ (.int .i64 (R : Nat))) g l s B nb p q 13 ⟨I, 0, ⟨(M : Nat), (T : Nat), (R : Nat), bh.st, 0, false⟩⟩) := Lib.hid (HV3.out.set 4 _ (setS_r _ _) HB0.out)
  clear HV3
  go_wp2_with fail
  refine (tell1 B w _ g l s B nb p q 13 1 _ HW4.out HB0.out HL.out (by omega) (by omega) (by omega)).mono ?_
  rintro e w8 ⟨rfl, hW⟩
  rw [HEE.out]
  have HV4 := Lib.hid hW
  have cc := HV4.out.sup.cells.2.1
  have ff := HV4.out.sup.free 1
  clear hW HW4
  have HW5 : Hid (TelW B w (w8.setCell ⟨s, 1, none⟩ (.int .i64 (E : Nat))) g l s B nb p q 14 ⟨I, (E : Nat), ⟨(M : Nat), (T : Nat), (R : Nat), bh.st, 0, false⟩⟩) := Lib.hid (HV4.out.set 1 _ (setS_self _ _) HB0.out)
  clear HV4
  have n0 := (cell1 HW5.out.nxt).1
  unfold onwV at n0
  go_wp2_with fail
  refine (onw1 p q g 0 44 44 14 4 _ HW5.out.cut HW5.out.dif.2.2.2.2.1 (by omega) (by omega) (Nat.le_refl _) (by omega)).mono ?_
  rintro e w9 ⟨rfl, hc, hg⟩
  have HV5 := Lib.hid (HW5.out.step hc hg HB0.out)
  clear hc hg n0 HW5 cc ff
  have HRD := Lib.hid (HV5.out.row.rd (p := 14) (k := 4) (by rw [HL.out]; omega))
  go_wp2_with fail
  refine (unbits_ok _ 4 4 _ 2 16 _ (piece l 14 4) w9 (Lib.hid rfl) HRD.out (Nat.le_refl _) (by omega) (by omega) (by omega) (by omega) (by decide)).mono ?_
  rintro e w10 ⟨v, rfl, hv, hb⟩
  rw [HST.out] at hv
  have hvm := hv.made
  obtain ⟨A, c, rfl, hrd, _, _⟩ := hvm.open_ HSL.out
  have HV6 := Lib.hid (HV5.out.keep hb HB0.out)
  have HRD2 := Lib.hid hrd
  clear hv hvm hrd hb HRD HV5
  go_wp2_with (first | (refine af rfl (exec_all16 rfl rfl) ?_) | (refine wpList_copyC rfl _ _ rfl s 5 16 16 c _ A 128 (aZ _) st rfl rfl HV6.out.sup HRD2.out (by omega) ?_ ?_) | fail)
  · rw [aN]; omega
  intro w11 hs11 hg11
  rw [splS_st _ HSL.out] at hs11
  have HW6 : Hid (TelW B w w11 g l s B nb p q 18 ⟨I, (E : Nat), ⟨(M : Nat), (T : Nat), (R : Nat), ofSt st, 0, false⟩⟩) := Lib.hid (HV6.out.put hs11 hg11 HB0.out)
  clear hs11 hg11 HV6 HRD2
  go_wp2_with fail
  refine (tell1 B w _ g l s B nb p q 18 2 _ HW6.out HB0.out HL.out (by omega) (by omega) (by omega)).mono ?_
  rintro e w12 ⟨rfl, hW⟩
  rw [HCC.out]
  have HV6 := Lib.hid hW
  have cc := HV6.out.sup.cells.2.2.2.2.2.1
  have ff := HV6.out.sup.free 21
  clear hW HW6
  have HW7 : Hid (TelW B w (w12.setCell ⟨s, 21, none⟩ (.int .i64 (C : Nat))) g l s B nb p q 20 ⟨I, (E : Nat), ⟨(M : Nat), (T : Nat), (R : Nat), ofSt st, (C : Nat), false⟩⟩) := Lib.hid (HV6.out.set 21 _ (setS_cur _ _) HB0.out)
  clear HV6
  go_wp2_with fail
  refine (tell1 B w _ g l s B nb p q 20 1 _ HW7.out HB0.out HL.out (by omega) (by omega) (by omega)).mono ?_
  rintro e w13 ⟨rfl, hW⟩
  rw [HGG2.out]
  have HV7 := Lib.hid hW
  clear hW HW7 cc ff
  have cc := HV7.out.sup.cells.2.2.2.2.2.2
  have ff := HV7.out.sup.free 22
  have HW8 : Hid (TelW B w (w13.setCell ⟨s, 22, none⟩ (.bool gb)) g l s B nb p q 21 ⟨I, (E : Nat), ⟨(M : Nat), (T : Nat), (R : Nat), ofSt st, (C : Nat), gb⟩⟩) := Lib.hid (HV7.out.set 22 _ (setS_gone _ _) HB0.out)
  rw [← HDEF.out] at HW8
  have hgg := HGG.out
  clear HV7
  have HLS := Lib.hid HW8.out.sup.range
  have HTH := Lib.hid (cI (o := 0) (n := 23) HW8.out.res (by rw [aN]; exact Nat.le_refl _))
  have HBB := Lib.hid HW8.out.bel
  go_upto_region 14 with fail
  generalize w13.setCell ⟨s, 22, none⟩ (.bool gb) = w14 at *
  clear cc ff
  go_wp2_with (first | (refine af rfl (cn (c := bL l) rfl rfl ?_) ?_; (with_reducible exact HLS.out)) | (refine av rfl (cN rfl rfl rfl ?_) ?_; (with_reducible exact HTH.out)) | fail)
  refine bodyPost_ret (res_rng (t := 128) (cs := aZ (bL l)) rfl _ _ B rfl ?h1 Tryz.underlying128 rfl ?h2) rfl ⟨rfl, ?h3⟩
  case h1 => exact World.rangeAt_setCells_same _ _ _ _ (by rw [aN]; exact HTH.out)
  case h2 => rw [aN]; exact sizeS
  case h3 => rw [HBD.out]; exact below_setCells HBB.out (Nat.le_refl _) _
theorem exec_fill44 {ρ : Operand → Value} {o : Oper} {x y : Operand} {w : World} {l : List UInt8} (hl : l.length = 44) (ho : o.op = .store 138 x y) (hx : ρ x = .pointer (some ⟨w.heap.size, 0, none⟩)) (hy : ρ y = arr l) :
    (execOp ρ o).run Tryz.prog (w.alloc (.cells (vals z44).toArray 138)) = .ok .skip (w.alloc (.cells (vals l).toArray 138)) :=
  exec_filT (by rw [aS, hl]; exact size44) (by rw [aS, aS, hl, z44_length]) (vals_one l) ho hx hy
theorem pevent_b (n : Nat) (w : World) {b : Bool} (h : evB n = b) : Calls Tryz.prog 89 #[.int .u64 n] w fun e w' => e = .returned (.bool b) ∧ Below w.heap.size w w' := by
  subst h
  exact (pevent n w).mono fun e w' ⟨he, hw⟩ => ⟨he, hw ▸ Below.refl _ _⟩
theorem psmay_b (x : Sup) (w : World) {b : Bool} (h : supB x = b) : Calls Tryz.prog 90 #[sup x] w fun e w' => e = .returned (.bool b) ∧ Below w.heap.size w w' := by
  subst h
  exact psmay x w
set_option maxHeartbeats 1000000 in
theorem psput (n : Nat) (x : Sup) (w : World) (T : Tab w) (hn : n < 18446744073709551616) (hid : x.id < 18446744073709551616) :
    Calls Tryz.prog 86 #[.int .u64 n, sup x] w fun e w' => e = .returned (.tuple #[blk (sputB n x), .int .i64 (sputE n x : Nat)]) ∧ Below w.heap.size w w' := by
  obtain ⟨h1, h2, h3⟩ := boxS_new w x
  have HS := Lib.hid (h1.past (.cells (cel al).toArray 38))
  have HB := Lib.hid (h2.alloc h2.size (.cells (cel al).toArray 38))
  have HT := Lib.hid T
  have HN := Lib.hid hn
  have HI := Lib.hid hid
  have HR : Hid (((w.alloc (.cells (aZ x).toArray 128)).alloc (.cells (cel al).toArray 38)).there (w.heap.size + 1) 0 64) := Lib.hid (by
    have := dl (w.alloc (.cells (aZ x).toArray 128)) al 38
    rwa [World.size_alloc] at this)
  have HZ : Hid (w.heap.size + 1 < ((w.alloc (.cells (aZ x).toArray 128)).alloc (.cells (cel al).toArray 38)).heap.size) := Lib.hid (by simp only [World.size_alloc]; omega)
  clear h1 h2 h3 T hn hid
  go_enter Tryz.func86, Tryz.ntmps86
  go_wp2_with (first | (refine af rfl (exec_boxS rfl rfl) ?_) | (refine af rfl (aU rfl) ?_) | fail)
  try simp only [World.size_alloc]
  generalize (w.alloc (.cells (aZ x).toArray 128)).alloc (.cells (cel al).toArray 38) = w1 at *
  refine (pevent n w1).mono ?_
  rintro e w' ⟨rfl, rfl⟩
  by_cases hev : evB n = true
  · rw [hev]
    have HEV := Lib.hid hev
    clear hev
    go_wp2_with (first | (refine ah (by rfl) (cn (c := x) rfl rfl ?_) ?_; (with_reducible exact HS.out.range)) | fail)
    refine (psmay x w1).mono ?_
    rintro e w2 ⟨rfl, hb⟩
    have HS2 := Lib.hid (HS.out.below (aH HS.out) hb)
    have HB2 := Lib.hid (HB.out.trans (hb.mono HB.out.size))
    have HR2 := Lib.hid (bg HR.out HZ.out hb)
    have HZ2 : Hid (w.heap.size + 1 < w2.heap.size) := Lib.hid (by have := hb.size; have := HZ.out; omega)
    clear hb HS HB HR HZ
    by_cases hm : supB x = true
    · rw [hm]
      have HM := Lib.hid hm
      clear hm
      go_wp2_with (first | (refine af rfl (cn (c := x) rfl rfl ?_) ?_; (with_reducible exact HS2.out.range)) | fail)
      refine (plaid x w2 HI.out HM.out).mono ?_
      rintro e w3 ⟨rfl, hb⟩
      have hb3 := HB2.out.trans (hb.mono HB2.out.size)
      have HB3 := Lib.hid (hb3.alloc hb3.size (.cells (vals (cC x)).toArray 138))
      have HR3 := Lib.hid (bg HR2.out HZ2.out (hb.alloc hb.size (.cells (vals (cC x)).toArray 138)))
      have hrd := (bJ.new w3 (cC x) 138).rd (p := 0) (k := 44) (by rw [cf]; omega)
      rw [piece_all (cf x)] at hrd
      have HRD := Lib.hid hrd
      have HFL := Lib.hid (cf x)
      have HZ3 : Hid (w.heap.size + 1 < (w3.alloc (.cells (vals (cC x)).toArray 138)).heap.size) := Lib.hid (by have := hb.size; have := HZ2.out; simp only [World.size_alloc]; omega)
      clear hb hb3 hrd HS2 HB2 HR2 HZ2
      go_wp2_with (first | (refine af rfl (exec_alloc44 rfl) ?_) | (refine av rfl (exec_fill44 (l := cC x) HFL.out rfl rfl rfl) ?_) | (refine af rfl (exec_all44 rfl rfl) ?_) | fail)
      generalize hw4 : w3.alloc (.cells (vals (cC x)).toArray 138) = w4 at *
      refine (put_all n 44 44 _ _ (cC x) w4 (HT.out.below HB3.out) HN.out HRD.out (Nat.le_refl _) (by unfold maxLen; omega)).mono ?_
      rintro e w5 ⟨rfl, hb⟩
      rw [putB_full, putE_full, body_putE x HEV.out]
      have HR5 := Lib.hid (bg HR3.out HZ3.out hb)
      have HB5 := Lib.hid (HB3.out.trans (hb.mono HB3.out.size))
      have HPB := Lib.hid (sputB_ok HEV.out HM.out)
      have HPE := Lib.hid (sputE_ok HEV.out HM.out)
      clear hb hw4 HRD HR3 HZ3 HB3
      generalize putB n (bodyL x) = pb at *
      go_wp2_with (first | (refine av rfl (aP (c := pb) rfl rfl rfl ?_) ?_; (with_reducible exact HR5.out)) | fail)
      refine bodyPost_ret (ch rfl _ _ _ rfl (World.rangeAt_setCells_same _ _ _ _ (by rw [aw]; exact HR5.out))) rfl ⟨by rw [HPB.out, HPE.out]; rfl, below_setCells HB5.out (Nat.le_succ _) _⟩
    · have hm' : supB x = false := by simpa using hm
      have HPB := Lib.hid (sputB_no (n := n) (x := x) (fun h => hm h.2))
      have HPE := Lib.hid (sputE_no (n := n) (x := x) (fun h => hm h.2))
      rw [hm']
      clear hm hm'
      go_wp2_with (first | (refine af rfl (cR (c := al) (parts := []) rfl rfl) ?_) | (refine av rfl (aP (c := al) rfl rfl rfl ?_) ?_; (with_reducible exact HR2.out)) | fail)
      refine bodyPost_ret (ch rfl _ _ _ rfl (World.rangeAt_setCells_same _ _ _ _ (by rw [aw]; exact HR2.out))) rfl ⟨by rw [HPB.out, HPE.out]; rfl, below_setCells HB2.out (Nat.le_succ _) _⟩
  · have hev' : evB n = false := by simpa using hev
    have HPB := Lib.hid (sputB_no (n := n) (x := x) (fun h => hev h.1))
    have HPE := Lib.hid (sputE_no (n := n) (x := x) (fun h => hev h.1))
    rw [hev']
    clear hev hev'
    go_wp2_with (first | (refine af rfl (cR (c := al) (parts := []) rfl rfl) ?_) | (refine av rfl (aP (c := al) rfl rfl rfl ?_) ?_; (with_reducible exact HR.out)) | fail)
    refine bodyPost_ret (ch rfl _ _ _ rfl (World.rangeAt_setCells_same _ _ _ _ (by rw [aw]; exact HR.out))) rfl ⟨by rw [HPB.out, HPE.out]; rfl, below_setCells HB.out (Nat.le_succ _) _⟩
section
variable {P : Program} {ops : Array Oper} {C : World → Prop} {Q : Act → Prop} {a : Act} {o : Oper} {rest l : List Oper} {v : Value}
theorem wpQuiet_unw : ∀ (rs : List Oper) (a : Act), unw ops rs a = true → wpQuiet P ops C Q rest (bj rs a) → wpQuiet P ops C Q (rs ++ rest) a
  | [], _, _, h => h
  | r :: rs, a, hu, h => by
    simp only [unw, Bool.and_eq_true, Bool.not_eq_true'] at hu
    exact qv_skip hu.1 (wpQuiet_unw rs _ hu.2 h)
theorem dH (n : Nat) (hw : Region.wanted o (yielded ops a.tmps) = true) (h : ∀ w, C w → (execOp a.eval o).run P w = .ok (.value v) w) (hu : unw ops (l.take n) (a.put o.dst v) = true) (hr : wpQuiet P ops C Q (l.drop n) (bj (l.take n) (a.put o.dst v))) : wpQuiet P ops C Q (o :: l) a :=
  aq hw h (by have := wpQuiet_unw (P := P) (C := C) (Q := Q) (l.take n) _ hu hr; rwa [List.take_append_drop] at this)
end
theorem exec_s2a {ρ : Operand → Value} {o : Oper} {x : Operand} {w : World} {g c : Nat} (ho : o.op = .sliceToArrayPointer 138 x) (hx : ρ x = .slice (some ⟨g, 0, none⟩) 44 c) : (execOp ρ o).run Tryz.prog w = .ok (.value (.pointer (some ⟨g, 0, none⟩))) w := by
  unfold execOp
  simp [ho, hx, Instr.arrayAt, run_underlying Tryz.underlying138]
section
variable (b : Blk) (w : World)
structure SgW (w w3 : World) (b : Blk) (g s : Nat) (l : List UInt8) (y : Sup) : Prop where
  row : bJ w3 g 5 l
  sup : bS w3 s y
  res : w3.there (w.heap.size + 1) 0 23
  bel : Below w.heap.size w w3
  lt : w.heap.size + 1 < w3.heap.size
theorem SgW.keep {w w3 w4 : World} {b : Blk} {g s : Nat} {l : List UInt8} {y : Sup} (h : SgW w w3 b g s l y) (hb : Below w3.heap.size w3 w4) : SgW w w4 b g s l y :=
  ⟨h.row.below h.row.lt hb, h.sup.below (aH h.sup) hb, bg h.res h.lt hb, h.bel.trans (hb.mono h.bel.size), Nat.lt_of_lt_of_le h.lt hb.size⟩
end
set_option maxHeartbeats 1000000 in
theorem psget_seal (b : Blk) (w : World) (T : Tab w) (h : getE b.toList ≠ 0) : Calls Tryz.prog 104 #[blk b] w fun e w' => e = .returned (.tuple #[.int .u64 (0 : Nat), sup bD, .int .i64 (getE b.toList : Nat)]) ∧ Below w.heap.size w w' := by
  obtain ⟨n, hn⟩ : ∃ n, getN b.toList = n := ⟨_, rfl⟩
  obtain ⟨l, hl⟩ : ∃ l, getB b.toList = l := ⟨_, rfl⟩
  have h1 := (Below.refl w.heap.size w).alloc (Nat.le_refl _) (.cells (cel b).toArray 38)
  have h2 := h1.alloc h1.size (.cells (aZ bD).toArray 128)
  have HA : Hid (((w.alloc (.cells (cel b).toArray 38)).alloc (.cells (aZ bD).toArray 128)).rangeAt w.heap.size 0 (cel b)) := Lib.hid (World.rangeAt_alloc (bY w (cel b) 38) _)
  have hsn := bS.new (w.alloc (.cells (cel b).toArray 38)) bD
  rw [World.size_alloc] at hsn
  have HR := Lib.hid (cI (o := 0) (n := 23) hsn (by rw [aN]; exact Nat.le_refl _))
  have HZ := Lib.hid (aH hsn)
  have HB := Lib.hid h2
  have HT := Lib.hid (T.below h2)
  have HN := Lib.hid hn
  have HL := Lib.hid hl
  clear h1 h2 hsn T
  obtain ⟨E, hE⟩ : ∃ E, getE b.toList = E := ⟨_, rfl⟩
  rw [hE] at h
  have HE := Lib.hid hE
  have hne : ((E : Int) != 0) = true := by simp; omega
  clear hE hn hl
  go_enter Tryz.func104, Tryz.ntmps104
  go_wp2_with (first | (refine af rfl (bH rfl rfl) ?_) | (refine af rfl (bq rfl) ?_) | (refine af rfl (aG (c := b) rfl rfl ?_) ?_; (with_reducible exact HA.out)) | fail)
  try simp only [World.size_alloc]
  generalize (w.alloc (.cells (cel b).toArray 38)).alloc (.cells (aZ bD).toArray 128) = w0 at *
  refine (pget_any b _ w0 (Lib.hid rfl) HT.out).mono ?_
  rintro e w1 ⟨v, rfl, hv, hb⟩
  rw [HN.out]
  rw [HE.out]
  have HR1 := Lib.hid (bg HR.out HZ.out hb)
  have HB1 := Lib.hid (HB.out.trans (hb.mono HB.out.size))
  clear hv hb HA HR HB
  go_wp2_with (first | (refine af rfl (exec_bldS rfl) ?_) | (refine av rfl (cN (c := bD) rfl rfl rfl ?_) ?_; (with_reducible exact HR1.out)) | fail)
  refine bodyPost_ret (res_tri (t := 128) (cs := aZ bD) rfl _ _ _ rfl ?h1 Tryz.underlying128 rfl ?h2) rfl ⟨by rw [HE.out]; rfl, ?h3⟩
  case h1 => exact World.rangeAt_setCells_same _ _ _ _ (by rw [aN]; exact HR1.out)
  case h2 => rw [aN]; exact sizeS
  case h3 => exact below_setCells HB1.out (Nat.le_succ _) _
set_option maxHeartbeats 2000000 in
theorem psget_ev (b : Blk) (w : World) (T : Tab w) (h0 : getE b.toList = 0) (hev : evB (getN b.toList) = false) : Calls Tryz.prog 104 #[blk b] w fun e w' => e = .returned (.tuple #[.int .u64 (0 : Nat), sup bD, .int .i64 (5 : Nat)]) ∧ Below w.heap.size w w' := by
  obtain ⟨n, hn⟩ : ∃ n, getN b.toList = n := ⟨_, rfl⟩
  obtain ⟨l, hl⟩ : ∃ l, getB b.toList = l := ⟨_, rfl⟩
  have h1 := (Below.refl w.heap.size w).alloc (Nat.le_refl _) (.cells (cel b).toArray 38)
  have h2 := h1.alloc h1.size (.cells (aZ bD).toArray 128)
  have HA : Hid (((w.alloc (.cells (cel b).toArray 38)).alloc (.cells (aZ bD).toArray 128)).rangeAt w.heap.size 0 (cel b)) := Lib.hid (World.rangeAt_alloc (bY w (cel b) 38) _)
  have hsn := bS.new (w.alloc (.cells (cel b).toArray 38)) bD
  rw [World.size_alloc] at hsn
  have HR := Lib.hid (cI (o := 0) (n := 23) hsn (by rw [aN]; exact Nat.le_refl _))
  have HZ := Lib.hid (aH hsn)
  have HB := Lib.hid h2
  have HT := Lib.hid (T.below h2)
  have HN := Lib.hid hn
  have HL := Lib.hid hl
  clear h1 h2 hsn T
  rw [hn] at hev
  have HEV := Lib.hid hev
  clear hev
  clear hn hl
  go_enter Tryz.func104, Tryz.ntmps104
  go_wp2_with (first | (refine af rfl (bH rfl rfl) ?_) | (refine af rfl (bq rfl) ?_) | (refine af rfl (aG (c := b) rfl rfl ?_) ?_; (with_reducible exact HA.out)) | fail)
  try simp only [World.size_alloc]
  generalize (w.alloc (.cells (cel b).toArray 38)).alloc (.cells (aZ bD).toArray 128) = w0 at *
  refine (pget_any b _ w0 (Lib.hid rfl) HT.out).mono ?_
  rintro e w1 ⟨v, rfl, hv, hb⟩
  rw [HN.out]
  rw [h0]
  have hll : l.length = 44 := by rw [← HL.out]; exact getB_len h0
  have HLL := Lib.hid hll
  rw [HL.out] at hv
  obtain ⟨g, hve, hrow⟩ : ∃ g, v = .slice (some ⟨g, 0, none⟩) 44 44 ∧ bJ w1 g 5 l := by
    rcases hv with ⟨_, rfl⟩ | ⟨g, e, _, hr, _⟩
    · simp at hll
    · rw [hll] at e; exact ⟨g, e, hr⟩
  subst hve
  have HR1 := Lib.hid (bg HR.out HZ.out hb)
  have HB1 := Lib.hid (HB.out.trans (hb.mono HB.out.size))
  have HZ1 : Hid (w.heap.size + 1 < w1.heap.size) := Lib.hid (Nat.lt_of_lt_of_le HZ.out hb.size)
  have HRW := Lib.hid hrow
  clear hv hb HA HR HB HZ hll h0 hrow
  go_wp2_with fail
  refine (ptold g l w1 HLL.out HRW.out).mono ?_
  rintro e w2 ⟨rfl, hb⟩
  have hb3 := hb.alloc hb.size (.cells (aZ (bL l)).toArray 128)
  have HW3 : Hid (SgW w (w2.alloc (.cells (aZ (bL l)).toArray 128)) b g w2.heap.size l (bL l)) := Lib.hid ⟨HRW.out.below HRW.out.lt hb3, bS.new w2 _, bg HR1.out HZ1.out hb3, HB1.out.trans (hb3.mono HB1.out.size), Nat.lt_of_lt_of_le HZ1.out hb3.size⟩
  have HI : Hid ((bL l).id < 18446744073709551616) := Lib.hid (told_id_lt (by rw [HLL.out]; omega))
  clear hb hb3 HRW HR1 HB1 HZ1
  obtain ⟨y, hy⟩ : ∃ y, bL l = y := ⟨_, rfl⟩
  have HY := Lib.hid hy
  rw [hy] at HW3 HI
  rw [hy]
  clear hy
  have HFL := Lib.hid (cf y)
  go_upto_region 5 with (first | (refine af rfl (bq rfl) ?_) | (refine av rfl (cG rfl rfl rfl) ?_) | fail)
  generalize w2.alloc (.cells (aZ y).toArray 128) = w3 at *
  have HS3 := Lib.hid HW3.out.sup
  have HR3 := Lib.hid HW3.out.row
  generalize w2.heap.size = s at *
  refine aC (B := w3.heap.size) (by kernel_rfl) ?_
  refine aq rfl (fun w' hw => ag rfl (ev rfl)) ?_
  simp only [Act.put, aa, ac, ae]
  refine bn rfl (fun _ => ap Tryz.call89 rfl (evc (ev rfl) evn)) (bc (Nat.le_refl _) fun w' hw => pevent_b n w' HEV.out) ?_
  simp only [Act.put, aa, ac, ae]
  refine aq (v := .bool true) rfl (fun w' hw => aA false rfl (ev rfl)) ?_
  simp only [Act.put, aa, ac, ae]
  refine dH 3 (v := .bool true) rfl (fun w' hw => ag rfl (ev rfl)) (by kernel_rfl) ?_
  simp only [bj, List.take_succ_cons, List.take_zero, List.drop_succ_cons, List.drop_zero, Act.put, List.setIfInBounds_toArray, List.set_cons_succ, List.set_cons_zero]
  refine aq (v := .bool true) rfl (fun w' hw => aJ rfl (ev rfl) evk) ?_
  simp only [Act.put, aa, ac, ae]
  refine dH 6 (v := .bool true) rfl (fun w' hw => ag rfl (ev rfl)) (by kernel_rfl) ?_
  simp only [bj, List.take_succ_cons, List.take_zero, List.drop_succ_cons, List.drop_zero, Act.put, List.setIfInBounds_toArray, List.set_cons_succ, List.set_cons_zero]
  refine aq (v := .bool true) rfl (fun w' hw => aJ rfl (ev rfl) evk) ?_
  simp only [Act.put, aa, ac, ae]
  refine wpQuiet_nil ?_
  intro w4 hw
  have HW4 := Lib.hid (HW3.out.keep hw)
  have HR4 := Lib.hid HW4.out.res
  have HB4 := Lib.hid HW4.out.bel
  clear HW3 HS3 HR3 hw
  go_wp2_with (first | (refine af rfl (exec_bldS rfl) ?_) | (refine av rfl (cN (c := bD) rfl rfl rfl ?_) ?_; (with_reducible exact HR4.out)) | fail)
  refine bodyPost_ret (res_tri (t := 128) (cs := aZ bD) rfl _ _ _ rfl ?h1 Tryz.underlying128 rfl ?h2) rfl ⟨rfl, ?h3⟩
  case h1 => exact World.rangeAt_setCells_same _ _ _ _ (by rw [aN]; exact HR4.out)
  case h2 => rw [aN]; exact sizeS
  case h3 => exact below_setCells HB4.out (Nat.le_succ _) _
set_option maxHeartbeats 2000000 in
theorem psget_may (b : Blk) (w : World) (T : Tab w) (h0 : getE b.toList = 0) (hev : evB (getN b.toList) = true) (hm : supB (bL (getB b.toList)) = false) : Calls Tryz.prog 104 #[blk b] w fun e w' => e = .returned (.tuple #[.int .u64 (0 : Nat), sup bD, .int .i64 (5 : Nat)]) ∧ Below w.heap.size w w' := by
  obtain ⟨n, hn⟩ : ∃ n, getN b.toList = n := ⟨_, rfl⟩
  obtain ⟨l, hl⟩ : ∃ l, getB b.toList = l := ⟨_, rfl⟩
  have h1 := (Below.refl w.heap.size w).alloc (Nat.le_refl _) (.cells (cel b).toArray 38)
  have h2 := h1.alloc h1.size (.cells (aZ bD).toArray 128)
  have HA : Hid (((w.alloc (.cells (cel b).toArray 38)).alloc (.cells (aZ bD).toArray 128)).rangeAt w.heap.size 0 (cel b)) := Lib.hid (World.rangeAt_alloc (bY w (cel b) 38) _)
  have hsn := bS.new (w.alloc (.cells (cel b).toArray 38)) bD
  rw [World.size_alloc] at hsn
  have HR := Lib.hid (cI (o := 0) (n := 23) hsn (by rw [aN]; exact Nat.le_refl _))
  have HZ := Lib.hid (aH hsn)
  have HB := Lib.hid h2
  have HT := Lib.hid (T.below h2)
  have HN := Lib.hid hn
  have HL := Lib.hid hl
  clear h1 h2 hsn T
  rw [hn] at hev
  rw [hl] at hm
  have HEV := Lib.hid hev
  have HM0 := Lib.hid hm
  clear hev hm
  clear hn hl
  go_enter Tryz.func104, Tryz.ntmps104
  go_wp2_with (first | (refine af rfl (bH rfl rfl) ?_) | (refine af rfl (bq rfl) ?_) | (refine af rfl (aG (c := b) rfl rfl ?_) ?_; (with_reducible exact HA.out)) | fail)
  try simp only [World.size_alloc]
  generalize (w.alloc (.cells (cel b).toArray 38)).alloc (.cells (aZ bD).toArray 128) = w0 at *
  refine (pget_any b _ w0 (Lib.hid rfl) HT.out).mono ?_
  rintro e w1 ⟨v, rfl, hv, hb⟩
  rw [HN.out]
  rw [h0]
  have hll : l.length = 44 := by rw [← HL.out]; exact getB_len h0
  have HLL := Lib.hid hll
  rw [HL.out] at hv
  obtain ⟨g, hve, hrow⟩ : ∃ g, v = .slice (some ⟨g, 0, none⟩) 44 44 ∧ bJ w1 g 5 l := by
    rcases hv with ⟨_, rfl⟩ | ⟨g, e, _, hr, _⟩
    · simp at hll
    · rw [hll] at e; exact ⟨g, e, hr⟩
  subst hve
  have HR1 := Lib.hid (bg HR.out HZ.out hb)
  have HB1 := Lib.hid (HB.out.trans (hb.mono HB.out.size))
  have HZ1 : Hid (w.heap.size + 1 < w1.heap.size) := Lib.hid (Nat.lt_of_lt_of_le HZ.out hb.size)
  have HRW := Lib.hid hrow
  clear hv hb HA HR HB HZ hll h0 hrow
  go_wp2_with fail
  refine (ptold g l w1 HLL.out HRW.out).mono ?_
  rintro e w2 ⟨rfl, hb⟩
  have hb3 := hb.alloc hb.size (.cells (aZ (bL l)).toArray 128)
  have HW3 : Hid (SgW w (w2.alloc (.cells (aZ (bL l)).toArray 128)) b g w2.heap.size l (bL l)) := Lib.hid ⟨HRW.out.below HRW.out.lt hb3, bS.new w2 _, bg HR1.out HZ1.out hb3, HB1.out.trans (hb3.mono HB1.out.size), Nat.lt_of_lt_of_le HZ1.out hb3.size⟩
  have HI : Hid ((bL l).id < 18446744073709551616) := Lib.hid (told_id_lt (by rw [HLL.out]; omega))
  clear hb hb3 HRW HR1 HB1 HZ1
  obtain ⟨y, hy⟩ : ∃ y, bL l = y := ⟨_, rfl⟩
  have HY := Lib.hid hy
  rw [hy] at HW3 HI HM0
  have HM := HM0
  rw [hy]
  clear hy
  have HFL := Lib.hid (cf y)
  go_upto_region 5 with (first | (refine af rfl (bq rfl) ?_) | (refine av rfl (cG rfl rfl rfl) ?_) | fail)
  generalize w2.alloc (.cells (aZ y).toArray 128) = w3 at *
  have HS3 := Lib.hid HW3.out.sup
  have HR3 := Lib.hid HW3.out.row
  generalize w2.heap.size = s at *
  refine aC (B := w3.heap.size) (by kernel_rfl) ?_
  refine aq rfl (fun w' hw => ag rfl (ev rfl)) ?_
  simp only [Act.put, aa, ac, ae]
  refine bn rfl (fun _ => ap Tryz.call89 rfl (evc (ev rfl) evn)) (bc (Nat.le_refl _) fun w' hw => pevent_b n w' HEV.out) ?_
  simp only [Act.put, aa, ac, ae]
  refine aq (v := .bool false) rfl (fun w' hw => aA true rfl (ev rfl)) ?_
  simp only [Act.put, aa, ac, ae]
  refine aq (v := .bool false) rfl (fun w' hw => ag rfl (ev rfl)) ?_
  simp only [Act.put, aa, ac, ae]
  refine aq (ai rfl rfl rfl rfl) (fun w' hw => cn (c := y) rfl (ev rfl) ((HS3.out.below (aH HS3.out) hw).range)) ?_
  simp only [Act.put, aa, ac, ae]
  refine bn (ai rfl rfl rfl rfl) (fun _ => ap Tryz.call90 rfl (evc (ev rfl) evn)) (bc (Nat.le_refl _) fun w' hw => psmay_b y w' HM.out) ?_
  simp only [Act.put, aa, ac, ae]
  refine aq (v := .bool true) (ai rfl rfl rfl rfl) (fun w' hw => aA false rfl (ev rfl)) ?_
  simp only [Act.put, aa, ac, ae]
  refine aq (v := .bool true) rfl (fun w' hw => aM rfl (ev rfl) (ev rfl)) ?_
  simp only [Act.put, aa, ac, ae]
  refine dH 6 (v := .bool true) rfl (fun w' hw => ag rfl (ev rfl)) (by kernel_rfl) ?_
  simp only [bj, List.take_succ_cons, List.take_zero, List.drop_succ_cons, List.drop_zero, Act.put, List.setIfInBounds_toArray, List.set_cons_succ, List.set_cons_zero]
  refine aq (v := .bool true) rfl (fun w' hw => aJ rfl (ev rfl) evk) ?_
  simp only [Act.put, aa, ac, ae]
  refine wpQuiet_nil ?_
  intro w4 hw
  have HW4 := Lib.hid (HW3.out.keep hw)
  have HR4 := Lib.hid HW4.out.res
  have HB4 := Lib.hid HW4.out.bel
  clear HW3 HS3 HR3 hw
  go_wp2_with (first | (refine af rfl (exec_bldS rfl) ?_) | (refine av rfl (cN (c := bD) rfl rfl rfl ?_) ?_; (with_reducible exact HR4.out)) | fail)
  refine bodyPost_ret (res_tri (t := 128) (cs := aZ bD) rfl _ _ _ rfl ?h1 Tryz.underlying128 rfl ?h2) rfl ⟨rfl, ?h3⟩
  case h1 => exact World.rangeAt_setCells_same _ _ _ _ (by rw [aN]; exact HR4.out)
  case h2 => rw [aN]; exact sizeS
  case h3 => exact below_setCells HB4.out (Nat.le_succ _) _
set_option maxHeartbeats 2000000 in
theorem psget_un (b : Blk) (w : World) (T : Tab w) (h0 : getE b.toList = 0) (hev : evB (getN b.toList) = true) (hm : supB (bL (getB b.toList)) = true) (hd : cC (bL (getB b.toList)) ≠ getB b.toList) : Calls Tryz.prog 104 #[blk b] w fun e w' => e = .returned (.tuple #[.int .u64 (0 : Nat), sup bD, .int .i64 (5 : Nat)]) ∧ Below w.heap.size w w' := by
  obtain ⟨n, hn⟩ : ∃ n, getN b.toList = n := ⟨_, rfl⟩
  obtain ⟨l, hl⟩ : ∃ l, getB b.toList = l := ⟨_, rfl⟩
  have h1 := (Below.refl w.heap.size w).alloc (Nat.le_refl _) (.cells (cel b).toArray 38)
  have h2 := h1.alloc h1.size (.cells (aZ bD).toArray 128)
  have HA : Hid (((w.alloc (.cells (cel b).toArray 38)).alloc (.cells (aZ bD).toArray 128)).rangeAt w.heap.size 0 (cel b)) := Lib.hid (World.rangeAt_alloc (bY w (cel b) 38) _)
  have hsn := bS.new (w.alloc (.cells (cel b).toArray 38)) bD
  rw [World.size_alloc] at hsn
  have HR := Lib.hid (cI (o := 0) (n := 23) hsn (by rw [aN]; exact Nat.le_refl _))
  have HZ := Lib.hid (aH hsn)
  have HB := Lib.hid h2
  have HT := Lib.hid (T.below h2)
  have HN := Lib.hid hn
  have HL := Lib.hid hl
  clear h1 h2 hsn T
  rw [hn] at hev
  rw [hl] at hm hd
  have HEV := Lib.hid hev
  have HM0 := Lib.hid hm
  have HD0 : Hid (decide (cC (bL l) = l) = false) := Lib.hid (decide_eq_false hd)
  clear hev hm hd
  clear hn hl
  go_enter Tryz.func104, Tryz.ntmps104
  go_wp2_with (first | (refine af rfl (bH rfl rfl) ?_) | (refine af rfl (bq rfl) ?_) | (refine af rfl (aG (c := b) rfl rfl ?_) ?_; (with_reducible exact HA.out)) | fail)
  try simp only [World.size_alloc]
  generalize (w.alloc (.cells (cel b).toArray 38)).alloc (.cells (aZ bD).toArray 128) = w0 at *
  refine (pget_any b _ w0 (Lib.hid rfl) HT.out).mono ?_
  rintro e w1 ⟨v, rfl, hv, hb⟩
  rw [HN.out]
  rw [h0]
  have hll : l.length = 44 := by rw [← HL.out]; exact getB_len h0
  have HLL := Lib.hid hll
  rw [HL.out] at hv
  obtain ⟨g, hve, hrow⟩ : ∃ g, v = .slice (some ⟨g, 0, none⟩) 44 44 ∧ bJ w1 g 5 l := by
    rcases hv with ⟨_, rfl⟩ | ⟨g, e, _, hr, _⟩
    · simp at hll
    · rw [hll] at e; exact ⟨g, e, hr⟩
  subst hve
  have HR1 := Lib.hid (bg HR.out HZ.out hb)
  have HB1 := Lib.hid (HB.out.trans (hb.mono HB.out.size))
  have HZ1 : Hid (w.heap.size + 1 < w1.heap.size) := Lib.hid (Nat.lt_of_lt_of_le HZ.out hb.size)
  have HRW := Lib.hid hrow
  clear hv hb HA HR HB HZ hll h0 hrow
  go_wp2_with fail
  refine (ptold g l w1 HLL.out HRW.out).mono ?_
  rintro e w2 ⟨rfl, hb⟩
  have hb3 := hb.alloc hb.size (.cells (aZ (bL l)).toArray 128)
  have HW3 : Hid (SgW w (w2.alloc (.cells (aZ (bL l)).toArray 128)) b g w2.heap.size l (bL l)) := Lib.hid ⟨HRW.out.below HRW.out.lt hb3, bS.new w2 _, bg HR1.out HZ1.out hb3, HB1.out.trans (hb3.mono HB1.out.size), Nat.lt_of_lt_of_le HZ1.out hb3.size⟩
  have HI : Hid ((bL l).id < 18446744073709551616) := Lib.hid (told_id_lt (by rw [HLL.out]; omega))
  clear hb hb3 HRW HR1 HB1 HZ1
  obtain ⟨y, hy⟩ : ∃ y, bL l = y := ⟨_, rfl⟩
  have HY := Lib.hid hy
  rw [hy] at HW3 HI HM0 HD0
  have HM := HM0
  have HD := HD0
  rw [hy]
  clear hy
  have HFL := Lib.hid (cf y)
  go_upto_region 5 with (first | (refine af rfl (bq rfl) ?_) | (refine av rfl (cG rfl rfl rfl) ?_) | fail)
  generalize w2.alloc (.cells (aZ y).toArray 128) = w3 at *
  have HS3 := Lib.hid HW3.out.sup
  have HR3 := Lib.hid HW3.out.row
  generalize w2.heap.size = s at *
  refine aC (B := w3.heap.size) (by kernel_rfl) ?_
  refine aq rfl (fun w' hw => ag rfl (ev rfl)) ?_
  simp only [Act.put, aa, ac, ae]
  refine bn rfl (fun _ => ap Tryz.call89 rfl (evc (ev rfl) evn)) (bc (Nat.le_refl _) fun w' hw => pevent_b n w' HEV.out) ?_
  simp only [Act.put, aa, ac, ae]
  refine aq (v := .bool false) rfl (fun w' hw => aA true rfl (ev rfl)) ?_
  simp only [Act.put, aa, ac, ae]
  refine aq (v := .bool false) rfl (fun w' hw => ag rfl (ev rfl)) ?_
  simp only [Act.put, aa, ac, ae]
  refine aq (ai rfl rfl rfl rfl) (fun w' hw => cn (c := y) rfl (ev rfl) ((HS3.out.below (aH HS3.out) hw).range)) ?_
  simp only [Act.put, aa, ac, ae]
  refine bn (ai rfl rfl rfl rfl) (fun _ => ap Tryz.call90 rfl (evc (ev rfl) evn)) (bc (Nat.le_refl _) fun w' hw => psmay_b y w' HM.out) ?_
  simp only [Act.put, aa, ac, ae]
  refine aq (v := .bool false) (ai rfl rfl rfl rfl) (fun w' hw => aA true rfl (ev rfl)) ?_
  simp only [Act.put, aa, ac, ae]
  refine aq (v := .bool false) rfl (fun w' hw => aM rfl (ev rfl) (ev rfl)) ?_
  simp only [Act.put, aa, ac, ae]
  refine aq (v := .bool false) rfl (fun w' hw => ag rfl (ev rfl)) ?_
  simp only [Act.put, aa, ac, ae]
  refine aq (ai rfl rfl rfl rfl) (fun w' hw => cn (c := y) rfl (ev rfl) ((HS3.out.below (aH HS3.out) hw).range)) ?_
  simp only [Act.put, aa, ac, ae]
  refine bn (ai rfl rfl rfl rfl) (fun _ => ap Tryz.call91 rfl (evc (ev rfl) evn)) (bc (Nat.le_refl _) fun w' hw => plaid y w' HI.out HM.out) ?_
  simp only [Act.put, aa, ac, ae]
  refine aq (ai rfl rfl rfl rfl) (fun w' hw => ag rfl (ev rfl)) ?_
  simp only [Act.put, aa, ac, ae]
  refine aq (ai rfl rfl rfl rfl) (fun w' hw => exec_s2a rfl (ev rfl)) ?_
  simp only [Act.put, aa, ac, ae]
  refine aq (ai rfl rfl rfl rfl) (fun w' hw => ea HLL.out rfl (ev rfl) (aT (HR3.out.below HR3.out.lt hw))) ?_
  simp only [Act.put, aa, ac, ae]
  refine aq (v := .bool true) (ai rfl rfl rfl rfl) (fun w' hw => exec_ne44 false HFL.out HLL.out rfl (ev rfl) (ev rfl) HD.out) ?_
  simp only [Act.put, aa, ac, ae]
  refine aq (v := .bool true) rfl (fun w' hw => aM rfl (ev rfl) (ev rfl)) ?_
  simp only [Act.put, aa, ac, ae]
  refine wpQuiet_nil ?_
  intro w4 hw
  have HW4 := Lib.hid (HW3.out.keep hw)
  have HR4 := Lib.hid HW4.out.res
  have HB4 := Lib.hid HW4.out.bel
  clear HW3 HS3 HR3 hw
  go_wp2_with (first | (refine af rfl (exec_bldS rfl) ?_) | (refine av rfl (cN (c := bD) rfl rfl rfl ?_) ?_; (with_reducible exact HR4.out)) | fail)
  refine bodyPost_ret (res_tri (t := 128) (cs := aZ bD) rfl _ _ _ rfl ?h1 Tryz.underlying128 rfl ?h2) rfl ⟨rfl, ?h3⟩
  case h1 => exact World.rangeAt_setCells_same _ _ _ _ (by rw [aN]; exact HR4.out)
  case h2 => rw [aN]; exact sizeS
  case h3 => exact below_setCells HB4.out (Nat.le_succ _) _
set_option maxHeartbeats 2000000 in
theorem psget_yes (b : Blk) (w : World) (T : Tab w) (h0 : getE b.toList = 0) (hev : evB (getN b.toList) = true) (hm : supB (bL (getB b.toList)) = true) (hd : cC (bL (getB b.toList)) = getB b.toList) : Calls Tryz.prog 104 #[blk b] w fun e w' => e = .returned (.tuple #[.int .u64 (getN b.toList : Nat), sup (bL (getB b.toList)), .int .i64 (0 : Nat)]) ∧ Below w.heap.size w w' := by
  obtain ⟨n, hn⟩ : ∃ n, getN b.toList = n := ⟨_, rfl⟩
  obtain ⟨l, hl⟩ : ∃ l, getB b.toList = l := ⟨_, rfl⟩
  have h1 := (Below.refl w.heap.size w).alloc (Nat.le_refl _) (.cells (cel b).toArray 38)
  have h2 := h1.alloc h1.size (.cells (aZ bD).toArray 128)
  have HA : Hid (((w.alloc (.cells (cel b).toArray 38)).alloc (.cells (aZ bD).toArray 128)).rangeAt w.heap.size 0 (cel b)) := Lib.hid (World.rangeAt_alloc (bY w (cel b) 38) _)
  have hsn := bS.new (w.alloc (.cells (cel b).toArray 38)) bD
  rw [World.size_alloc] at hsn
  have HR := Lib.hid (cI (o := 0) (n := 23) hsn (by rw [aN]; exact Nat.le_refl _))
  have HZ := Lib.hid (aH hsn)
  have HB := Lib.hid h2
  have HT := Lib.hid (T.below h2)
  have HN := Lib.hid hn
  have HL := Lib.hid hl
  clear h1 h2 hsn T
  rw [hn] at hev
  rw [hl] at hm hd
  have HEV := Lib.hid hev
  have HM0 := Lib.hid hm
  have HD0 : Hid (decide (cC (bL l) = l) = true) := Lib.hid (decide_eq_true hd)
  clear hev hm hd
  clear hn hl
  go_enter Tryz.func104, Tryz.ntmps104
  go_wp2_with (first | (refine af rfl (bH rfl rfl) ?_) | (refine af rfl (bq rfl) ?_) | (refine af rfl (aG (c := b) rfl rfl ?_) ?_; (with_reducible exact HA.out)) | fail)
  try simp only [World.size_alloc]
  generalize (w.alloc (.cells (cel b).toArray 38)).alloc (.cells (aZ bD).toArray 128) = w0 at *
  refine (pget_any b _ w0 (Lib.hid rfl) HT.out).mono ?_
  rintro e w1 ⟨v, rfl, hv, hb⟩
  rw [HN.out]
  rw [h0]
  have hll : l.length = 44 := by rw [← HL.out]; exact getB_len h0
  have HLL := Lib.hid hll
  rw [HL.out] at hv
  obtain ⟨g, hve, hrow⟩ : ∃ g, v = .slice (some ⟨g, 0, none⟩) 44 44 ∧ bJ w1 g 5 l := by
    rcases hv with ⟨_, rfl⟩ | ⟨g, e, _, hr, _⟩
    · simp at hll
    · rw [hll] at e; exact ⟨g, e, hr⟩
  subst hve
  have HR1 := Lib.hid (bg HR.out HZ.out hb)
  have HB1 := Lib.hid (HB.out.trans (hb.mono HB.out.size))
  have HZ1 : Hid (w.heap.size + 1 < w1.heap.size) := Lib.hid (Nat.lt_of_lt_of_le HZ.out hb.size)
  have HRW := Lib.hid hrow
  clear hv hb HA HR HB HZ hll h0 hrow
  go_wp2_with fail
  refine (ptold g l w1 HLL.out HRW.out).mono ?_
  rintro e w2 ⟨rfl, hb⟩
  have hb3 := hb.alloc hb.size (.cells (aZ (bL l)).toArray 128)
  have HW3 : Hid (SgW w (w2.alloc (.cells (aZ (bL l)).toArray 128)) b g w2.heap.size l (bL l)) := Lib.hid ⟨HRW.out.below HRW.out.lt hb3, bS.new w2 _, bg HR1.out HZ1.out hb3, HB1.out.trans (hb3.mono HB1.out.size), Nat.lt_of_lt_of_le HZ1.out hb3.size⟩
  have HI : Hid ((bL l).id < 18446744073709551616) := Lib.hid (told_id_lt (by rw [HLL.out]; omega))
  clear hb hb3 HRW HR1 HB1 HZ1
  obtain ⟨y, hy⟩ : ∃ y, bL l = y := ⟨_, rfl⟩
  have HY := Lib.hid hy
  rw [hy] at HW3 HI HM0 HD0
  have HM := HM0
  have HD := HD0
  rw [hy]
  clear hy
  have HFL := Lib.hid (cf y)
  go_upto_region 5 with (first | (refine af rfl (bq rfl) ?_) | (refine av rfl (cG rfl rfl rfl) ?_) | fail)
  generalize w2.alloc (.cells (aZ y).toArray 128) = w3 at *
  have HS3 := Lib.hid HW3.out.sup
  have HR3 := Lib.hid HW3.out.row
  generalize w2.heap.size = s at *
  refine aC (B := w3.heap.size) (by kernel_rfl) ?_
  refine aq rfl (fun w' hw => ag rfl (ev rfl)) ?_
  simp only [Act.put, aa, ac, ae]
  refine bn rfl (fun _ => ap Tryz.call89 rfl (evc (ev rfl) evn)) (bc (Nat.le_refl _) fun w' hw => pevent_b n w' HEV.out) ?_
  simp only [Act.put, aa, ac, ae]
  refine aq (v := .bool false) rfl (fun w' hw => aA true rfl (ev rfl)) ?_
  simp only [Act.put, aa, ac, ae]
  refine aq (v := .bool false) rfl (fun w' hw => ag rfl (ev rfl)) ?_
  simp only [Act.put, aa, ac, ae]
  refine aq (ai rfl rfl rfl rfl) (fun w' hw => cn (c := y) rfl (ev rfl) ((HS3.out.below (aH HS3.out) hw).range)) ?_
  simp only [Act.put, aa, ac, ae]
  refine bn (ai rfl rfl rfl rfl) (fun _ => ap Tryz.call90 rfl (evc (ev rfl) evn)) (bc (Nat.le_refl _) fun w' hw => psmay_b y w' HM.out) ?_
  simp only [Act.put, aa, ac, ae]
  refine aq (v := .bool false) (ai rfl rfl rfl rfl) (fun w' hw => aA true rfl (ev rfl)) ?_
  simp only [Act.put, aa, ac, ae]
  refine aq (v := .bool false) rfl (fun w' hw => aM rfl (ev rfl) (ev rfl)) ?_
  simp only [Act.put, aa, ac, ae]
  refine aq (v := .bool false) rfl (fun w' hw => ag rfl (ev rfl)) ?_
  simp only [Act.put, aa, ac, ae]
  refine aq (ai rfl rfl rfl rfl) (fun w' hw => cn (c := y) rfl (ev rfl) ((HS3.out.below (aH HS3.out) hw).range)) ?_
  simp only [Act.put, aa, ac, ae]
  refine bn (ai rfl rfl rfl rfl) (fun _ => ap Tryz.call91 rfl (evc (ev rfl) evn)) (bc (Nat.le_refl _) fun w' hw => plaid y w' HI.out HM.out) ?_
  simp only [Act.put, aa, ac, ae]
  refine aq (ai rfl rfl rfl rfl) (fun w' hw => ag rfl (ev rfl)) ?_
  simp only [Act.put, aa, ac, ae]
  refine aq (ai rfl rfl rfl rfl) (fun w' hw => exec_s2a rfl (ev rfl)) ?_
  simp only [Act.put, aa, ac, ae]
  refine aq (ai rfl rfl rfl rfl) (fun w' hw => ea HLL.out rfl (ev rfl) (aT (HR3.out.below HR3.out.lt hw))) ?_
  simp only [Act.put, aa, ac, ae]
  refine aq (v := .bool false) (ai rfl rfl rfl rfl) (fun w' hw => exec_ne44 true HFL.out HLL.out rfl (ev rfl) (ev rfl) HD.out) ?_
  simp only [Act.put, aa, ac, ae]
  refine aq (v := .bool false) rfl (fun w' hw => aM rfl (ev rfl) (ev rfl)) ?_
  simp only [Act.put, aa, ac, ae]
  refine wpQuiet_nil ?_
  intro w4 hw
  have HW4 := Lib.hid (HW3.out.keep hw)
  have HR4 := Lib.hid HW4.out.res
  have HB4 := Lib.hid HW4.out.bel
  have HLD := Lib.hid HW4.out.sup.range
  clear HW3 HS3 HR3 hw
  go_wp2_with fail
  refine wp_region_still_tail 3 (by kernel_rfl) (by kernel_rfl) ?_
  simp only [List.take_succ_cons, List.take_zero, List.drop_succ_cons, List.drop_zero]
  refine az rfl (ag rfl (ev rfl)) ?_
  simp only [Act.put, aa, ac, ae]
  refine az rfl (cn (c := y) rfl (ev rfl) HLD.out) ?_
  simp only [Act.put, aa, ac, ae]
  refine az rfl (aj rfl (ev rfl)) ?_
  simp only [Act.put, aa, ac, ae]
  refine wpStill_nil ?_
  change wpList _ _ _ _ _ (World.drew _)
  refine aX rfl (cN (c := y) rfl (ev rfl) (ev rfl) HR4.out) ?_
  simp only [Act.put, aa, ac, ae]
  refine ah rfl (aj rfl evk) ?_
  simp only [Act.put, aa, ac, ae]
  refine wpList_nil ?_
  go_wp2_with fail
  refine bodyPost_ret (res_tri (t := 128) (cs := aZ y) rfl _ _ _ rfl ?h1 Tryz.underlying128 rfl ?h2) rfl ⟨by rw [HN.out, HL.out, HY.out]; rfl, ?h3⟩
  case h1 => exact World.rangeAt_setCells_same _ _ _ _ (by rw [aN]; exact HR4.out)
  case h2 => rw [aN]; exact sizeS
  case h3 => exact below_setCells (bd HB4.out) (Nat.le_succ _) _
theorem psget (b : Blk) (w : World) (T : Tab w) : Calls Tryz.prog 104 #[blk b] w fun e w' => e = .returned (.tuple #[.int .u64 (gsN b : Nat), sup (gsS b), .int .i64 (gsE b : Nat)]) ∧ Below w.heap.size w w' := by
  by_cases h0 : getE b.toList = 0
  · by_cases hev : evB (getN b.toList) = true
    · by_cases hm : supB (bL (getB b.toList)) = true
      · by_cases hd : cC (bL (getB b.toList)) = getB b.toList
        · have hE := gsE_ok h0 ⟨hev, hm, hd⟩
          rw [gsN_of hE, gsS_of hE, hE]
          exact psget_yes b w T h0 hev hm hd
        · have hE := gsE_form h0 (fun h => hd h.2.2)
          rw [gsN_no (by omega), gsS_no (by omega), hE]
          exact psget_un b w T h0 hev hm hd
      · have hE := gsE_form h0 (fun h => hm h.2.1)
        rw [gsN_no (by omega), gsS_no (by omega), hE]
        exact psget_may b w T h0 hev (by simpa using hm)
    · have hE := gsE_form h0 (fun h => hev h.1)
      rw [gsN_no (by omega), gsS_no (by omega), hE]
      exact psget_ev b w T h0 (by simpa using hev)
  · have hE := gsE_seal h0
    rw [gsN_no (by omega), gsS_no (by omega), hE]
    exact psget_seal b w T h0
def w3_ (w : World) (a b : Blk) : World := ((w.alloc (.cells (cel a).toArray 38)).alloc (.cells (cel b).toArray 38)).alloc (.cells (aZ bD).toArray 128)
theorem three_new (w : World) (a b : Blk) : (w3_ w a b).rangeAt w.heap.size 0 (cel a) ∧ (w3_ w a b).rangeAt (w.heap.size + 1) 0 (cel b) ∧ (w3_ w a b).there (w.heap.size + 1 + 1) 0 23 ∧ Below w.heap.size w (w3_ w a b) ∧ w.heap.size + 1 + 1 < (w3_ w a b).heap.size := by
  unfold w3_
  have e1 := World.size_alloc (w := w) (o := Obj.cells (cel a).toArray 38)
  have e2 := World.size_alloc (w := (w.alloc (.cells (cel a).toArray 38))) (o := Obj.cells (cel b).toArray 38)
  have h3 := bS.new ((w.alloc (.cells (cel a).toArray 38)).alloc (.cells (cel b).toArray 38)) bD
  rw [e2, e1] at h3
  refine ⟨World.rangeAt_alloc (World.rangeAt_alloc (bY w (cel a) _) _) _, ?_, cI (o := 0) (n := 23) h3 (by rw [aN]; exact Nat.le_refl _), ?_, aH h3⟩
  · rw [← e1]; exact World.rangeAt_alloc (bY _ (cel b) _) _
  · exact (((Below.refl _ w).alloc (Nat.le_refl _) _).alloc (by omega) _).alloc (by omega) _
theorem res_tri2 {fn : Func} {p q u : Tmp} {t : TypeId} {cs : List Value} {d : TypeDesc} (h : fn.results = #[.tmp p, .tmp u, .cell q t]) (tmps : Array Value) (w : World) (b : Nat) (hq : tmps.getD q undef = .pointer (some ⟨b, 0, none⟩)) (hr : w.rangeAt b 0 cs) (hu : Tryz.prog.underlying t = some d) (hd : d.isRow = true) (hz : (Tryz.prog.info? t).map (·.size) = some cs.length) :
    (results fn tmps).run Tryz.prog w = .ok (.tuple #[tmps.getD p undef, tmps.getD u undef, .agg cs.toArray]) w := by
  have hl : (loadVar t ⟨b, 0, none⟩).run Tryz.prog w = .ok (.agg cs.toArray) w := run_loadVar_mid (P := Tryz.prog) w b 0 t cs d hr hu hd hz
  have hq' : tmps[q]?.getD undef = .pointer (some ⟨b, 0, none⟩) := by simpa using hq
  simp [results, h, hq', asAddr, hl]
theorem range_same {w : World} {b : Nat} (c : Sup) (h : w.there b 0 23) : (w.setCells b 0 (aZ c)).rangeAt b 0 (aZ c) := World.rangeAt_setCells_same _ _ _ _ (by rw [aN]; exact h)
def nwW (a b : Blk) : Nat := if gsN a < gsN b then 1 else 0
set_option maxHeartbeats 2000000 in
theorem pnewest_b (a b : Blk) (w : World) (T : Tab w) (hlt : gsN a < gsN b) : Calls Tryz.prog 93 #[blk a, blk b] w fun e w' => e = .returned (.tuple #[.int .i64 1, .int .u64 (gsN b : Nat), sup (gsS b)]) ∧ Below w.heap.size w w' := by
  obtain ⟨h1, h2, h3, h4, h5⟩ := three_new w a b
  unfold w3_ at h1 h2 h3 h4 h5
  obtain ⟨x, hx⟩ : ∃ x, gsN a = x := ⟨_, rfl⟩
  obtain ⟨y, hy⟩ : ∃ y, gsN b = y := ⟨_, rfl⟩
  rw [hx, hy] at hlt
  obtain ⟨p, hp⟩ : ∃ p, gsS a = p := ⟨_, rfl⟩
  obtain ⟨q, hq⟩ : ∃ q, gsS b = q := ⟨_, rfl⟩
  have HX := Lib.hid hx
  have HY := Lib.hid hy
  have HP := Lib.hid hp
  have HQ := Lib.hid hq
  have HA := Lib.hid h1
  have HBK := Lib.hid h2
  have HR := Lib.hid h3
  have HB := Lib.hid h4
  have HZ := Lib.hid h5
  have HT := Lib.hid T
  clear h1 h2 h3 h4 h5 T hx hy hp hq
  go_enter Tryz.func93, Tryz.ntmps93
  go_wp2_with (first | (refine af rfl (bH rfl rfl) ?_) | (refine af rfl (bq rfl) ?_) | (refine af rfl (aG (c := a) rfl rfl ?_) ?_; (with_reducible exact HA.out)) | fail)
  try simp only [World.size_alloc]
  generalize ((w.alloc (.cells (cel a).toArray 38)).alloc (.cells (cel b).toArray 38)).alloc (.cells (aZ bD).toArray 128) = w0 at *
  refine (psget a w0 (HT.out.below HB.out)).mono ?_
  rintro e w1 ⟨rfl, hb⟩
  have HBK1 := Lib.hid (World.rangeAt_setCells_apart (cp HBK.out (by have := HZ.out; omega) hb) (w.heap.size + 1 + 1) 0 (aZ (gsS a)) (.inl (by omega)))
  have HR1 := Lib.hid (bg HR.out HZ.out hb)
  have hb1 := HB.out.trans (hb.mono HB.out.size)
  have HB1 := Lib.hid (below_setCells (b := w.heap.size + 1 + 1) (o := 0) hb1 (by omega) (aZ (gsS a)))
  have HPR := Lib.hid (range_same (gsS a) HR1.out)
  have HR2 := Lib.hid (World.there_setCells HR1.out (w.heap.size + 1 + 1) 0 (aZ (gsS a)))
  have HZ1 : Hid (w.heap.size + 1 + 1 < (w1.setCells (w.heap.size + 1 + 1) 0 (aZ (gsS a))).heap.size) := Lib.hid (by rw [size_setCells]; exact Nat.lt_of_lt_of_le HZ.out hb.size)
  rw [HP.out] at HBK1 HB1 HPR HR2 HZ1
  rw [HX.out, HP.out]
  clear hb hb1 HBK HR HB HA HZ
  go_upto_region 2 with (first | (refine av rfl (cN (c := p) rfl rfl rfl ?_) ?_; (with_reducible exact HR1.out)) | fail)
  generalize w1.setCells (w.heap.size + 1 + 1) 0 (aZ p) = w2 at *
  go_wp2_with (first | (refine af rfl (aG (c := b) rfl rfl ?_) ?_; (with_reducible exact HBK1.out)) | fail)
  refine (psget b w2 (HT.out.below HB1.out)).mono ?_
  rintro e w3 ⟨rfl, hb⟩
  have hb3 := hb.alloc hb.size (.cells (aZ (gsS b)).toArray 128)
  have HPR3 := Lib.hid (cp HPR.out HZ1.out hb3)
  have HR3 := Lib.hid (bg HR2.out HZ1.out hb3)
  have HB3 := Lib.hid (HB1.out.trans (hb3.mono HB1.out.size))
  have HQR3 := Lib.hid (bS.new w3 (gsS b)).range
  rw [HQ.out] at HPR3 HR3 HB3 HQR3
  rw [HY.out, HQ.out]
  clear hb hb3 HBK1 HPR HR2 HB1 HR1 HZ1
  have hd : decide ((x : Int) < (y : Int)) = true := by simp; omega
  have hd2 : decide (x < y) = true := by simp; omega
  clear hlt
  go_upto_region 4 with (first | (refine af rfl (bq rfl) ?_) | (refine av rfl (cG rfl rfl rfl) ?_) | fail)
  generalize w3.alloc (.cells (aZ q).toArray 128) = w4 at *
  go_wp2_with fail
  refine wp_region_still_tail 4 (by kernel_rfl) (by kernel_rfl) ?_
  simp only [List.take_succ_cons, List.take_zero, List.drop_succ_cons, List.drop_zero]
  refine az rfl (ag rfl (ev rfl)) ?_
  simp only [Act.put, aa, ac, ae]
  refine az rfl (cn (c := q) rfl (ev rfl) HQR3.out) ?_
  simp only [Act.put, aa, ac, ae]
  refine az rfl (aj rfl evk) ?_
  simp only [Act.put, aa, ac, ae]
  refine az rfl (aj rfl (ev rfl)) ?_
  simp only [Act.put, aa, ac, ae]
  refine wpStill_nil ?_
  change wpList _ _ _ _ _ (World.drew _)
  refine aX rfl (cN (c := q) rfl (ev rfl) (ev rfl) HR3.out) ?_
  simp only [Act.put, aa, ac, ae]
  refine wpList_nil ?_
  go_wp2_with fail
  refine bodyPost_ret (res_tri2 (t := 128) (cs := aZ q) rfl _ _ _ rfl ?h1 Tryz.underlying128 rfl ?h2) rfl ⟨by rw [HY.out, HQ.out]; rfl, ?h3⟩
  case h1 => exact World.rangeAt_setCells_same _ _ _ _ (by rw [aN]; exact HR3.out)
  case h2 => rw [aN]; exact sizeS
  case h3 => exact below_setCells (bd HB3.out) (by omega) _
set_option maxHeartbeats 2000000 in
theorem pnewest_a (a b : Blk) (w : World) (T : Tab w) (hlt : ¬ gsN a < gsN b) : Calls Tryz.prog 93 #[blk a, blk b] w fun e w' => e = .returned (.tuple #[.int .i64 0, .int .u64 (gsN a : Nat), sup (gsS a)]) ∧ Below w.heap.size w w' := by
  obtain ⟨h1, h2, h3, h4, h5⟩ := three_new w a b
  unfold w3_ at h1 h2 h3 h4 h5
  obtain ⟨x, hx⟩ : ∃ x, gsN a = x := ⟨_, rfl⟩
  obtain ⟨y, hy⟩ : ∃ y, gsN b = y := ⟨_, rfl⟩
  rw [hx, hy] at hlt
  obtain ⟨p, hp⟩ : ∃ p, gsS a = p := ⟨_, rfl⟩
  obtain ⟨q, hq⟩ : ∃ q, gsS b = q := ⟨_, rfl⟩
  have HX := Lib.hid hx
  have HY := Lib.hid hy
  have HP := Lib.hid hp
  have HQ := Lib.hid hq
  have HA := Lib.hid h1
  have HBK := Lib.hid h2
  have HR := Lib.hid h3
  have HB := Lib.hid h4
  have HZ := Lib.hid h5
  have HT := Lib.hid T
  clear h1 h2 h3 h4 h5 T hx hy hp hq
  go_enter Tryz.func93, Tryz.ntmps93
  go_wp2_with (first | (refine af rfl (bH rfl rfl) ?_) | (refine af rfl (bq rfl) ?_) | (refine af rfl (aG (c := a) rfl rfl ?_) ?_; (with_reducible exact HA.out)) | fail)
  try simp only [World.size_alloc]
  generalize ((w.alloc (.cells (cel a).toArray 38)).alloc (.cells (cel b).toArray 38)).alloc (.cells (aZ bD).toArray 128) = w0 at *
  refine (psget a w0 (HT.out.below HB.out)).mono ?_
  rintro e w1 ⟨rfl, hb⟩
  have HBK1 := Lib.hid (World.rangeAt_setCells_apart (cp HBK.out (by have := HZ.out; omega) hb) (w.heap.size + 1 + 1) 0 (aZ (gsS a)) (.inl (by omega)))
  have HR1 := Lib.hid (bg HR.out HZ.out hb)
  have hb1 := HB.out.trans (hb.mono HB.out.size)
  have HB1 := Lib.hid (below_setCells (b := w.heap.size + 1 + 1) (o := 0) hb1 (by omega) (aZ (gsS a)))
  have HPR := Lib.hid (range_same (gsS a) HR1.out)
  have HR2 := Lib.hid (World.there_setCells HR1.out (w.heap.size + 1 + 1) 0 (aZ (gsS a)))
  have HZ1 : Hid (w.heap.size + 1 + 1 < (w1.setCells (w.heap.size + 1 + 1) 0 (aZ (gsS a))).heap.size) := Lib.hid (by rw [size_setCells]; exact Nat.lt_of_lt_of_le HZ.out hb.size)
  rw [HP.out] at HBK1 HB1 HPR HR2 HZ1
  rw [HX.out, HP.out]
  clear hb hb1 HBK HR HB HA HZ
  go_upto_region 2 with (first | (refine av rfl (cN (c := p) rfl rfl rfl ?_) ?_; (with_reducible exact HR1.out)) | fail)
  generalize w1.setCells (w.heap.size + 1 + 1) 0 (aZ p) = w2 at *
  go_wp2_with (first | (refine af rfl (aG (c := b) rfl rfl ?_) ?_; (with_reducible exact HBK1.out)) | fail)
  refine (psget b w2 (HT.out.below HB1.out)).mono ?_
  rintro e w3 ⟨rfl, hb⟩
  have hb3 := hb.alloc hb.size (.cells (aZ (gsS b)).toArray 128)
  have HPR3 := Lib.hid (cp HPR.out HZ1.out hb3)
  have HR3 := Lib.hid (bg HR2.out HZ1.out hb3)
  have HB3 := Lib.hid (HB1.out.trans (hb3.mono HB1.out.size))
  have HQR3 := Lib.hid (bS.new w3 (gsS b)).range
  rw [HQ.out] at HPR3 HR3 HB3 HQR3
  rw [HY.out, HQ.out]
  clear hb hb3 HBK1 HPR HR2 HB1 HR1 HZ1
  have hd : decide ((x : Int) < (y : Int)) = false := by simp; omega
  have hd2 : decide (x < y) = false := by simp; omega
  clear hlt
  go_upto_region 5 with (first | (refine af rfl (bq rfl) ?_) | (refine av rfl (cG rfl rfl rfl) ?_) | fail)
  generalize w3.alloc (.cells (aZ q).toArray 128) = w4 at *
  go_wp2_with fail
  refine wp_region_still_tail 4 (by kernel_rfl) (by kernel_rfl) ?_
  simp only [List.take_succ_cons, List.take_zero, List.drop_succ_cons, List.drop_zero]
  refine az rfl (ag rfl (ev rfl)) ?_
  simp only [Act.put, aa, ac, ae]
  refine az rfl (cn (c := p) rfl (ev rfl) HPR3.out) ?_
  simp only [Act.put, aa, ac, ae]
  refine az rfl (aj rfl evk) ?_
  simp only [Act.put, aa, ac, ae]
  refine az rfl (aj rfl (ev rfl)) ?_
  simp only [Act.put, aa, ac, ae]
  refine wpStill_nil ?_
  change wpList _ _ _ _ _ (World.drew _)
  refine aX rfl (cN (c := p) rfl (ev rfl) (ev rfl) HR3.out) ?_
  simp only [Act.put, aa, ac, ae]
  refine wpList_nil ?_
  go_wp2_with fail
  refine bodyPost_ret (res_tri2 (t := 128) (cs := aZ p) rfl _ _ _ rfl ?h1 Tryz.underlying128 rfl ?h2) rfl ⟨by rw [HX.out, HP.out]; rfl, ?h3⟩
  case h1 => exact World.rangeAt_setCells_same _ _ _ _ (by rw [aN]; exact HR3.out)
  case h2 => rw [aN]; exact sizeS
  case h3 => exact below_setCells (bd HB3.out) (by omega) _
theorem pnewest (a b : Blk) (w : World) (T : Tab w) : Calls Tryz.prog 93 #[blk a, blk b] w fun e w' => e = .returned (.tuple #[.int .i64 (nwW a b : Nat), .int .u64 (nwN a b : Nat), sup (nwS a b)]) ∧ Below w.heap.size w w' := by
  unfold nwW nwN nwS
  by_cases hlt : gsN a < gsN b
  · rw [if_pos hlt, if_pos hlt, if_pos hlt]
    exact pnewest_b a b w T hlt
  · rw [if_neg hlt, if_neg hlt, if_neg hlt]
    exact pnewest_a a b w T hlt
end Go.Proofs.YtheponmdbmloaaaGreatDoor
