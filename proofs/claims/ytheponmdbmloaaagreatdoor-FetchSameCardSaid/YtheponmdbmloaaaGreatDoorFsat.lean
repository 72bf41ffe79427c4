import Derived.Test.YtheponmdbmloaaaGreatDoorFsar
import Derived.Test.YtheponmdbmloaaaGreatDoorFsZ
namespace Go.Proofs.YtheponmdbmloaaaGreatDoor
open Go.RowKit
set_option linter.unusedVariables false
set_option linter.unusedSimpArgs false
set_option maxRecDepth 100000
theorem exec_putRh {ρ : Operand → Value} {o : Oper} {x1 x2 : Operand} {w : World} {b off : Nat} {y : Ros} (ho : o.op = .store 32 x1 x2) (hx : ρ x1 = .pointer (some ⟨b, off, none⟩)) (hy : ρ x2 = ros y) (ht : w.there b off 21) : (execOp ρ o).run Tryz.prog w = .ok .skip (w.setCells b off (aE y)) :=
  exec_putT (by rw [aV]; kernel_rfl) (celR_one y) ho hx hy (by rw [aV]; exact ht)
theorem exec_addU6 {ρ : Operand → Value} {o : Oper} {x y : Operand} {w : World} {t r : TypeId} {a b c : Int} (ho : o.op = .binOp .add t x y r) (hx : ρ x = .int .u64 a) (hy : ρ y = .int .u64 b) (h : IntKind.u64.wrap (a + b) = c) : (execOp ρ o).run Tryz.prog w = .ok (.value (.int .u64 c)) w := by
  unfold execOp
  simp [ho, hx, hy, eqGuard, binOp, Op.intArith, h]
def svF (b2 b5 b3 : Nat) : Fu := ⟨82, [.pointer (some ⟨b2, 0, none⟩), .pointer (some ⟨b5, 0, none⟩), .pointer (some ⟨b3, 0, none⟩)], Tryz.call82⟩
def evB5 (b : Nat) (w : World) : Nat := (intOf ((w.cell? ⟨b, 0, none⟩).getD undef)).toNat
theorem evB5_of {w : World} {b n : Nat} (h : w.heap[b]? = some (.cells #[.int .u64 (n : Int)] 34 (0, 0))) : evB5 b w = n := by
  unfold evB5
  rw [cell_of_row w b 0 _ _ _ h]
  rfl
def SvQ (w0 : World) (H K : Nat → Prop) (w : World) (p q : Nat) (x : HpS) (h0 : HuS) (w' : World) : Prop :=
  bm K w w' ∧ (savE h0 = 0 → HJ w0 H K w' p q (savS h0).M ⟨x.id, (savS h0).ev, (savS h0).ev, (savS h0).R⟩ ∧ aI (savS h0).R = true ∧ (savS h0).id = x.id ∧ (savS h0).ev ≤ x.us + 17) ∧ (savE h0 ≠ 0 → ∃ us, us ≤ x.us + 17 ∧ HJ w0 H K w' p q (savS h0).M { x with us := us })
section
variable {w0 ws w w' : World} {H K : Nat → Prop} {p q b2 b3 b5 en : Nat} {x : HpS} {R : Ros} {M : BenS}
def OnQ (w0 : World) (H K : Nat → Prop) (ws : World) (p q b2 b3 b5 : Nat) (x : HpS) (R : Ros) (en : Nat) (O : Option Nat × Int × BenS) (E : Int) (w' : World) : Prop :=
  (O.1 = none ∧ E = O.2.1 ∧ E ≠ 9 ∧ SvL w0 H K ws p q b2 b3 b5 x R en O.2.2 w') ∨ (E = 9 ∧ ∃ d : Nat, O.1 = some d ∧ SvL w0 H K ws p q b2 b3 b5 x (bl R (d : Int)) en O.2.2 w')
theorem hp_once {O : Option Nat × Int × BenS} (hO : ci x.id en R R.m.toNat 0 M = O) (hr : Room M 32) (hev : 1 ≤ en ∧ en ≤ 4611686018427387904) (hid : x.id ≠ 0 ∧ x.id < 18446744073709551616) (hf : aI R = true) (h : SvL w0 H K ws p q b2 b3 b5 x R en M w) :
    Calls Tryz.prog 84 #[.pointer (some ⟨b3, 0, none⟩), (svF b2 b5 b3).val] w fun e w' => ∃ E : Int, e = .returned (.int .i64 E) ∧ OnQ w0 H K ws p q b2 b3 b5 x R en O E w' := by
  have hm := fine_m hf
  have hm0 : 0 ≤ R.m := by have hf' := hf; unfold aI at hf'; simp only [Bool.and_eq_true] at hf'; have := cX hf'.1.1.1; omega
  obtain ⟨N, hN⟩ : ∃ N : Nat, R.m = (N : Int) := ⟨R.m.toNat, by omega⟩
  have hN' : R.m.toNat = N := by rw [hN]; rfl
  rw [hN'] at hO hm
  refine hp_each (N := N) (svF b2 b5 b3) (fun m R' w' => ∃ Mm, R' = R ∧ m ≤ N ∧ SvL w0 H K ws p q b2 b3 b5 x R en Mm w' ∧ ci x.id en R (N - m) m Mm = O ∧ Room Mm (2 * (N - m))) (OnQ w0 H K ws p q b2 b3 b5 x R en O) hm ?_ ?_ ?_ ?_ (R := R) ⟨M, rfl, Nat.zero_le _, h, hO, cj hr (by omega)⟩
  · rintro m R' w' ⟨Mm, rfl, _, l, _⟩
    exact ⟨l.h3.range, hN⟩
  · rintro m R' w' hlt hs ⟨Mm, rfl, _, l, ho, hrm⟩
    refine ⟨Mm, rfl, hlt, l, ?_, cj hrm (by omega)⟩
    obtain ⟨k0, hk0⟩ : ∃ k0, N - m = k0 + 1 := ⟨N - m - 1, by omega⟩
    rw [hk0, onceK_skip hs] at ho
    rw [show N - (m + 1) = k0 by omega]
    exact ho
  · rintro m R' w' hlt hs ⟨Mm, rfl, _, l, ho, hrm⟩
    obtain ⟨k0, hk0⟩ : ∃ k0, N - m = k0 + 1 := ⟨N - m - 1, by omega⟩
    rw [hk0] at ho hrm
    refine (hp_save1 (m := m) (cj hrm (by omega)) hev hid hf (by omega) l).mono ?_
    rintro e w2 ⟨rfl, l2⟩
    refine ⟨_, rfl, ?_⟩
    by_cases h0 : cz x.id en R' Mm m = 0
    · refine .inl ⟨h0, R', cJ x.id en R' Mm m, rfl, hlt, ?_, ?_, ?_⟩
      · rw [if_neg (by rw [h0]; decide)] at l2
        exact l2
      · rw [onceK_step hs h0] at ho
        rw [show N - (m + 1) = k0 by omega]
        exact ho
      · rw [show N - (m + 1) = k0 by omega]
        exact rm_put (cj hrm (by omega))
    · refine .inr ⟨h0, ?_⟩
      by_cases h9 : cz x.id en R' Mm m = 9
      · rw [if_pos h9] at l2
        rw [onceK_dead hs h9] at ho
        subst ho
        exact .inr ⟨h9, m, rfl, l2⟩
      · rw [if_neg h9] at l2
        rw [onceK_err hs h0 h9] at ho
        subst ho
        exact .inl ⟨rfl, rfl, h9, l2⟩
  · rintro R' w' ⟨Mm, rfl, _, l, ho, _⟩
    rw [Nat.sub_self] at ho
    subst ho
    exact .inl ⟨rfl, rfl, by decide, l⟩
def EndS (b2 b3 b5 p en : Nat) (R : Ros) (w : World) : Prop :=
  w.heap[b2]? = some (.cells #[.pointer (some ⟨p, 0, none⟩)] 23 (0, 0)) ∧ bf w b3 R ∧ w.heap[b5]? = some (.cells #[.int .u64 (en : Int)] 34 (0, 0))
theorem EndS.only (h : EndS b2 b3 b5 p en R w) (ho : Only (fun b => b = p) w w') (hn : b2 ≠ p ∧ b3 ≠ p ∧ b5 ≠ p) : EndS b2 b3 b5 p en R w' := ⟨ho.keep h.1 hn.1, ho.keep h.2.1 hn.2.1, ho.keep h.2.2 hn.2.2⟩
set_option maxHeartbeats 8000000 in
theorem hp_save (hf : aI R = true) (hid : x.id ≠ 0 ∧ x.id < 18446744073709551616) (hr : Room M 600) (he : x.us ≤ 4611686018427387000) (h : HJ w0 H K w p q M x) : Calls Tryz.prog 79 #[.pointer (some ⟨p, 0, none⟩), ros R] w fun e w' =>
    e = .returned (.int .i64 (savE ⟨M, x.id, x.us, R⟩)) ∧ SvQ w0 H K w p q x ⟨M, x.id, x.us, R⟩ w' := by
  obtain ⟨h0, hh0⟩ : ∃ h0 : HuS, h0 = ⟨M, x.id, x.us, R⟩ := ⟨_, rfl⟩
  rw [← hh0]
  have HST : Hid (OnS h0 17 h0) := Lib.hid (OnS.start (by rw [hh0]; exact hf) (by rw [hh0]; exact hr))
  have HH0 := Lib.hid hh0
  have HJ := Lib.hid h
  have HIDs := Lib.hid hid
  have HUS := Lib.hid he
  clear hf hid hr he h hh0
  go_enter Tryz.func79, Tryz.ntmps79
  go_upto_region 0 with fail
  refine wp_region_lit ?_
  refine af rfl (dk rfl rfl (ev rfl)) ?_
  simp only [Act.put, aa, ac, ae]
  have hb0 := (Below.refl w.heap.size w).alloc (Nat.le_refl _) (.cells #[.pointer (some ⟨p, 0, none⟩)] 23)
  have HP1 := Lib.hid (heap_alloc_new w (.cells #[.pointer (some ⟨p, 0, none⟩)] 23))
  have HB1 := Lib.hid hb0
  obtain ⟨b2, hb2⟩ : ∃ b2, w.heap.size = b2 := ⟨_, rfl⟩
  have HG2 : Hid (w.heap.size ≤ b2) := Lib.hid (Nat.le_of_eq hb2)
  rw [hb2] at HP1 ⊢
  clear hb2 hb0
  generalize w.alloc (.cells #[.pointer (some ⟨p, 0, none⟩)] 23) = w1 at *
  refine af rfl (aL rfl (ev rfl)) ?_
  simp only [Act.put, aa, ac, ae]
  have hb0 := (Below.refl w1.heap.size w1).alloc (Nat.le_refl _) (.cells (aE R).toArray 32)
  have HR2 := Lib.hid (bf.new w1 R)
  have HP2 := Lib.hid (ao HP1.out hb0)
  have HB2 := Lib.hid (HB1.out.trans (hb0.mono HB1.out.size))
  obtain ⟨b3, hb3⟩ : ∃ b3, w1.heap.size = b3 := ⟨_, rfl⟩
  have HG3 : Hid (b2 < b3) := Lib.hid (by rw [← hb3]; exact aH HP1.out)
  rw [hb3] at HR2 ⊢
  clear hb3 hb0 HP1 HB1
  generalize w1.alloc (.cells (aE R).toArray 32) = w2 at *
  refine af rfl (aj rfl evk) ?_
  simp only [Act.put, aa, ac, ae]
  refine wpList_nil ?_
  go_upto_region 1 with fail
  refine wp_region_lit ?_
  refine af rfl (au rfl (ev rfl) (ldHp ((aT HP2.out) 0 _ rfl))) ?_
  simp only [Act.put, aa, ac, ae]
  refine af rfl (bk rfl (ev rfl)) ?_
  simp only [Act.put, aa, ac, ae]
  refine af rfl (am rfl (ev rfl) faHp4) ?_
  simp only [Act.put, aa, ac, ae]
  refine af rfl (au rfl (ev rfl) (ldU64 (PHo.c24 (HJ.out.below HB2.out).hul))) ?_
  simp only [Act.put, aa, ac, ae]
  refine af rfl (exec_alloc1 rfl zeroU6 rfl) ?_
  simp only [Act.put, aa, ac, ae]
  have hb0 := (Below.refl w2.heap.size w2).alloc (Nat.le_refl _) (.cells #[.int .u64 0] 34)
  have HE3 := Lib.hid (heap_alloc_new w2 (.cells #[.int .u64 0] 34))
  have HP3 := Lib.hid (ao HP2.out hb0)
  have HR3 : Hid (bf _ b3 R) := Lib.hid (ao HR2.out hb0)
  have HB3 := Lib.hid (HB2.out.trans (hb0.mono HB2.out.size))
  obtain ⟨b5, hb5⟩ : ∃ b5, w2.heap.size = b5 := ⟨_, rfl⟩
  have HG5 : Hid (b3 < b5) := Lib.hid (by rw [← hb5]; exact aH HR2.out)
  rw [hb5] at HE3 ⊢
  clear hb5 hb0 HP2 HR2
  generalize w2.alloc (.cells #[.int .u64 0] 34) = w3 at *
  refine av rfl (exec_putU rfl (ev rfl) (ev rfl) (cell_of_row _ b5 0 _ _ _ HE3.out) (frozen_of_row _ b5 0 _ _ HE3.out)) ?_
  simp only [Act.put, aa, ac, ae]
  have ho : Only (fun b => b = b5) w3 (w3.setCell ⟨b5, 0, none⟩ (.int .u64 (x.us : Int))) := (Only.refl (fun b => b = b5) w3).setCell (p := ⟨b5, 0, none⟩) (.inl rfl) _
  have HE4 := Lib.hid (heap_setCell_same w3 b5 0 _ _ (.int .u64 (x.us : Int)) HE3.out)
  have HP4 := Lib.hid (ho.keep HP3.out (by have := HG3.out; have := HG5.out; omega))
  have HR4 : Hid (bf _ b3 R) := Lib.hid (ho.keep HR3.out (by have := HG5.out; omega))
  have HB4 := Lib.hid (HB3.out.setCell (p := ⟨b5, 0, none⟩) (by have := HG2.out; have := HG3.out; have := HG5.out; show w.heap.size ≤ b5; omega) (.int .u64 (x.us : Int)))
  clear ho HE3 HP3 HR3 HB3
  generalize w3.setCell ⟨b5, 0, none⟩ (.int .u64 (x.us : Int)) = w4 at *
  refine wpList_nil ?_
  have HSV : Hid (SvL w0 H K w p q b2 b3 b5 x R x.us M w4) := Lib.hid (by
    have g2 := HG2.out
    have g3 := HG3.out
    have g5 := HG5.out
    have hs := HJ.out.size
    have hl5 := aH HE4.out
    refine ⟨⟨x.us, Nat.le_refl _, HJ.out.guard HB4.out fun b e => ?_⟩, HP4.out, HR4.out, HE4.out, HJ.out.kept HB4.out, ⟨by omega, by omega, by omega⟩, ⟨by omega, by omega, by omega⟩, fun b e => ?_⟩
    · rcases e with e | e | e | e
      · exact .inl e
      · exact .inr ⟨by omega, by omega⟩
      · exact .inr ⟨by omega, by omega⟩
      · exact .inr ⟨by omega, by omega⟩
    · have := HJ.out.lt e
      exact ⟨by omega, by omega, by omega⟩)
  clear HE4 HP4 HR4 HB4 HB2
  go_upto_region 2 with fail
  refine wp_region_lit ?_
  refine af rfl (exec_mkf3 rfl (ev rfl) (ev rfl) (ev rfl)) ?_
  simp only [Act.put, aa, ac, ae]
  refine af rfl (aj rfl (ev rfl)) ?_
  simp only [Act.put, aa, ac, ae]
  refine wpList_nil ?_
  go_wp2_with fail
  go_loopw [7] (fun z wr => ∃ (f : Nat) (hi : HuS), OnS h0 f hi ∧ SvL w0 H K w p q b2 b3 b5 x hi.R hi.ev hi.M wr) (fun _ wr => 4611686018427390000 - evB5 b5 wr)
  case atStart => exact ⟨17, h0, HST.out, by rw [HH0.out]; exact HSV.out⟩
  case round =>
    clear HSV HST
    obtain ⟨f, hi, hs, hl⟩ := hrel
    have hev : hi.ev < 4611686018427387900 := by have h1 := hs.ev; rw [HH0.out] at h1; have h2 : hi.ev + f ≤ x.us + 17 := h1; have := HUS.out; omega
    have HOS := Lib.hid hs
    have HSV := Lib.hid hl
    have HEV := Lib.hid hev
    have HIX : Hid (hi.id = x.id) := Lib.hid (by rw [hs.id, HH0.out])
    have HEA : Hid (IntKind.u64.wrap ((hi.ev : Int) + 1) = ((hi.ev + 1 : Nat) : Int)) := Lib.hid (by rw [IntKind.wrap_u64]; rw [Int.emod_eq_of_lt (by omega) (by omega)]; omega)
    have HMS := Lib.hid (evB5_of hl.h5)
    clear hs hl hev
    go_upto_region 3 with fail
    refine wp_region_lit ?_
    refine af rfl (au rfl (ev rfl) (ldU64 (cell_of_row _ b5 0 _ _ _ HSV.out.h5))) ?_
    simp only [Act.put, aa, ac, ae]
    refine af rfl (exec_addU6 rfl (ev rfl) evk HEA.out) ?_
    simp only [Act.put, aa, ac, ae]
    refine av rfl (exec_putU rfl (ev rfl) (ev rfl) (cell_of_row _ b5 0 _ _ _ HSV.out.h5) (frozen_of_row _ b5 0 _ _ HSV.out.h5)) ?_
    simp only [Act.put, aa, ac, ae]
    have HS1 := Lib.hid (HSV.out.putE (em := hi.ev + 1) (Nat.le_succ _))
    generalize wr.setCell ⟨b5, 0, none⟩ (.int .u64 ((hi.ev + 1 : Nat) : Int)) = w5 at *
    refine wpList_nil ?_
    obtain ⟨O, hO⟩ : ∃ O, ci x.id (hi.ev + 1) hi.R hi.R.m.toNat 0 hi.M = O := ⟨_, rfl⟩
    have HO := Lib.hid hO
    have HO2 : Hid (ci hi.id (hi.ev + 1) hi.R hi.R.m.toNat 0 hi.M = O) := Lib.hid (by rw [HIX.out]; exact hO)
    clear hO
    go_upto_region 4 with fail
    refine wp_region_lit ?_
    refine af rfl (ag rfl (ev rfl)) ?_
    simp only [Act.put, aa, ac, ae]
    refine ak rfl (ap Tryz.call84 rfl (evc (ev rfl) (evc (ev rfl) evn))) ?_
    refine (hp_once (O := O) (b2 := b2) (b3 := b3) (b5 := b5) HO.out (cj HOS.out.rm (by obtain ⟨f', hf'⟩ := HOS.out.pos; omega)) ⟨by omega, by have := HEV.out; omega⟩ HIDs.out HOS.out.fine HS1.out).mono ?_
    rintro e w6 ⟨E, rfl, hq⟩
    have HQ := Lib.hid hq
    clear hq
    refine ⟨_, rfl, ?_⟩
    simp only [Act.put, aa, ac, ae]
    refine af rfl (aj rfl (ev rfl)) ?_
    simp only [Act.put, aa, ac, ae]
    refine wpList_nil ?_
    go_upto_region 5 with fail
    refine wp_region_lit ?_
    refine af rfl (ag rfl (ev rfl)) ?_
    simp only [Act.put, aa, ac, ae]
    refine wpList_nil ?_
    by_cases h0' : E = 0
    · subst h0'
      obtain ⟨M9, hM9⟩ : ∃ M9, O.2.2 = M9 := ⟨_, rfl⟩
      have hq : O.1 = none ∧ O.2.1 = 0 ∧ SvL w0 H K w p q b2 b3 b5 x hi.R (hi.ev + 1) M9 w6 := by
        rcases HQ.out with ⟨q1, q2, _, q3⟩ | ⟨q1, _⟩
        · exact ⟨q1, q2.symm, by rw [← hM9]; exact q3⟩
        · exact absurd q1 (by decide)
      have hO : O = (none, 0, M9) := by
        obtain ⟨o1, o2, o3⟩ := O
        obtain ⟨q1, q2, _⟩ := hq
        simp only at q1 q2 hM9
        rw [q1, q2, hM9]
      have hfin := HOS.out.fin (by rw [HO2.out]; exact hO)
      have HFI := Lib.hid hfin
      have HS9 := Lib.hid hq.2.2
      clear hq hO hfin hM9 HQ HS1
      go_upto_region 7 with fail
      refine wp_region_lit ?_
      refine af (v := .bool true) rfl (ar true rfl (ev rfl) evk rfl) ?_
      simp only [Act.put, aa, ac, ae]
      refine af (v := .bool true) rfl (aj rfl (ev rfl)) ?_
      simp only [Act.put, aa, ac, ae]
      refine wpList_nil ?_
      obtain ⟨us, hus, hj⟩ := HS9.out.drew.j
      have HJ9 := Lib.hid hj
      have HNP : Hid (b2 ≠ p ∧ b3 ≠ p ∧ b5 ≠ p) := Lib.hid ⟨hj.ne (.inr (.inl rfl)), hj.ne (.inr (.inr (.inl rfl))), hj.ne (.inr (.inr (.inr rfl)))⟩
      have HEN : Hid (EndS b2 b3 b5 p (hi.ev + 1) hi.R (World.drew w6)) := Lib.hid ⟨HS9.out.drew.h2, HS9.out.drew.h3, HS9.out.drew.h5⟩
      have ho1 : Only (fun b => b = p) (World.drew w6) ((World.drew w6).setCell ⟨p, 2, none⟩ (.int .u64 ((hi.ev + 1 : Nat) : Int))) := (Only.refl (fun b => b = p) (World.drew w6)).setCell (p := ⟨p, 2, none⟩) (.inl rfl) _
      have hp1 : PHo ((World.drew w6).setCell ⟨p, 2, none⟩ (.int .u64 ((hi.ev + 1 : Nat) : Int))) p (some ⟨q, 0, none⟩) { x with ev := hi.ev + 1, us := us } := hj.hul.set (phC_ev _ _ (hi.ev + 1))
      have HEN1 := Lib.hid (HEN.out.only ho1 HNP.out)
      have HP1 := Lib.hid hp1
      have HO1 := Lib.hid ho1
      clear hj hus hp1 ho1
      go_upto_region 8 with fail
      refine wp_region_held (S := EndS b2 b3 b5 p (hi.ev + 1) hi.R) (by kernel_rfl) ?_
      change wpAnyH _ _ _ _ _ 15 _ _ w6.drew
      refine aD 0 rfl (by kernel_rfl) (by kernel_rfl) (by kernel_rfl) rfl (fun w' hw => au rfl (ev rfl) (ldHp ((aT hw.1) 0 _ rfl))) (fun _ _ _ h => h) HEN.out ?_
      simp only [Act.put, aa, ac, ae]
      refine aD 1 rfl (by kernel_rfl) (by kernel_rfl) (by kernel_rfl) rfl (fun w' hw => au rfl (ev rfl) (ldHp ((aT hw.1) 0 _ rfl))) (fun _ _ _ h => h) HEN.out ?_
      simp only [Act.put, aa, ac, ae]
      refine aD 2 rfl (by kernel_rfl) (by kernel_rfl) (by kernel_rfl) rfl (fun w' hw => au rfl (ev rfl) (ldHp ((aT hw.1) 0 _ rfl))) (fun _ _ _ h => h) HEN.out ?_
      simp only [Act.put, aa, ac, ae]
      refine aD 3 rfl (by kernel_rfl) (by kernel_rfl) (by kernel_rfl) rfl (fun w' hw => au rfl (ev rfl) (ldU64 (cell_of_row _ b5 0 _ _ _ hw.2.2))) (fun _ _ _ h => h) HEN.out ?_
      simp only [Act.put, aa, ac, ae]
      refine aD 4 rfl (by kernel_rfl) (by kernel_rfl) (by kernel_rfl) rfl (fun w' hw => au rfl (ev rfl) (ldU64 (cell_of_row _ b5 0 _ _ _ hw.2.2))) (fun _ _ _ h => h) HEN.out ?_
      simp only [Act.put, aa, ac, ae]
      refine aD 5 rfl (by kernel_rfl) (by kernel_rfl) (by kernel_rfl) rfl (fun w' hw => aQ rfl (ev rfl) hw.2.1.range) (fun _ _ _ h => h) HEN.out ?_
      simp only [Act.put, aa, ac, ae]
      refine aD 6 rfl (by kernel_rfl) (by kernel_rfl) (by kernel_rfl) rfl (fun w' hw => bk rfl (ev rfl)) (fun _ _ _ h => h) HEN.out ?_
      simp only [Act.put, aa, ac, ae]
      refine aD 7 rfl (by kernel_rfl) (by kernel_rfl) (by kernel_rfl) rfl (fun w' hw => am rfl (ev rfl) faHp2) (fun _ _ _ h => h) HEN.out ?_
      simp only [Act.put, aa, ac, ae]
      refine held_nul 8 rfl (by kernel_rfl) rfl (exec_putU rfl (ev rfl) (ev rfl) HJ9.out.hul.c2 (HJ9.out.hul.free_ 2)) HEN1.out ?_
      simp only [Act.put]
      generalize (World.drew w6).setCell ⟨p, 2, none⟩ (.int .u64 ((hi.ev + 1 : Nat) : Int)) = w7 at *
      have ho2 : Only (fun b => b = p) w7 (w7.setCell ⟨p, 24, none⟩ (.int .u64 ((hi.ev + 1 : Nat) : Int))) := (Only.refl (fun b => b = p) w7).setCell (p := ⟨p, 24, none⟩) (.inl rfl) _
      have HP2 := Lib.hid (HP1.out.set (phC_us _ _ (hi.ev + 1)))
      have HEN2 := Lib.hid (HEN1.out.only ho2 HNP.out)
      have HO2' := Lib.hid (HO1.out.trans ho2 fun b e => .inl e)
      clear ho2
      refine aD 9 rfl (by kernel_rfl) (by kernel_rfl) (by kernel_rfl) rfl (fun w' hw => bk rfl (ev rfl)) (fun _ _ _ h => h) HEN1.out ?_
      simp only [Act.put, aa, ac, ae]
      refine aD 10 rfl (by kernel_rfl) (by kernel_rfl) (by kernel_rfl) rfl (fun w' hw => am rfl (ev rfl) faHp4) (fun _ _ _ h => h) HEN1.out ?_
      simp only [Act.put, aa, ac, ae]
      refine held_nul 11 rfl (by kernel_rfl) rfl (exec_putU rfl (ev rfl) (ev rfl) HP1.out.c24 (HP1.out.free_ 24)) HEN2.out ?_
      simp only [Act.put]
      generalize w7.setCell ⟨p, 24, none⟩ (.int .u64 ((hi.ev + 1 : Nat) : Int)) = w8 at *
      have ho3 : Only (fun b => b = p) w8 (w8.setCells p 3 (aE hi.R)) := (Only.refl (fun b => b = p) w8).setCells (.inl rfl) _ _
      have HP3 := Lib.hid (HP2.out.put hi.R)
      have HEN3 := Lib.hid (HEN2.out.only ho3 HNP.out)
      have HO3 := Lib.hid (HO2'.out.trans ho3 fun b e => .inl e)
      clear ho3
      refine aD 12 rfl (by kernel_rfl) (by kernel_rfl) (by kernel_rfl) rfl (fun w' hw => bk rfl (ev rfl)) (fun _ _ _ h => h) HEN2.out ?_
      simp only [Act.put, aa, ac, ae]
      refine aD 13 rfl (by kernel_rfl) (by kernel_rfl) (by kernel_rfl) rfl (fun w' hw => am rfl (ev rfl) faHp3) (fun _ _ _ h => h) HEN2.out ?_
      simp only [Act.put, aa, ac, ae]
      refine held_nul 14 rfl (by kernel_rfl) rfl (exec_putRh rfl (ev rfl) (ev rfl) (HP2.out.there (by omega))) HEN3.out ?_
      simp only [Act.put]
      generalize w8.setCells p 3 (aE hi.R) = w9 at *
      refine wpAnyH_done (by kernel_rfl) ?_ _
      go_upto_region 9 with fail
      refine wp_region_lit ?_
      refine af rfl (aj rfl evk) ?_
      simp only [Act.put, aa, ac, ae]
      refine wpList_nil ?_
      go_wp2_with fail
      go_ret
      have hx : savE h0 = 0 := HFI.out.1
      have hS : savS h0 = ⟨M9, hi.id, hi.ev + 1, hi.R⟩ := HFI.out.2
      obtain ⟨j9, k9⟩ := HJ9.out.obj HO3.out HP3.out
      refine ⟨by rw [hx]; rfl, HS9.out.drew.k.trans (k9.less fun b e => .inl e), fun _ => ?_, fun e => absurd hx e⟩
      rw [hS]
      exact ⟨j9.less fun b e => .inl e, HOS.out.fine, HIX.out, by obtain ⟨f', hf'⟩ := HOS.out.pos; have h1 := HOS.out.ev; rw [HH0.out] at h1; have h2 : hi.ev + f ≤ x.us + 17 := h1; show hi.ev + 1 ≤ _; omega⟩
    have H0 : Hid ((E == 0) = false) := Lib.hid (beq_eq_false_iff_ne.2 h0')
    go_upto_region 7 with fail
    refine wp_region_lit ?_
    refine af (v := .bool false) rfl (ar false rfl (ev rfl) evk H0.out) ?_
    simp only [Act.put, aa, ac, ae]
    refine af (v := .bool false) rfl (aj rfl (ev rfl)) ?_
    simp only [Act.put, aa, ac, ae]
    refine wpList_nil ?_
    by_cases h9 : E = 9
    · subst h9
      have hq : ∃ d : Nat, O.1 = some d ∧ SvL w0 H K w p q b2 b3 b5 x (bl hi.R (d : Int)) (hi.ev + 1) O.2.2 w6 := by
        rcases HQ.out with ⟨_, _, q1, _⟩ | ⟨_, q1⟩
        · exact absurd rfl q1
        · exact q1
      obtain ⟨d, hd, hl⟩ := hq
      obtain ⟨f', hf', hg⟩ := HOS.out.go (d := d) (e := O.2.1) (M' := O.2.2) (by rw [HO2.out]; obtain ⟨o1, o2, o3⟩ := O; simp only at hd; rw [hd])
      have HG := Lib.hid hg
      have HL := Lib.hid hl
      clear hd hl hf' hg HQ HS1 h0'
      go_upto_region 10 with fail
      refine wp_region_lit ?_
      refine af (v := .bool true) rfl (ar true rfl (ev rfl) evk rfl) ?_
      simp only [Act.put, aa, ac, ae]
      refine af (v := .bool true) rfl (aj rfl (ev rfl)) ?_
      simp only [Act.put, aa, ac, ae]
      refine wpList_nil ?_
      go_wp2_with fail
      go_roundw
      case rel => exact ⟨f', _, HG.out, HL.out⟩
      case measure => have h1 := evB5_of HL.out.h5; have h2 := HMS.out; have h3 := HEV.out; rw [h1, h2]; omega
    have H9 : Hid ((E == 9) = false) := Lib.hid (beq_eq_false_iff_ne.2 h9)
    have hq : O.1 = none ∧ E = O.2.1 ∧ SvL w0 H K w p q b2 b3 b5 x hi.R (hi.ev + 1) O.2.2 w6 := by
      rcases HQ.out with ⟨q1, q2, _, q3⟩ | ⟨q1, _⟩
      · exact ⟨q1, q2, q3⟩
      · exact absurd q1 h9
    have hfin := HOS.out.fin (e := E) (M' := O.2.2) (by rw [HO2.out]; obtain ⟨o1, o2, o3⟩ := O; obtain ⟨q1, q2, _⟩ := hq; simp only at q1 q2; rw [q1, q2])
    have HFI := Lib.hid hfin
    have HL := Lib.hid hq.2.2
    have HE0 := Lib.hid h0'
    clear hq hfin h9 h0' HQ HS1
    go_upto_region 10 with fail
    refine wp_region_lit ?_
    refine af (v := .bool false) rfl (ar false rfl (ev rfl) evk H9.out) ?_
    simp only [Act.put, aa, ac, ae]
    refine af (v := .bool false) rfl (aj rfl (ev rfl)) ?_
    simp only [Act.put, aa, ac, ae]
    refine wpList_nil ?_
    go_upto_region 6 with fail
    refine wp_region_lit ?_
    refine af rfl (ag rfl (ev rfl)) ?_
    simp only [Act.put, aa, ac, ae]
    refine af rfl (aj rfl (ev rfl)) ?_
    simp only [Act.put, aa, ac, ae]
    refine wpList_nil ?_
    go_wp2_with fail
    go_ret
    have hx : savE h0 = E := HFI.out.1
    have hS : savS h0 = ⟨O.2.2, hi.id, hi.ev + 1, hi.R⟩ := HFI.out.2
    obtain ⟨us, hus, hj⟩ := HL.out.j
    refine ⟨by rw [hx]; rfl, HL.out.k, fun e => absurd (hx.symm.trans e) HE0.out, fun _ => ⟨us, ?_, ?_⟩⟩
    · obtain ⟨f', hf'⟩ := HOS.out.pos
      have h1 := HOS.out.ev
      rw [HH0.out] at h1
      have h2 : hi.ev + f ≤ x.us + 17 := h1
      omega
    · rw [hS]
      exact hj.less fun b e => .inl e
end
end Go.Proofs.YtheponmdbmloaaaGreatDoor
