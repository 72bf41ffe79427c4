import Derived.Test.YtbbcdhkinbmdnaaGreatDoorLoba
import Derived.Test.YtbbcdhkinbmdnaaGreatDoorLoas
import Derived.Test.YtbbcdhkinbmdnaaGreatDoorLobh
import Derived.Test.YtbbcdhkinbmdnaaGreatDoorLoZ
namespace Go.Proofs.YtbbcdhkinbmdnaaGreatDoor
open Go.RowKit
set_option linter.unusedVariables false
set_option linter.unusedSimpArgs false
set_option maxRecDepth 100000
section
variable {M : BenS} {d : Int} {x : LgS} {z : Blk} {k : Nat}
theorem opn_no1 (h : ¬ (dV M d = 0 ∧ 50 ≤ bO M d)) : dI M d = 2 := if_neg fun e => h (of_decide_eq_true e)
theorem opn_rd (h : dV M d = 0 ∧ 50 ≤ bO M d) (h0 : bT M d 0 ≠ 0) : dI M d = bT M d 0 := (if_pos (show opnQ M d = true from decide_eq_true h)).trans (if_neg h0)
theorem opn_form (h : dV M d = 0 ∧ 50 ≤ bO M d) (h0 : bT M d 0 = 0) (h1 : ¬ (aN.nE (cq M d 0) (cq M d 1) = 0 ∧ (cZ M d).m.ring ≤ bO M d - 10 ∧ (cZ M d).n ≤ 2305843009213693952 ∧ (cZ M d).m.first ≤ 2305843009213693952 ∧ (cZ M d).m.pos ≤ 2305843009213693952)) : dI M d = 5 :=
 (if_pos (show opnQ M d = true from decide_eq_true h)).trans ((if_pos h0).trans (if_neg fun e => h1 (of_decide_eq_true e)))
theorem opn_yes (h : dV M d = 0 ∧ 50 ≤ bO M d) (h0 : bT M d 0 = 0) (h1 : aN.nE (cq M d 0) (cq M d 1) = 0 ∧ (cZ M d).m.ring ≤ bO M d - 10 ∧ (cZ M d).n ≤ 2305843009213693952 ∧ (cZ M d).m.first ≤ 2305843009213693952 ∧ (cZ M d).m.pos ≤ 2305843009213693952) : dI M d = 0 :=
 (if_pos (show opnQ M d = true from decide_eq_true h)).trans ((if_pos h0).trans (if_pos (show opnF M d = true from decide_eq_true h1)))
theorem opnN_stop (hz : cq M x.d (cp x.next) = z) (h : ¬ (aL.gE z = 0 ∧ (aL.gX z).seq = x.next ∧ (aL.gX z).pos = x.head ∧ bc (aL.gX z) ≤ x.free)) : opnN M (k + 1) x = x := by
 have e : ¬ nxtQ x (cq M x.d (cp x.next)) = true := fun e => h (by rw [hz] at e; exact of_decide_eq_true e)
 exact if_neg e
theorem opnN_go (hz : cq M x.d (cp x.next) = z) (h : aL.gE z = 0 ∧ (aL.gX z).seq = x.next ∧ (aL.gX z).pos = x.head ∧ bc (aL.gX z) ≤ x.free) : opnN M (k + 1) x = opnN M k (x.with_ (aL.gX z)) := by
 have e : nxtQ x (cq M x.d (cp x.next)) = true := by rw [hz]; exact decide_eq_true h
 have h1 : opnN M (k + 1) x = opnN M k (x.with_ (aL.gX (cq M x.d (cp x.next)))) := if_pos e
 rw [h1, hz]
theorem opn_step (h : LgOk M x 0) (hz : cq M x.d (cp x.next) = z) (hq : aL.gE z = 0 ∧ (aL.gX z).seq = x.next ∧ (aL.gX z).pos = x.head ∧ bc (aL.gX z) ≤ x.free) (hl : x.nts.length + 1 ≤ 8) (hf : x.fst ≤ 2305843009213693952) (hp : x.pos ≤ 2305843009213693952) : LgOk M (x.with_ (aL.gX z)) 0 := by
 have h1 := opn_okN 1 x h hl hf hp
 rw [opnN_go hz hq] at h1
 exact h1
end
def ntsLen (w : World) (p : Nat) : Nat := match w.cell? ⟨p, 7, none⟩ with
 | some (.slice _ n _) => n
 | _ => 0
theorem RLg.ntsLen {w : World} {p q : Nat} {v : Value} {x : LgS} (h : RLg w p q v x) : Go.Proofs.YtbbcdhkinbmdnaaGreatDoor.ntsLen w p = x.nts.length := by
 obtain ⟨A, c, rfl, _, _⟩ := h.slice
 unfold Go.Proofs.YtbbcdhkinbmdnaaGreatDoor.ntsLen
 rw [h.c7]
section
variable {w : World} {b : Nat}
theorem faMo2 : (Instr.fieldAt 32 (.pointer (some ⟨b, 0, none⟩)) 2).run Tryz.prog w = .ok (.pointer (some ⟨b, 2, none⟩)) w := by kernel_rfl
theorem faMo3 : (Instr.fieldAt 32 (.pointer (some ⟨b, 0, none⟩)) 3).run Tryz.prog w = .ok (.pointer (some ⟨b, 3, none⟩)) w := by kernel_rfl
variable {ρ : Operand → Value} {o : Oper} {x1 x2 x3 x4 x5 x6 x7 : Operand} {q : Nat} {d r : Int} {id n f a : Nat}
theorem run_bldLg7 : (Instr.build 89 #[(0, .pointer (some ⟨q, 0, none⟩)), (1, .int .i64 d), (2, .int .u64 (id : Int)), (3, .int .i64 r), (4, .int .u64 (n : Int)), (5, .int .u64 (f : Int)), (6, .int .u64 (a : Int))]).run Tryz.prog w = .ok (.agg #[.pointer (some ⟨q, 0, none⟩), .int .i64 d, .int .u64 (id : Int), .int .i64 r, .int .u64 (n : Int), .int .u64 (f : Int), .int .u64 (a : Int), .slice none 0 0]) w := by kernel_rfl
theorem exec_bldLg7 (ho : o.op = .build 89 #[(0, x1), (1, x2), (2, x3), (3, x4), (4, x5), (5, x6), (6, x7)]) (h1 : ρ x1 = .pointer (some ⟨q, 0, none⟩)) (h2 : ρ x2 = .int .i64 d) (h3 : ρ x3 = .int .u64 (id : Int)) (h4 : ρ x4 = .int .i64 r) (h5 : ρ x5 = .int .u64 (n : Int)) (h6 : ρ x6 = .int .u64 (f : Int)) (h7 : ρ x7 = .int .u64 (a : Int)) :
  (execOp ρ o).run Tryz.prog w = .ok (.value (.agg #[.pointer (some ⟨q, 0, none⟩), .int .i64 d, .int .u64 (id : Int), .int .i64 r, .int .u64 (n : Int), .int .u64 (f : Int), .int .u64 (a : Int), .slice none 0 0])) w := by
 unfold execOp
 simp only [ho, h1, h2, h3, h4, h5, h6, h7, List.map_toArray, List.map_cons, List.map_nil, Sem.run_bind, run_bldLg7, Result.andThen_ok, Sem.run_pure]
end
theorem rl_sec_d {w : World} {G : Nat → Prop} {q : Nat} {M : BenS} (d : Int) (hb : bF.Bn w G q M) : Calls Tryz.prog 32 #[.pointer (some ⟨q, 0, none⟩), .int .i64 d] w fun e w' => e = .returned (.int .i64 (bO M d)) ∧ Below w.heap.size w w' :=
 (rl_sec d hb).mono fun e w' ⟨he, hw⟩ => ⟨he, hw ▸ Below.refl _ _⟩
theorem rsize_d {n : Int} {k : Nat} (h : dZ n = k) (w : World) : Calls Tryz.prog 39 #[.int .i64 n] w fun e w' => e = .returned (.int .i64 (k : Nat)) ∧ Below w.heap.size w w' :=
 (rsize_v h w).mono fun e w' ⟨he, hw⟩ => ⟨he, hw ▸ Below.refl _ _⟩
set_option maxHeartbeats 1600000 in
theorem rlopen {w : World} {G : Nat → Prop} {q : Nat} {M : BenS} (d : Int) (hb : bF.Bn w G q M) :
  Calls Tryz.prog 9 #[.pointer (some ⟨q, 0, none⟩), .int .i64 d] w (LNew w G q (dI M d) M (opnL M d)) := by
 have HB := af hb
 have HLT := af (bF.lt hb)
 obtain ⟨s1, s2⟩ := seN_le d hb
 by_cases k0 : dV M d = 0
 ·have H0 : Hid (decide (dV M d = 0) = true) := af (decide_eq_true k0)
  by_cases k1 : bO M d < 50
  ·have H1 : Hid (decide (bO M d < (50 : Int)) = true) := af (decide_eq_true k1)
   have HQE : Hid (dI M d = 2) := af (opn_no1 (by omega))
   clear k0 k1 s1 s2 hb
   go_enter Tryz.func9, Tryz.ntmps9
   go_upto_region 1 with fail
   refine ag ?_
   refine ai rfl (aj rfl (ev rfl)) ?_;simp only [aa]
   refine ai rfl (aj rfl (ev rfl)) ?_;simp only [aa]
   refine ar rfl (av Tryz.call31 rfl (evc (ev rfl) (evc (ev rfl) evn))) ?_
   refine (rl_has_v HB.out H0.out).mono ?_
   rintro e w' ⟨rfl, rfl⟩
   refine ⟨_, rfl, ?_⟩
   simp only [aa]
   refine ai (v := .bool false) rfl (bf true rfl (ev rfl)) ?_;simp only [aa]
   refine ai (v := .bool false) rfl (aj rfl (ev rfl)) ?_;simp only [aa]
   refine al gr (aj rfl (ev rfl)) ?_;simp only [aa]
   refine al gr (aj rfl (ev rfl)) ?_;simp only [aa]
   refine ar gr (av Tryz.call32 rfl (evc (ev rfl) (evc (ev rfl) evn))) ?_
   refine (rl_sec _ HB.out).mono ?_
   rintro e w' ⟨rfl, rfl⟩
   refine ⟨_, rfl, ?_⟩
   simp only [aa]
   refine al (v := .bool true) gr (aZ true rfl (ev rfl) evk H1.out) ?_;simp only [aa]
   refine ai (v := .bool true) rfl (aE rfl (ev rfl) (ev rfl)) ?_;simp only [aa]
   refine ah ?_
   have HNE : Hid (dI M d ≠ 0) := af (by rw [HQE.out]; decide)
   go_wp2_with fail
   go_ret2
   exact LNew.same HB.out (Below.refl _ _) HNE.out (by rw [HQE.out]; rfl)
  ·have H1 : Hid (decide (bO M d < (50 : Int)) = false) := af (decide_eq_false k1)
   obtain ⟨D, hD, hDl⟩ : ∃ D : Nat, d = (D : Int) ∧ D < M.ds.length := by
    rcases e9 M d with ⟨e, _⟩ | ⟨_, k, e, hk⟩
    ·omega
    ·exact ⟨k, e, hk⟩
   subst hD
   have hlen : 50 ≤ (M.ds.getD D cJ).S.length := by
    have : bO M (D : Int) = ((M.ds.getD D cJ).S.length : Int) := by
     unfold bO
     rw [if_pos k0, dev_getD, Int.toNat_natCast]
    omega
   have hq : dV M (D : Int) = 0 ∧ 50 ≤ bO M (D : Int) := ⟨k0, by omega⟩
   obtain ⟨E0, hE0⟩ : ∃ E, bT M (D : Int) 0 = E := ⟨_, rfl⟩
   have HRE : Hid (∀ n : Nat, n < 10 → bT M (D : Int) (n : Int) = E0) := af fun n hn => by
    rw [← hE0]
    exact rd_same (by omega) (by omega)
   have HRE0 : Hid (bT M (D : Int) 0 = E0) := af hE0
   have HRE1 : Hid (bT M (D : Int) 1 = E0) := af (HRE.out 1 (by omega))
   obtain ⟨b0, hb0⟩ : ∃ b, cq M (D : Int) 0 = b := ⟨_, rfl⟩
   obtain ⟨b1, hb1⟩ : ∃ b, cq M (D : Int) 1 = b := ⟨_, rfl⟩
   have hY : cZ M (D : Int) = aN.nX b0 b1 := by unfold cZ; rw [hb0, hb1]
   obtain ⟨y, hy⟩ : ∃ y, aN.nX b0 b1 = y := ⟨_, rfl⟩
   rw [hy] at hY
   obtain ⟨n, hn⟩ : ∃ n, y.n = n := ⟨_, rfl⟩
   obtain ⟨m, hm⟩ : ∃ m, y.m = m := ⟨_, rfl⟩
   obtain ⟨eN, heN⟩ : ∃ e, aN.nE b0 b1 = e := ⟨_, rfl⟩
   have HNEW : Hid (∀ w, Calls Tryz.prog 34 #[blk b0, blk b1] w fun e w' => e = .returned (.tuple #[.int .u64 (n : Nat), mrk m, .int .i64 (eN : Nat)]) ∧ Below w.heap.size w w') := af fun w => by
    have := rmnew b0 b1 w
    rwa [hy, hn, hm, heN] at this
   have hFO : ¬ (eN = 0 ∧ m.ring ≤ bO M (D : Int) - 10 ∧ n ≤ 2305843009213693952 ∧ m.first ≤ 2305843009213693952 ∧ m.pos ≤ 2305843009213693952) → E0 = 0 → dI M (D : Int) = 5 := fun h e => opn_form hq (hE0.trans e) (by rw [hb0, hb1, heN, hY, hn, hm]; exact h)
   have hYE : (eN = 0 ∧ m.ring ≤ bO M (D : Int) - 10 ∧ n ≤ 2305843009213693952 ∧ m.first ≤ 2305843009213693952 ∧ m.pos ≤ 2305843009213693952) → E0 = 0 → dI M (D : Int) = 0 := fun h e => opn_yes hq (hE0.trans e) (by rw [hb0, hb1, heN, hY, hn, hm]; exact h)
   have HFO := af hFO
   have HYE := af hYE
   have HOX : Hid (opnX M (D : Int) = ⟨D, m.id, m.ring.toNat, n, m.first, m.pos, []⟩) := af (by unfold opnX; rw [hY, hn, hm, Int.toNat_natCast])
   have HRD : Hid (E0 ≠ 0 → dI M (D : Int) = E0) := af fun e => (opn_rd hq (by rw [hE0]; exact e)).trans hE0
   have HB0 := af hb0
   have HB1 := af hb1
   have HSE : Hid (IntKind.i64.wrap (bO M (D : Int) - 10) = bO M (D : Int) - 10) := af (IntWalk.i64_in _ ⟨by omega, by omega⟩)
   have HLEN := af hlen
   clear hFO hYE hlen hDl hq hE0 hY hy hn hm heN hb0 hb1 k0 k1 s1 s2 hb y
   go_enter Tryz.func9, Tryz.ntmps9
   go_upto_region 1 with fail
   refine ag ?_
   refine ai rfl (aj rfl (ev rfl)) ?_;simp only [aa]
   refine ai rfl (aj rfl (ev rfl)) ?_;simp only [aa]
   refine ar rfl (av Tryz.call31 rfl (evc (ev rfl) (evc (ev rfl) evn))) ?_
   refine (rl_has_v HB.out H0.out).mono ?_
   rintro e w' ⟨rfl, rfl⟩
   refine ⟨_, rfl, ?_⟩
   simp only [aa]
   refine ai (v := .bool false) rfl (bf true rfl (ev rfl)) ?_;simp only [aa]
   refine ai (v := .bool false) rfl (aj rfl (ev rfl)) ?_;simp only [aa]
   refine al gr (aj rfl (ev rfl)) ?_;simp only [aa]
   refine al gr (aj rfl (ev rfl)) ?_;simp only [aa]
   refine ar gr (av Tryz.call32 rfl (evc (ev rfl) (evc (ev rfl) evn))) ?_
   refine (rl_sec _ HB.out).mono ?_
   rintro e w' ⟨rfl, rfl⟩
   refine ⟨_, rfl, ?_⟩
   simp only [aa]
   refine al (v := .bool false) gr (aZ false rfl (ev rfl) evk H1.out) ?_;simp only [aa]
   refine ai (v := .bool false) rfl (aE rfl (ev rfl) (ev rfl)) ?_;simp only [aa]
   refine ah ?_
   go_upto_region 3 with fail
   refine ag ?_
   refine ai rfl (aj rfl (ev rfl)) ?_;simp only [aa]
   refine ai rfl (aj rfl (ev rfl)) ?_;simp only [aa]
   refine ar rfl (av Tryz.call33 rfl (evc (ev rfl) (evc (ev rfl) (evc evk evn)))) ?_
   refine (bF.read (D : Int) 0 HB.out).mono ?_
   rintro e w1 ⟨rfl, hbw⟩
   rw [HB0.out, HRE0.out]
   have HA1 := af hbw
   clear hbw
   refine ⟨_, rfl, ?_⟩
   simp only [aa]
   refine ai rfl (aj rfl (ev rfl)) ?_;simp only [aa]
   refine ai rfl (aD rfl (ev rfl) rfl) ?_;simp only [aa]
   refine ai rfl (aD rfl (ev rfl) rfl) ?_;simp only [aa]
   refine ai rfl (aT rfl) ?_;simp only [aa]
   refine az rfl (dp (c := b0) rfl (ev rfl) (ev rfl)) ?_;simp only [aa]
   have hbn := (Below.refl w1.heap.size w1).alloc (Nat.le_refl _) (.cells (cel b0).toArray 29)
   have HA2 := af (HA1.out.trans (hbn.mono HA1.out.size))
   have HR0 := af (cf w1 (cel b0) 29)
   have HX0 : Hid (w1.heap.size < (w1.alloc (.cells (cel b0).toArray 29)).heap.size) := af (by rw [World.size_alloc]; omega)
   generalize w1.alloc (.cells (cel b0).toArray 29) = w2 at *
   generalize w1.heap.size = a0 at *
   clear hbn HA1
   refine ai rfl (aq rfl (ev rfl)) ?_;simp only [aa]
   refine ah ?_
   have HBM2 := af (bF.below HB.out HA2.out)
   by_cases hE : E0 = 0
   ·rw [hE]
    have HEZ := af hE
    clear hE
    go_upto_region 6 with fail
    refine ag ?_
    refine ai rfl (aj rfl (ev rfl)) ?_;simp only [aa]
    refine ai rfl (aj rfl (ev rfl)) ?_;simp only [aa]
    refine ar rfl (av Tryz.call33 rfl (evc (ev rfl) (evc (ev rfl) (evc evk evn)))) ?_
    refine (bF.read (D : Int) 1 HBM2.out).mono ?_
    rintro e w3 ⟨rfl, hbw⟩
    rw [HB1.out, HRE1.out, HEZ.out]
    have HA3 := af (HA2.out.trans (hbw.mono HA2.out.size))
    have HR03 := af (dR HR0.out HX0.out hbw)
    have HX03 := af (Nat.lt_of_lt_of_le HX0.out hbw.size)
    clear hbw HA2 HR0 HX0 HBM2
    refine ⟨_, rfl, ?_⟩
    simp only [aa]
    refine ai rfl (aj rfl (ev rfl)) ?_;simp only [aa]
    refine ai rfl (aD rfl (ev rfl) rfl) ?_;simp only [aa]
    refine ai rfl (aD rfl (ev rfl) rfl) ?_;simp only [aa]
    refine ai rfl (aT rfl) ?_;simp only [aa]
    refine az rfl (dp (c := b1) rfl (ev rfl) (ev rfl)) ?_;simp only [aa]
    have hbn := (Below.refl w3.heap.size w3).alloc (Nat.le_refl _) (.cells (cel b1).toArray 29)
    have HA4 := af (HA3.out.trans (hbn.mono HA3.out.size))
    have HR1 := af (cf w3 (cel b1) 29)
    have HR04 := af (dR HR03.out HX03.out hbn)
    generalize w3.alloc (.cells (cel b1).toArray 29) = w4 at *
    generalize w3.heap.size = a1 at *
    clear hbn HA3 HR03 HX03
    refine ai rfl (aq rfl (ev rfl)) ?_;simp only [aa]
    refine ah ?_
    go_upto_region 9 with fail
    refine ag ?_
    refine ai rfl (aS (c := b0) rfl (ev rfl) HR04.out) ?_;simp only [aa]
    refine ai rfl (aS (c := b1) rfl (ev rfl) HR1.out) ?_;simp only [aa]
    refine ar rfl (av Tryz.call34 rfl (evc (ev rfl) (evc (ev rfl) evn))) ?_
    refine (HNEW.out w4).mono ?_
    rintro e w5 ⟨rfl, hbw⟩
    have HA5 := af (HA4.out.trans (hbw.mono HA4.out.size))
    clear hbw HA4 HR04 HR1
    refine ⟨_, rfl, ?_⟩
    simp only [aa]
    refine ai rfl (aj rfl (ev rfl)) ?_;simp only [aa]
    iterate 3 (refine ai rfl (aD rfl (ev rfl) rfl) ?_;simp only [aa])
    refine ai rfl (bG rfl) ?_;simp only [aa]
    refine ai rfl (aq rfl (ev rfl)) ?_;simp only [aa]
    refine az rfl (cX (c := m) rfl (ev rfl) (ev rfl)) ?_;simp only [aa]
    have hbn := (Below.refl w5.heap.size w5).alloc (Nat.le_refl _) (.cells (a8 m).toArray 32)
    have HA6 := af (HA5.out.trans (hbn.mono HA5.out.size))
    have HM6 := af (bP.new w5 m)
    generalize w5.alloc (.cells (a8 m).toArray 32) = w6 at *
    generalize w5.heap.size = mb at *
    clear hbn HA5
    refine ai rfl (aq rfl (ev rfl)) ?_;simp only [aa]
    refine ah ?_
    have HBM6 := af (bF.below HB.out HA6.out)
    by_cases c0 : ¬ eN = 0
    ·have T0 : Hid (((eN : Int) != 0) = true) := af (by simp only [bne_iff_ne, ne_eq]; omega)
     have HQE := af (HFO.out (by omega) HEZ.out)
     have HNE : Hid (dI M (D : Int) ≠ 0) := af (by rw [HQE.out]; decide)
     clear c0
     go_upto_region 10 with fail
     refine aI (B := w6.heap.size) (by kernel_rfl) ?_
     refine ao rfl (fun w' hw => aj rfl (ev rfl)) ?_;simp only [aa]
     refine ao (v := .bool true) rfl (fun w' hw => aU true rfl (ev rfl) evk T0.out) ?_;simp only [aa]
     refine cI 7 (v := .bool true) rfl (fun w' hw => aj rfl (ev rfl)) (by kernel_rfl) ?_
     simp only [aJ, ae, aa]
     refine ao (v := .bool true) rfl (fun w' hw => aG rfl (ev rfl) evk) ?_;simp only [aa]
     refine cI 2 (v := .bool true) rfl (fun w' hw => aj rfl (ev rfl)) (by kernel_rfl) ?_
     simp only [aJ, ae, aa]
     refine ao (v := .bool true) rfl (fun w' hw => aG rfl (ev rfl) evk) ?_;simp only [aa]
     refine cI 3 (v := .bool true) rfl (fun w' hw => aj rfl (ev rfl)) (by kernel_rfl) ?_
     simp only [aJ, ae, aa]
     refine ao (v := .bool true) rfl (fun w' hw => aG rfl (ev rfl) evk) ?_;simp only [aa]
     refine cI 3 (v := .bool true) rfl (fun w' hw => aj rfl (ev rfl)) (by kernel_rfl) ?_
     simp only [aJ, ae, aa]
     refine ao (v := .bool true) rfl (fun w' hw => aG rfl (ev rfl) evk) ?_;simp only [aa]
     refine wpQuiet_nil ?_
     intro w7 hw
     have HA7 := af (HA6.out.trans (hw.mono HA6.out.size))
     clear hw
     go_wp2_with fail
     go_ret2
     exact LNew.same HB.out HA7.out HNE.out (by rw [HQE.out]; rfl)
    ·have T0 : Hid (((eN : Int) != 0) = false) := af (by simp only [bne_eq_false_iff_eq]; omega)
     by_cases c1 : bO M (D : Int) - 10 < m.ring
     ·have T1 : Hid (decide (bO M (D : Int) - 10 < m.ring) = true) := af (decide_eq_true (by omega))
      have HQE := af (HFO.out (by omega) HEZ.out)
      have HNE : Hid (dI M (D : Int) ≠ 0) := af (by rw [HQE.out]; decide)
      clear c0 c1
      go_upto_region 10 with fail
      refine aI (B := w6.heap.size) (by kernel_rfl) ?_
      refine ao rfl (fun w' hw => aj rfl (ev rfl)) ?_;simp only [aa]
      refine ao (v := .bool false) rfl (fun w' hw => aU false rfl (ev rfl) evk T0.out) ?_;simp only [aa]
      refine ao (v := .bool false) rfl (fun w' hw => aj rfl (ev rfl)) ?_;simp only [aa]
      refine ao gr (fun w' hw => am rfl (ev rfl) faM1) ?_;simp only [aa]
      refine ao gr (fun w' hw => au rfl (ev rfl) (bj (HM6.out.below (aK HM6.out) hw).cells.2.1)) ?_;simp only [aa]
      refine ao gr (fun w' hw => aj rfl (ev rfl)) ?_;simp only [aa]
      refine ao gr (fun w' hw => aj rfl (ev rfl)) ?_;simp only [aa]
      refine a9 gr (fun _ => av Tryz.call32 rfl (evc (ev rfl) (evc (ev rfl) evn))) (aW (Nat.le_refl _) fun w' hw => rl_sec_d (D : Int) (bF.below HBM6.out hw)) ?_;simp only [aa]
      refine ao gr (fun w' hw => fw rfl (ev rfl) evk HSE.out) ?_;simp only [aa]
      refine ao (v := .bool true) gr (fun w' hw => bp true rfl (ev rfl) (ev rfl) T1.out) ?_;simp only [aa]
      refine ao (v := .bool true) rfl (fun w' hw => aE rfl (ev rfl) (ev rfl)) ?_;simp only [aa]
      refine cI 2 (v := .bool true) rfl (fun w' hw => aj rfl (ev rfl)) (by kernel_rfl) ?_
      simp only [aJ, ae, aa]
      refine ao (v := .bool true) rfl (fun w' hw => aG rfl (ev rfl) evk) ?_;simp only [aa]
      refine cI 3 (v := .bool true) rfl (fun w' hw => aj rfl (ev rfl)) (by kernel_rfl) ?_
      simp only [aJ, ae, aa]
      refine ao (v := .bool true) rfl (fun w' hw => aG rfl (ev rfl) evk) ?_;simp only [aa]
      refine cI 3 (v := .bool true) rfl (fun w' hw => aj rfl (ev rfl)) (by kernel_rfl) ?_
      simp only [aJ, ae, aa]
      refine ao (v := .bool true) rfl (fun w' hw => aG rfl (ev rfl) evk) ?_;simp only [aa]
      refine wpQuiet_nil ?_
      intro w7 hw
      have HA7 := af (HA6.out.trans (hw.mono HA6.out.size))
      clear hw
      go_wp2_with fail
      go_ret2
      exact LNew.same HB.out HA7.out HNE.out (by rw [HQE.out]; rfl)
     ·have T1 : Hid (decide (bO M (D : Int) - 10 < m.ring) = false) := af (decide_eq_false (by omega))
      by_cases c2 : 2305843009213693952 < n
      ·have T2 : Hid (decide ((2305843009213693952 : Int) < (n : Int)) = true) := af (decide_eq_true (by omega))
       have HQE := af (HFO.out (by omega) HEZ.out)
       have HNE : Hid (dI M (D : Int) ≠ 0) := af (by rw [HQE.out]; decide)
       clear c0 c1 c2
       go_upto_region 10 with fail
       refine aI (B := w6.heap.size) (by kernel_rfl) ?_
       refine ao rfl (fun w' hw => aj rfl (ev rfl)) ?_;simp only [aa]
       refine ao (v := .bool false) rfl (fun w' hw => aU false rfl (ev rfl) evk T0.out) ?_;simp only [aa]
       refine ao (v := .bool false) rfl (fun w' hw => aj rfl (ev rfl)) ?_;simp only [aa]
       refine ao gr (fun w' hw => am rfl (ev rfl) faM1) ?_;simp only [aa]
       refine ao gr (fun w' hw => au rfl (ev rfl) (bj (HM6.out.below (aK HM6.out) hw).cells.2.1)) ?_;simp only [aa]
       refine ao gr (fun w' hw => aj rfl (ev rfl)) ?_;simp only [aa]
       refine ao gr (fun w' hw => aj rfl (ev rfl)) ?_;simp only [aa]
       refine a9 gr (fun _ => av Tryz.call32 rfl (evc (ev rfl) (evc (ev rfl) evn))) (aW (Nat.le_refl _) fun w' hw => rl_sec_d (D : Int) (bF.below HBM6.out hw)) ?_;simp only [aa]
       refine ao gr (fun w' hw => fw rfl (ev rfl) evk HSE.out) ?_;simp only [aa]
       refine ao (v := .bool false) gr (fun w' hw => bp false rfl (ev rfl) (ev rfl) T1.out) ?_;simp only [aa]
       refine ao (v := .bool false) rfl (fun w' hw => aE rfl (ev rfl) (ev rfl)) ?_;simp only [aa]
       refine ao (v := .bool false) rfl (fun w' hw => aj rfl (ev rfl)) ?_;simp only [aa]
       refine ao gr (fun w' hw => aj rfl (ev rfl)) ?_;simp only [aa]
       refine ao (v := .bool true) gr (fun w' hw => bp true rfl (ev rfl) evk T2.out) ?_;simp only [aa]
       refine ao (v := .bool true) rfl (fun w' hw => aE rfl (ev rfl) (ev rfl)) ?_;simp only [aa]
       refine cI 3 (v := .bool true) rfl (fun w' hw => aj rfl (ev rfl)) (by kernel_rfl) ?_
       simp only [aJ, ae, aa]
       refine ao (v := .bool true) rfl (fun w' hw => aG rfl (ev rfl) evk) ?_;simp only [aa]
       refine cI 3 (v := .bool true) rfl (fun w' hw => aj rfl (ev rfl)) (by kernel_rfl) ?_
       simp only [aJ, ae, aa]
       refine ao (v := .bool true) rfl (fun w' hw => aG rfl (ev rfl) evk) ?_;simp only [aa]
       refine wpQuiet_nil ?_
       intro w7 hw
       have HA7 := af (HA6.out.trans (hw.mono HA6.out.size))
       clear hw
       go_wp2_with fail
       go_ret2
       exact LNew.same HB.out HA7.out HNE.out (by rw [HQE.out]; rfl)
      ·have T2 : Hid (decide ((2305843009213693952 : Int) < (n : Int)) = false) := af (decide_eq_false (by omega))
       by_cases c3 : 2305843009213693952 < m.first
       ·have T3 : Hid (decide ((2305843009213693952 : Int) < (m.first : Int)) = true) := af (decide_eq_true (by omega))
        have HQE := af (HFO.out (by omega) HEZ.out)
        have HNE : Hid (dI M (D : Int) ≠ 0) := af (by rw [HQE.out]; decide)
        clear c0 c1 c2 c3
        go_upto_region 10 with fail
        refine aI (B := w6.heap.size) (by kernel_rfl) ?_
        refine ao rfl (fun w' hw => aj rfl (ev rfl)) ?_;simp only [aa]
        refine ao (v := .bool false) rfl (fun w' hw => aU false rfl (ev rfl) evk T0.out) ?_;simp only [aa]
        refine ao (v := .bool false) rfl (fun w' hw => aj rfl (ev rfl)) ?_;simp only [aa]
        refine ao gr (fun w' hw => am rfl (ev rfl) faM1) ?_;simp only [aa]
        refine ao gr (fun w' hw => au rfl (ev rfl) (bj (HM6.out.below (aK HM6.out) hw).cells.2.1)) ?_;simp only [aa]
        refine ao gr (fun w' hw => aj rfl (ev rfl)) ?_;simp only [aa]
        refine ao gr (fun w' hw => aj rfl (ev rfl)) ?_;simp only [aa]
        refine a9 gr (fun _ => av Tryz.call32 rfl (evc (ev rfl) (evc (ev rfl) evn))) (aW (Nat.le_refl _) fun w' hw => rl_sec_d (D : Int) (bF.below HBM6.out hw)) ?_;simp only [aa]
        refine ao gr (fun w' hw => fw rfl (ev rfl) evk HSE.out) ?_;simp only [aa]
        refine ao (v := .bool false) gr (fun w' hw => bp false rfl (ev rfl) (ev rfl) T1.out) ?_;simp only [aa]
        refine ao (v := .bool false) rfl (fun w' hw => aE rfl (ev rfl) (ev rfl)) ?_;simp only [aa]
        refine ao (v := .bool false) rfl (fun w' hw => aj rfl (ev rfl)) ?_;simp only [aa]
        refine ao gr (fun w' hw => aj rfl (ev rfl)) ?_;simp only [aa]
        refine ao (v := .bool false) gr (fun w' hw => bp false rfl (ev rfl) evk T2.out) ?_;simp only [aa]
        refine ao (v := .bool false) rfl (fun w' hw => aE rfl (ev rfl) (ev rfl)) ?_;simp only [aa]
        refine ao (v := .bool false) rfl (fun w' hw => aj rfl (ev rfl)) ?_;simp only [aa]
        refine ao gr (fun w' hw => am rfl (ev rfl) faMo2) ?_;simp only [aa]
        refine ao gr (fun w' hw => au rfl (ev rfl) (bL (HM6.out.below (aK HM6.out) hw).cells.2.2.1)) ?_;simp only [aa]
        refine ao (v := .bool true) gr (fun w' hw => bp true rfl (ev rfl) evk T3.out) ?_;simp only [aa]
        refine ao (v := .bool true) rfl (fun w' hw => aE rfl (ev rfl) (ev rfl)) ?_;simp only [aa]
        refine cI 3 (v := .bool true) rfl (fun w' hw => aj rfl (ev rfl)) (by kernel_rfl) ?_
        simp only [aJ, ae, aa]
        refine ao (v := .bool true) rfl (fun w' hw => aG rfl (ev rfl) evk) ?_;simp only [aa]
        refine wpQuiet_nil ?_
        intro w7 hw
        have HA7 := af (HA6.out.trans (hw.mono HA6.out.size))
        clear hw
        go_wp2_with fail
        go_ret2
        exact LNew.same HB.out HA7.out HNE.out (by rw [HQE.out]; rfl)
       ·have T3 : Hid (decide ((2305843009213693952 : Int) < (m.first : Int)) = false) := af (decide_eq_false (by omega))
        by_cases c4 : 2305843009213693952 < m.pos
        ·have T4 : Hid (decide ((2305843009213693952 : Int) < (m.pos : Int)) = true) := af (decide_eq_true (by omega))
         have HQE := af (HFO.out (by omega) HEZ.out)
         have HNE : Hid (dI M (D : Int) ≠ 0) := af (by rw [HQE.out]; decide)
         clear c0 c1 c2 c3 c4
         go_upto_region 10 with fail
         refine aI (B := w6.heap.size) (by kernel_rfl) ?_
         refine ao rfl (fun w' hw => aj rfl (ev rfl)) ?_;simp only [aa]
         refine ao (v := .bool false) rfl (fun w' hw => aU false rfl (ev rfl) evk T0.out) ?_;simp only [aa]
         refine ao (v := .bool false) rfl (fun w' hw => aj rfl (ev rfl)) ?_;simp only [aa]
         refine ao gr (fun w' hw => am rfl (ev rfl) faM1) ?_;simp only [aa]
         refine ao gr (fun w' hw => au rfl (ev rfl) (bj (HM6.out.below (aK HM6.out) hw).cells.2.1)) ?_;simp only [aa]
         refine ao gr (fun w' hw => aj rfl (ev rfl)) ?_;simp only [aa]
         refine ao gr (fun w' hw => aj rfl (ev rfl)) ?_;simp only [aa]
         refine a9 gr (fun _ => av Tryz.call32 rfl (evc (ev rfl) (evc (ev rfl) evn))) (aW (Nat.le_refl _) fun w' hw => rl_sec_d (D : Int) (bF.below HBM6.out hw)) ?_;simp only [aa]
         refine ao gr (fun w' hw => fw rfl (ev rfl) evk HSE.out) ?_;simp only [aa]
         refine ao (v := .bool false) gr (fun w' hw => bp false rfl (ev rfl) (ev rfl) T1.out) ?_;simp only [aa]
         refine ao (v := .bool false) rfl (fun w' hw => aE rfl (ev rfl) (ev rfl)) ?_;simp only [aa]
         refine ao (v := .bool false) rfl (fun w' hw => aj rfl (ev rfl)) ?_;simp only [aa]
         refine ao gr (fun w' hw => aj rfl (ev rfl)) ?_;simp only [aa]
         refine ao (v := .bool false) gr (fun w' hw => bp false rfl (ev rfl) evk T2.out) ?_;simp only [aa]
         refine ao (v := .bool false) rfl (fun w' hw => aE rfl (ev rfl) (ev rfl)) ?_;simp only [aa]
         refine ao (v := .bool false) rfl (fun w' hw => aj rfl (ev rfl)) ?_;simp only [aa]
         refine ao gr (fun w' hw => am rfl (ev rfl) faMo2) ?_;simp only [aa]
         refine ao gr (fun w' hw => au rfl (ev rfl) (bL (HM6.out.below (aK HM6.out) hw).cells.2.2.1)) ?_;simp only [aa]
         refine ao (v := .bool false) gr (fun w' hw => bp false rfl (ev rfl) evk T3.out) ?_;simp only [aa]
         refine ao (v := .bool false) rfl (fun w' hw => aE rfl (ev rfl) (ev rfl)) ?_;simp only [aa]
         refine ao (v := .bool false) rfl (fun w' hw => aj rfl (ev rfl)) ?_;simp only [aa]
         refine ao gr (fun w' hw => am rfl (ev rfl) faMo3) ?_;simp only [aa]
         refine ao gr (fun w' hw => au rfl (ev rfl) (bL (HM6.out.below (aK HM6.out) hw).cells.2.2.2)) ?_;simp only [aa]
         refine ao (v := .bool true) gr (fun w' hw => bp true rfl (ev rfl) evk T4.out) ?_;simp only [aa]
         refine ao (v := .bool true) rfl (fun w' hw => aE rfl (ev rfl) (ev rfl)) ?_;simp only [aa]
         refine wpQuiet_nil ?_
         intro w7 hw
         have HA7 := af (HA6.out.trans (hw.mono HA6.out.size))
         clear hw
         go_wp2_with fail
         go_ret2
         exact LNew.same HB.out HA7.out HNE.out (by rw [HQE.out]; rfl)
        ·have T4 : Hid (decide ((2305843009213693952 : Int) < (m.pos : Int)) = false) := af (decide_eq_false (by omega))
         have HQE := af (HYE.out (by omega) HEZ.out)
         have HK0 := af (opn_ok0 HQE.out)
         have HOL : Hid (opnN M 8 (opnX M (D : Int)) = opnL M (D : Int)) := af rfl
         rw [HOX.out] at HK0 HOL
         obtain ⟨R, hR⟩ : ∃ R, m.ring.toNat = R := ⟨_, rfl⟩
         rw [hR] at HK0 HOL
         have HRI : Hid (m.ring = (R : Int)) := af (by have := HK0.out.siz.1; simp only at this; omega)
         have HFP : Hid (m.first ≤ 2305843009213693952 ∧ m.pos ≤ 2305843009213693952) := af (by omega)
         clear c0 c1 c2 c3 c4 hR
         go_upto_region 10 with fail
         refine aI (B := w6.heap.size) (by kernel_rfl) ?_
         refine ao rfl (fun w' hw => aj rfl (ev rfl)) ?_;simp only [aa]
         refine ao (v := .bool false) rfl (fun w' hw => aU false rfl (ev rfl) evk T0.out) ?_;simp only [aa]
         refine ao (v := .bool false) rfl (fun w' hw => aj rfl (ev rfl)) ?_;simp only [aa]
         refine ao gr (fun w' hw => am rfl (ev rfl) faM1) ?_;simp only [aa]
         refine ao gr (fun w' hw => au rfl (ev rfl) (bj (HM6.out.below (aK HM6.out) hw).cells.2.1)) ?_;simp only [aa]
         refine ao gr (fun w' hw => aj rfl (ev rfl)) ?_;simp only [aa]
         refine ao gr (fun w' hw => aj rfl (ev rfl)) ?_;simp only [aa]
         refine a9 gr (fun _ => av Tryz.call32 rfl (evc (ev rfl) (evc (ev rfl) evn))) (aW (Nat.le_refl _) fun w' hw => rl_sec_d (D : Int) (bF.below HBM6.out hw)) ?_;simp only [aa]
         refine ao gr (fun w' hw => fw rfl (ev rfl) evk HSE.out) ?_;simp only [aa]
         refine ao (v := .bool false) gr (fun w' hw => bp false rfl (ev rfl) (ev rfl) T1.out) ?_;simp only [aa]
         refine ao (v := .bool false) rfl (fun w' hw => aE rfl (ev rfl) (ev rfl)) ?_;simp only [aa]
         refine ao (v := .bool false) rfl (fun w' hw => aj rfl (ev rfl)) ?_;simp only [aa]
         refine ao gr (fun w' hw => aj rfl (ev rfl)) ?_;simp only [aa]
         refine ao (v := .bool false) gr (fun w' hw => bp false rfl (ev rfl) evk T2.out) ?_;simp only [aa]
         refine ao (v := .bool false) rfl (fun w' hw => aE rfl (ev rfl) (ev rfl)) ?_;simp only [aa]
         refine ao (v := .bool false) rfl (fun w' hw => aj rfl (ev rfl)) ?_;simp only [aa]
         refine ao gr (fun w' hw => am rfl (ev rfl) faMo2) ?_;simp only [aa]
         refine ao gr (fun w' hw => au rfl (ev rfl) (bL (HM6.out.below (aK HM6.out) hw).cells.2.2.1)) ?_;simp only [aa]
         refine ao (v := .bool false) gr (fun w' hw => bp false rfl (ev rfl) evk T3.out) ?_;simp only [aa]
         refine ao (v := .bool false) rfl (fun w' hw => aE rfl (ev rfl) (ev rfl)) ?_;simp only [aa]
         refine ao (v := .bool false) rfl (fun w' hw => aj rfl (ev rfl)) ?_;simp only [aa]
         refine ao gr (fun w' hw => am rfl (ev rfl) faMo3) ?_;simp only [aa]
         refine ao gr (fun w' hw => au rfl (ev rfl) (bL (HM6.out.below (aK HM6.out) hw).cells.2.2.2)) ?_;simp only [aa]
         refine ao (v := .bool false) gr (fun w' hw => bp false rfl (ev rfl) evk T4.out) ?_;simp only [aa]
         refine ao (v := .bool false) rfl (fun w' hw => aE rfl (ev rfl) (ev rfl)) ?_;simp only [aa]
         refine wpQuiet_nil ?_
         intro w7 hw
         have HA7 := af (HA6.out.trans (hw.mono HA6.out.size))
         have HM7 := af (HM6.out.below (aK HM6.out) hw)
         have HBM7 := af (bF.below HBM6.out hw)
         have HC7 : Hid (w7.cell? ⟨mb, 1, none⟩ = some (.int .i64 (R : Int))) := af (by rw [← HRI.out]; exact HM7.out.cells.2.1)
         clear hw HA6 HM6 HBM6 T0 T1 T2 T3 T4
         obtain ⟨X, hX⟩ : ∃ X, opnL M (D : Int) = X := ⟨_, rfl⟩
         rw [hX] at HOL
         have HXE := af hX
         clear hX
         have HJ1 := af (RJ.first (x := ⟨D, m.id, R, n, m.first, m.pos, []⟩) HBM7.out rfl)
         go_upto_region 12 with fail
         refine ag ?_
         refine ai rfl (aj rfl (ev rfl)) ?_;simp only [aa]
         refine ai rfl (aj rfl (ev rfl)) ?_;simp only [aa]
         refine ai rfl (am rfl (ev rfl) faM0) ?_;simp only [aa]
         refine ai rfl (au rfl (ev rfl) (bL HM7.out.cells.1)) ?_;simp only [aa]
         refine ai rfl (am rfl (ev rfl) faM1) ?_;simp only [aa]
         refine ai rfl (au rfl (ev rfl) (bj HC7.out)) ?_;simp only [aa]
         refine ai rfl (aj rfl (ev rfl)) ?_;simp only [aa]
         refine ai rfl (am rfl (ev rfl) faMo2) ?_;simp only [aa]
         refine ai rfl (au rfl (ev rfl) (bL HM7.out.cells.2.2.1)) ?_;simp only [aa]
         refine ai rfl (am rfl (ev rfl) faMo3) ?_;simp only [aa]
         refine ai rfl (au rfl (ev rfl) (bL HM7.out.cells.2.2.2)) ?_;simp only [aa]
         refine ai rfl (exec_bldLg7 rfl (ev rfl) (ev rfl) (ev rfl) (ev rfl) (ev rfl) (ev rfl) (ev rfl)) ?_;simp only [aa]
         refine ai rfl (exec_boxLg (q := q) (v := .slice none 0 0) (x := ⟨D, m.id, R, n, m.first, m.pos, []⟩) rfl (ev rfl)) ?_;simp only [aa]
         refine ai rfl (aq rfl (ev rfl)) ?_;simp only [aa]
         refine ah ?_
         have HP : Hid (∀ b, ch w7.heap.size (.slice none 0 0) b → w.heap.size ≤ b) := af fun b hb => by
          rcases hb with rfl | e
          ·exact HA7.out.size
          ·simp [Value.ownBlock] at e
         have HBW : Hid (Below w.heap.size w (w7.alloc (.cells (rlgC q (.slice none 0 0) ⟨D, m.id, R, n, m.first, m.pos, []⟩).toArray 89))) := af (HA7.out.alloc HA7.out.size _)
         have HPV : Hid (w7.heap.size < (w7.alloc (.cells (rlgC q (.slice none 0 0) ⟨D, m.id, R, n, m.first, m.pos, []⟩).toArray 89)).heap.size) := af (by rw [World.size_alloc]; omega)
         generalize hw1 : w7.alloc (.cells (rlgC q (.slice none 0 0) ⟨D, m.id, R, n, m.first, m.pos, []⟩).toArray 89) = w8 at *
         obtain ⟨H, hH⟩ : ∃ H : Nat → Prop, (fun b => G b ∨ ch w7.heap.size (.slice none 0 0) b) = H := ⟨_, rfl⟩
         have HHH : Hid (∀ b, H b → G b ∨ ch w7.heap.size (.slice none 0 0) b) := af fun b hb => by rw [← hH] at hb; exact hb
         rw [hH] at HJ1
         clear hw1 hH
         obtain ⟨p, hp⟩ : ∃ p, w7.heap.size = p := ⟨_, rfl⟩
         rw [hp] at HJ1 HP HPV HHH ⊢
         have HEND : Hid (∀ v x e w', RJ w8 H (fun _ => False) w' p q v M x → x = X → (∀ b, v.ownBlock = some b → w.heap.size ≤ b) → e = .returned (.tuple #[.pointer (some ⟨p, 0, none⟩), .int .i64 0]) → LNew w G q (dI M (D : Int)) M (opnL M (D : Int)) e w') :=
          af fun v x e w' hj hx hv he => by
           rw [HQE.out, HXE.out]
           subst hx
           exact LNew.of HBW.out HHH.out HP.out hj HLT.out HPV.out (.inl ⟨rfl, he⟩) hv
         have HWP : Hid (w.heap.size ≤ w8.heap.size) := af HBW.out.size
         clear HBW HHH HP HPV HB HLT HXE hp HA7 HM7 HBM7 HC7
         generalize w.heap.size = W0 at HEND HWP
         go_wp2_with fail
         go_loopw [13] (fun e13 wr => ∃ k x vr, x.nts.length + k = 8 ∧ opnN M k x = X ∧ x.d = D ∧ x.fst ≤ 2305843009213693952 ∧ x.pos ≤ 2305843009213693952 ∧ LgOk M x 0 ∧ RJ w8 H (fun _ => False) wr p q vr M x ∧ (∀ b, vr.ownBlock = some b → W0 ≤ b)) (fun _ wr => 8 - ntsLen wr p)
         case atStart => exact ⟨8, _, _, rfl, HOL.out, rfl, HFP.out.1, HFP.out.2, HK0.out, HJ1.out, fun b e => by simp [Value.ownBlock] at e⟩
         case round =>
          obtain ⟨k, x, vr, hk8, hon, hxd, hxf, hxp, hok, hjj, hov⟩ := hrel
          have HJ := af hjj
          have HK := af hok
          have HON := af hon
          have HOV := af hov
          have HXD := af hxd
          have HXF := af hxf
          have HXP := af hxp
          have HLn := af hjj.log.ntsLen
          clear hjj hok hon hov hxd hxf hxp HJ1 HK0 HOL
          obtain ⟨A, c, rfl, hc1, hc2⟩ := HJ.out.log.slice
          have HL := af HJ.out.log
          clear hc1 hc2
          by_cases hlt : x.nts.length < 8
          ·obtain ⟨k, rfl⟩ : ∃ k', k = k' + 1 := ⟨k - 1, by omega⟩
           have T0 : Hid (decide ((x.nts.length : Int) < 8) = true) := af (decide_eq_true (by omega))
           have HLL := af hlt
           have HK8 := af hk8
           obtain ⟨z, hz⟩ : ∃ z, cq M (D : Int) (cp x.next) = z := ⟨_, rfl⟩
           have HZ := af hz
           have HZX : Hid (cq M (x.d : Int) (cp x.next) = z) := af (by rw [HXD.out]; exact hz)
           have HZE : Hid (bT M (D : Int) (cp x.next) = 0) := af (by
            unfold cp
            rw [HRE.out (2 + x.next % 8) (by omega)]
            exact HEZ.out)
           have HAD2 : Hid (IntKind.i64.wrap (2 + ((x.next % 8 : Nat) : Int)) = cp x.next) := af (by
            have := Nat.mod_lt x.next (show 0 < 8 by omega)
            rw [IntWalk.i64_in _ ⟨by omega, by omega⟩]
            unfold cp
            omega)
           have HNX : Hid (x.next < 18446744073709551616) := af (by have := HK.out.nxt; omega)
           obtain ⟨kx, hkx⟩ : ∃ y, aL.gX z = y := ⟨_, rfl⟩
           obtain ⟨ge, hge⟩ : ∃ y, aL.gE z = y := ⟨_, rfl⟩
           have HGET : Hid (∀ w, Calls Tryz.prog 37 #[blk z] w fun e w' => e = .returned (.tuple #[nte kx, .int .i64 (ge : Nat)]) ∧ Below w.heap.size w w') := af fun w => by
            have := rntget z w
            rwa [hkx, hge] at this
           have HST : Hid (¬ (ge = 0 ∧ kx.seq = x.next ∧ kx.pos = x.head ∧ bc kx ≤ x.free) → x = X) := af fun h => by
            rw [← HON.out]
            exact (opnN_stop HZX.out (by rw [hge, hkx]; exact h)).symm
           have HGO : Hid ((ge = 0 ∧ kx.seq = x.next ∧ kx.pos = x.head ∧ bc kx ≤ x.free) → opnN M k (x.with_ kx) = X ∧ LgOk M (x.with_ kx) 0) := af fun h => by
            have h' : aL.gE z = 0 ∧ (aL.gX z).seq = x.next ∧ (aL.gX z).pos = x.head ∧ bc (aL.gX z) ≤ x.free := by rw [hge, hkx]; exact h
            have g1 := opnN_go (M := M) (k := k) HZX.out h'
            have g2 := opn_step HK.out HZX.out h' (by have := HLL.out; omega) HXF.out HXP.out
            rw [hkx] at g1 g2
            exact ⟨g1.symm.trans HON.out, g2⟩
           have HSZ : Hid (ge = 0 → dZ kx.cells = bc kx) := af fun h => by
            have m1 := eX (aL.gX_may (hge.trans h))
            rw [hkx] at m1
            exact sz_tak ⟨m1.2.2.2.1, m1.2.2.2.2⟩
           clear hz hkx hge hlt hk8
           go_upto_region 13 with fail
           refine ag ?_
           refine ai rfl (aj rfl (ev rfl)) ?_;simp only [aa]
           refine ai rfl (aB rfl (ev rfl)) ?_;simp only [aa]
           refine ai rfl (am rfl (ev rfl) faLg7) ?_;simp only [aa]
           refine ai rfl (au rfl (ev rfl) (ldNts (RLg.c7 HL.out))) ?_;simp only [aa]
           refine ai rfl (cD Tryz.underlying78 rfl (ev rfl)) ?_;simp only [aa]
           refine ai (v := .bool true) rfl (aZ true rfl (ev rfl) evk T0.out) ?_;simp only [aa]
           refine ah ?_
           go_upto_region 14 with fail
           refine ag ?_
           iterate 3 (refine ai rfl (aj rfl (ev rfl)) ?_;simp only [aa])
           refine ar rfl (av Tryz.call36 rfl (evc (ev rfl) evn)) ?_
           refine (rlnext wr HL.out HK.out).mono ?_
           rintro e wa ⟨rfl, hbw⟩
           have HJa := af (HJ.out.below hbw)
           clear hbw HJ HL
           refine ⟨_, rfl, ?_⟩
           simp only [aa]
           refine ar rfl (av Tryz.call35 rfl (evc (ev rfl) evn)) ?_
           refine (rntslot x.next wa HNX.out).mono ?_
           rintro e w' ⟨rfl, rfl⟩
           refine ⟨_, rfl, ?_⟩
           simp only [aa]
           refine ai rfl (da rfl evk (ev rfl) HAD2.out) ?_;simp only [aa]
           refine ar rfl (av Tryz.call33 rfl (evc (ev rfl) (evc (ev rfl) (evc (ev rfl) evn)))) ?_
           refine (RJ.read (D : Int) (cp x.next) HJa.out).mono ?_
           rintro e wb ⟨rfl, hbw⟩
           rw [HZ.out, HZE.out]
           have HJb := af (HJa.out.below hbw)
           clear hbw HJa
           refine ⟨_, rfl, ?_⟩
           simp only [aa]
           refine ai rfl (aj rfl (ev rfl)) ?_;simp only [aa]
           refine ai rfl (aD rfl (ev rfl) rfl) ?_;simp only [aa]
           refine ai rfl (aD rfl (ev rfl) rfl) ?_;simp only [aa]
           refine ai rfl (aT rfl) ?_;simp only [aa]
           refine az rfl (dp (c := z) rfl (ev rfl) (ev rfl)) ?_;simp only [aa]
           have HJc := af (HJb.out.below ((Below.refl wb.heap.size wb).alloc (Nat.le_refl _) (.cells (cel z).toArray 29)))
           have HRz := af (cf wb (cel z) 29)
           generalize wb.alloc (.cells (cel z).toArray 29) = wc at *
           generalize wb.heap.size = zb at *
           clear HJb
           refine ai rfl (aq rfl (ev rfl)) ?_;simp only [aa]
           refine ah ?_
           go_upto_region 17 with fail
           refine ag ?_
           refine ai rfl (aS (c := z) rfl (ev rfl) HRz.out) ?_;simp only [aa]
           refine ar rfl (av Tryz.call37 rfl (evc (ev rfl) evn)) ?_
           refine (HGET.out wc).mono ?_
           rintro e wd ⟨rfl, hbw⟩
           have HJd := af (HJc.out.below hbw)
           clear hbw HJc HRz
           refine ⟨_, rfl, ?_⟩
           simp only [aa]
           refine ai rfl (aj rfl (ev rfl)) ?_;simp only [aa]
           refine ai rfl (aD rfl (ev rfl) rfl) ?_;simp only [aa]
           refine ai rfl (aD rfl (ev rfl) rfl) ?_;simp only [aa]
           refine ai rfl (bW rfl) ?_;simp only [aa]
           refine az rfl (dk (c := kx) rfl (ev rfl) (ev rfl)) ?_;simp only [aa]
           have HJe := af (HJd.out.below ((Below.refl wd.heap.size wd).alloc (Nat.le_refl _) (.cells (aQ kx).toArray 35)))
           have HNe := af (bI.new wd kx)
           have HNB := af HJd.out.log.lt
           generalize wd.alloc (.cells (aQ kx).toArray 35) = we at *
           generalize wd.heap.size = nb at *
           clear HJd
           refine ai rfl (aq rfl (ev rfl)) ?_;simp only [aa]
           refine ah ?_
           have HL := af HJe.out.log
           go_upto_region 18 with fail
           refine aI (B := we.heap.size) (by kernel_rfl) ?_
           refine ao rfl (fun w' hw => aj rfl (ev rfl)) ?_;simp only [aa]
           by_cases s0 : ¬ ge = 0
           ·have S0 : Hid (((ge : Int) != 0) = true) := af (by simp only [bne_iff_ne, ne_eq]; omega)
            have HXX := af (HST.out (by omega))
            clear s0
            refine ao (v := .bool true) rfl (fun w' hw => aU true rfl (ev rfl) evk S0.out) ?_;simp only [aa]
            refine cI 5 (v := .bool true) rfl (fun w' hw => aj rfl (ev rfl)) (by kernel_rfl) ?_
            simp only [aJ, ae, aa]
            refine ao (v := .bool true) rfl (fun w' hw => aG rfl (ev rfl) evk) ?_;simp only [aa]
            refine cI 5 (v := .bool true) rfl (fun w' hw => aj rfl (ev rfl)) (by kernel_rfl) ?_
            simp only [aJ, ae, aa]
            refine ao (v := .bool true) rfl (fun w' hw => aG rfl (ev rfl) evk) ?_;simp only [aa]
            refine cI 6 (v := .bool true) rfl (fun w' hw => aj rfl (ev rfl)) (by kernel_rfl) ?_
            simp only [aJ, ae, aa]
            refine ao (v := .bool true) rfl (fun w' hw => aG rfl (ev rfl) evk) ?_;simp only [aa]
            refine wpQuiet_nil ?_
            intro wf hw
            have HJf := af (HJe.out.below hw)
            clear hw
            go_wp2_with fail
            go_ret2
            exact HEND.out _ _ _ _ HJf.out HXX.out HOV.out rfl
           ·have S0 : Hid (((ge : Int) != 0) = false) := af (by simp only [bne_eq_false_iff_eq]; omega)
            refine ao (v := .bool false) rfl (fun w' hw => aU false rfl (ev rfl) evk S0.out) ?_;simp only [aa]
            refine ao (v := .bool false) rfl (fun w' hw => aj rfl (ev rfl)) ?_;simp only [aa]
            refine ao gr (fun w' hw => am rfl (ev rfl) faNt0) ?_;simp only [aa]
            refine ao gr (fun w' hw => au rfl (ev rfl) (bL (HNe.out.below (aK HNe.out) hw).cells.1)) ?_;simp only [aa]
            refine ao gr (fun w' hw => aj rfl (ev rfl)) ?_;simp only [aa]
            refine a9 gr (fun _ => av Tryz.call36 rfl (evc (ev rfl) evn)) (aW (Nat.le_refl _) fun w' hw => rlnext w' (HL.out.below hw) HK.out) ?_;simp only [aa]
            by_cases s1 : ¬ kx.seq = x.next
            ·have S1 : Hid (((kx.seq : Int) != (x.next : Int)) = true) := af (by simp only [bne_iff_ne, ne_eq]; omega)
             have HXX := af (HST.out (by omega))
             clear s0 s1
             refine ao (v := .bool true) gr (fun w' hw => aU true rfl (ev rfl) (ev rfl) S1.out) ?_;simp only [aa]
             refine ao (v := .bool true) rfl (fun w' hw => aE rfl (ev rfl) (ev rfl)) ?_;simp only [aa]
             refine cI 5 (v := .bool true) rfl (fun w' hw => aj rfl (ev rfl)) (by kernel_rfl) ?_
             simp only [aJ, ae, aa]
             refine ao (v := .bool true) rfl (fun w' hw => aG rfl (ev rfl) evk) ?_;simp only [aa]
             refine cI 6 (v := .bool true) rfl (fun w' hw => aj rfl (ev rfl)) (by kernel_rfl) ?_
             simp only [aJ, ae, aa]
             refine ao (v := .bool true) rfl (fun w' hw => aG rfl (ev rfl) evk) ?_;simp only [aa]
             refine wpQuiet_nil ?_
             intro wf hw
             have HJf := af (HJe.out.below hw)
             clear hw
             go_wp2_with fail
             go_ret2
             exact HEND.out _ _ _ _ HJf.out HXX.out HOV.out rfl
            ·have S1 : Hid (((kx.seq : Int) != (x.next : Int)) = false) := af (by simp only [bne_eq_false_iff_eq]; omega)
             refine ao (v := .bool false) gr (fun w' hw => aU false rfl (ev rfl) (ev rfl) S1.out) ?_;simp only [aa]
             refine ao (v := .bool false) rfl (fun w' hw => aE rfl (ev rfl) (ev rfl)) ?_;simp only [aa]
             refine ao (v := .bool false) rfl (fun w' hw => aj rfl (ev rfl)) ?_;simp only [aa]
             refine ao gr (fun w' hw => am rfl (ev rfl) faNt1) ?_;simp only [aa]
             refine ao gr (fun w' hw => au rfl (ev rfl) (bL (HNe.out.below (aK HNe.out) hw).cells.2.1)) ?_;simp only [aa]
             refine ao gr (fun w' hw => aj rfl (ev rfl)) ?_;simp only [aa]
             refine a9 gr (fun _ => av Tryz.call38 rfl (evc (ev rfl) evn)) (aW (Nat.le_refl _) fun w' hw => rlhead_d w' (HL.out.below hw) HK.out) ?_;simp only [aa]
             by_cases s2 : ¬ kx.pos = x.head
             ·have S2 : Hid (((kx.pos : Int) != (x.head : Int)) = true) := af (by simp only [bne_iff_ne, ne_eq]; omega)
              have HXX := af (HST.out (by omega))
              clear s0 s1 s2
              refine ao (v := .bool true) gr (fun w' hw => aU true rfl (ev rfl) (ev rfl) S2.out) ?_;simp only [aa]
              refine ao (v := .bool true) rfl (fun w' hw => aE rfl (ev rfl) (ev rfl)) ?_;simp only [aa]
              refine cI 6 (v := .bool true) rfl (fun w' hw => aj rfl (ev rfl)) (by kernel_rfl) ?_
              simp only [aJ, ae, aa]
              refine ao (v := .bool true) rfl (fun w' hw => aG rfl (ev rfl) evk) ?_;simp only [aa]
              refine wpQuiet_nil ?_
              intro wf hw
              have HJf := af (HJe.out.below hw)
              clear hw
              go_wp2_with fail
              go_ret2
              exact HEND.out _ _ _ _ HJf.out HXX.out HOV.out rfl
             ·have S2 : Hid (((kx.pos : Int) != (x.head : Int)) = false) := af (by simp only [bne_eq_false_iff_eq]; omega)
              have HSK : Hid (dZ kx.cells = bc kx) := af (HSZ.out (by omega))
              refine ao (v := .bool false) gr (fun w' hw => aU false rfl (ev rfl) (ev rfl) S2.out) ?_;simp only [aa]
              refine ao (v := .bool false) rfl (fun w' hw => aE rfl (ev rfl) (ev rfl)) ?_;simp only [aa]
              refine ao (v := .bool false) rfl (fun w' hw => aj rfl (ev rfl)) ?_;simp only [aa]
              refine ao gr (fun w' hw => am rfl (ev rfl) faNt2) ?_;simp only [aa]
              refine ao gr (fun w' hw => au rfl (ev rfl) (bj (HNe.out.below (aK HNe.out) hw).cells.2.2.1)) ?_;simp only [aa]
              refine a9 gr (fun _ => av Tryz.call39 rfl (evc (ev rfl) evn)) (aW (Nat.le_refl _) fun w' hw => rsize_d HSK.out w') ?_;simp only [aa]
              refine ao gr (fun w' hw => aj rfl (ev rfl)) ?_;simp only [aa]
              refine a9 gr (fun _ => av Tryz.call40 rfl (evc (ev rfl) evn)) (aW (Nat.le_refl _) fun w' hw => rlfree w' (HL.out.below hw) HK.out) ?_;simp only [aa]
              by_cases s3 : x.free < bc kx
              ·have S3 : Hid (decide ((x.free : Int) < (bc kx : Int)) = true) := af (decide_eq_true (by omega))
               have HXX := af (HST.out (by omega))
               clear s0 s1 s2 s3
               refine ao (v := .bool true) gr (fun w' hw => bp true rfl (ev rfl) (ev rfl) S3.out) ?_;simp only [aa]
               refine ao (v := .bool true) rfl (fun w' hw => aE rfl (ev rfl) (ev rfl)) ?_;simp only [aa]
               refine wpQuiet_nil ?_
               intro wf hw
               have HJf := af (HJe.out.below hw)
               clear hw
               go_wp2_with fail
               go_ret2
               exact HEND.out _ _ _ _ HJf.out HXX.out HOV.out rfl
              ·have S3 : Hid (decide ((x.free : Int) < (bc kx : Int)) = false) := af (decide_eq_false (by omega))
               obtain ⟨g1, g2⟩ := HGO.out (by omega)
               have HG1 := af g1
               have HG2 := af g2
               clear g1 g2 s0 s1 s2 s3
               refine ao (v := .bool false) gr (fun w' hw => bp false rfl (ev rfl) (ev rfl) S3.out) ?_;simp only [aa]
               refine ao (v := .bool false) rfl (fun w' hw => aE rfl (ev rfl) (ev rfl)) ?_;simp only [aa]
               refine wpQuiet_nil ?_
               intro wf hw
               have HJf := af (HJe.out.below hw)
               have HLf := af HJf.out.log
               have HNf := af (HNe.out.below (aK HNe.out) hw)
               clear hw HJe HL HNe
               have hS : wf.drew.heap[p]? = some (.cells (rlgC q (.slice A x.nts.length c) x).toArray 89 (0, 0)) ∧ bI wf.drew nb kx := ⟨HLf.out.at_, HNf.out⟩
               have HMK : Hid ((nte kx).cells = (aY.cel kx).toArray) := af (by show Value.cells (.agg _) = _; simp [Value.cells]; rfl)
               have HB5 : Hid (Below wf.heap.size wf (wf.drew.alloc (.cells (aY.cel kx).toArray aY.t))) := af ((bd (Below.refl _ _)).alloc (Nat.le_refl _) _)
               have HRD1 : Hid (RdE aY (wf.drew.alloc (.cells (aY.cel kx).toArray aY.t)) (wf.heap.size + 1) (some ⟨wf.heap.size, 0, none⟩) 1 [kx]) := af (eF (l := [kx]) wf.drew _ aY.t (by simp [bC]))
               have hS5 : (wf.drew.alloc (.cells (aY.cel kx).toArray aY.t)).heap[p]? = some (.cells (rlgC q (.slice A x.nts.length c) x).toArray 89 (0, 0)) ∧ bI (wf.drew.alloc (.cells (aY.cel kx).toArray aY.t)) nb kx := ⟨cj HLf.out.at_ HB5.out, HNf.out.below (aK HNf.out) HB5.out⟩
               obtain ⟨vn, w12, hrun, hmn, hgr, hown⟩ := eW aY (wf.drew.alloc (.cells (aY.cel kx).toArray aY.t)) 78 0 (wf.heap.size + 1) 1 1 (.slice A x.nts.length c) x.nts [kx] (some ⟨wf.heap.size, 0, none⟩) (HLf.out.row.below HB5.out) HRD1.out (Nat.zero_le _) (by have := HLL.out; omega)
               have HO12 : Hid (Only (ch p (.slice A x.nts.length c)) wf w12) := af ((Only.of_below _ HB5.out).grown hgr (fun k e => .inl (.inr e)))
               have hpo : (Value.slice A x.nts.length c).ownBlock ≠ some p := HLf.out.rowp
               have hP12 : w12.heap[p]? = some (.cells (rlgC q (.slice A x.nts.length c) x).toArray 89 (0, 0)) := (hgr.block p (aK hS5.1) (fun e => hpo e.symm)).trans hS5.1
               have hnf : ¬ ch p (.slice A x.nts.length c) nb := fun e => Nat.lt_irrefl _ (HNB.out nb e)
               have HN12 : Hid (bI w12 nb kx) := af (HO12.out.keep HNf.out hnf)
               have HRUN := af hrun
               have HMN := af hmn
               have HOWN : Hid (∀ b, vn.ownBlock = some b → (Value.slice A x.nts.length c).ownBlock = some b ∨ wf.heap.size ≤ b) := af fun b e => (hown b e).imp id (fun e => Nat.le_trans HB5.out.size e)
               have HP12 := af hP12
               obtain ⟨An, cn, hvn, _, _⟩ := hmn.form
               subst hvn
               clear hrun hmn hgr hown hpo hP12 hnf
               go_upto_region 20 with fail
               refine bH (fun w' => w'.heap[p]? = some (.cells (rlgC q (.slice A x.nts.length c) x).toArray 89 (0, 0)) ∧ bI w' nb kx) 10 (by kernel_rfl) ?_
               change cF _ _ _ _ _ _ 11 _ _ wf.drew
               refine gu 0 rfl (fun w' hw => aj rfl (ev rfl)) hS ?_;simp only [aa]
               refine gu 1 rfl (fun w' hw => aj rfl (ev rfl)) hS ?_;simp only [aa]
               refine gu 2 rfl (fun w' hw => aB rfl (ev rfl)) hS ?_;simp only [aa]
               refine gu 3 rfl (fun w' hw => am rfl (ev rfl) faLg7) hS ?_;simp only [aa]
               refine gu 4 rfl (fun w' hw => au rfl (ev rfl) (ldNts (cell_row (j := 7) hw.1 rfl))) hS ?_;simp only [aa]
               refine gu 5 rfl (fun w' hw => bh (c := kx) rfl (ev rfl) hw.2.range) hS ?_;simp only [aa]
               refine bl 6 rfl (by kernel_rfl) rfl (du (E := aY) (a := kx) rfl (ev rfl) HMK.out (by show 4 ≤ _; omega)) (fun _ => hS5) ?_;simp only [aa]
               refine bl 7 rfl (by kernel_rfl) rfl (fP (E := aY) rfl (ev rfl) (ev rfl) HRUN.out) (fun _ => ⟨HP12.out, HN12.out⟩) ?_;simp only [aa]
               refine bl 8 rfl (by kernel_rfl) rfl (aB rfl (ev rfl)) (fun _ => ⟨HP12.out, HN12.out⟩) ?_;simp only [aa]
               refine bl 9 rfl (by kernel_rfl) rfl (am rfl (ev rfl) faLg7) (fun _ => ⟨HP12.out, HN12.out⟩) ?_;simp only [aa]
               refine fy 10 rfl (by kernel_rfl) rfl (fD rfl (ev rfl) (ev rfl) (stNts (cell_row (j := 7) HP12.out rfl) (frozen_of_row w12 p 7 _ _ HP12.out))) (fun e => absurd rfl e) ?_
               simp only [Act.put]
               refine cm (by kernel_rfl) ?_ _
               have HH13 := af (row_set HP12.out 7 (.slice An (x.nts ++ [kx]).length cn))
               have HO13 := af (HO12.out.setCell (p := ⟨p, 7, none⟩) (.inl (.inl rfl)) (.slice An (x.nts ++ [kx]).length cn))
               have HOP := af ((Only.refl (fun b => b = p) w12).setCell (p := ⟨p, 7, none⟩) (.inl rfl) (.slice An (x.nts ++ [kx]).length cn))
               generalize w12.setCell ⟨p, 7, none⟩ (.slice An (x.nts ++ [kx]).length cn) = w13 at *
               have HL13 : Hid (RLg w13 p q (.slice An (x.nts ++ [kx]).length cn) (x.with_ kx)) := af ⟨HH13.out, HMN.out.only HOP.out (fun b hb e => HMN.out.dc HP12.out (by decide) (by rw [hb, e]))⟩
               have HJE := af (RJ.grow HJf.out HO13.out HL13.out HOWN.out)
               have HOV2 : Hid (∀ b, (Value.slice An (x.nts ++ [kx]).length cn).ownBlock = some b → W0 ≤ b) := af fun b e => (HOWN.out b e).elim (HOV.out b) (fun e => Nat.le_trans (Nat.le_trans HWP.out HJf.out.size) e)
               have HLN2 := af HL13.out.ntsLen
               clear HH13 HO13 HOP HL13 hS hS5
               go_wp2_with fail
               go_roundw
               case rel => exact ⟨k, x.with_ kx, _, by show (x.nts ++ [kx]).length + k = 8; rw [List.length_append, List.length_singleton]; have := HK8.out; omega, HG1.out, HXD.out, HXF.out, HXP.out, HG2.out, HJE.out, HOV2.out⟩
               case measure =>
                have h1 := HLN2.out
                have h2 : (x.with_ kx).nts.length = x.nts.length + 1 := by show (x.nts ++ [kx]).length = _; rw [List.length_append, List.length_singleton]
                have h3 := HLn.out
                have h4 := HLL.out
                omega
          ·have T0 : Hid (decide ((x.nts.length : Int) < 8) = false) := af (decide_eq_false (by omega))
           have hk0 : k = 0 := by omega
           subst hk0
           have HXX : Hid (x = X) := af HON.out
           clear hlt hk8
           go_upto_region 13 with fail
           refine ag ?_
           refine ai rfl (aj rfl (ev rfl)) ?_;simp only [aa]
           refine ai rfl (aB rfl (ev rfl)) ?_;simp only [aa]
           refine ai rfl (am rfl (ev rfl) faLg7) ?_;simp only [aa]
           refine ai rfl (au rfl (ev rfl) (ldNts (RLg.c7 HL.out))) ?_;simp only [aa]
           refine ai rfl (cD Tryz.underlying78 rfl (ev rfl)) ?_;simp only [aa]
           refine ai (v := .bool false) rfl (aZ false rfl (ev rfl) evk T0.out) ?_;simp only [aa]
           refine ah ?_
           go_wp2_with fail
           go_ret2
           exact HEND.out _ _ _ _ HJ.out HXX.out HOV.out rfl
   ·have HQE := af (HRD.out hE)
    have HNE : Hid (dI M (D : Int) ≠ 0) := af (by rw [HQE.out]; exact hE)
    have hne : (E0 != 0) = true := by simpa using hE
    clear hE
    go_wp2_with fail
    go_ret2
    exact LNew.same HB.out HA2.out HNE.out (by rw [HQE.out]; rfl)
 ·have H0 : Hid (decide (dV M d = 0) = false) := af (decide_eq_false k0)
  have HQE : Hid (dI M d = 2) := af (opn_no1 (by omega))
  clear k0 s1 s2 hb
  go_enter Tryz.func9, Tryz.ntmps9
  go_upto_region 1 with fail
  refine ag ?_
  refine ai rfl (aj rfl (ev rfl)) ?_;simp only [aa]
  refine ai rfl (aj rfl (ev rfl)) ?_;simp only [aa]
  refine ar rfl (av Tryz.call31 rfl (evc (ev rfl) (evc (ev rfl) evn))) ?_
  refine (rl_has_v HB.out H0.out).mono ?_
  rintro e w' ⟨rfl, rfl⟩
  refine ⟨_, rfl, ?_⟩
  simp only [aa]
  refine ai (v := .bool true) rfl (bf false rfl (ev rfl)) ?_;simp only [aa]
  refine aC 4 (v := .bool true) rfl (aj rfl (ev rfl)) (by kernel_rfl) ?_
  simp only [aJ, ae, aa]
  refine ai (v := .bool true) rfl (aG rfl (ev rfl) evk) ?_;simp only [aa]
  refine ah ?_
  have HNE : Hid (dI M d ≠ 0) := af (by rw [HQE.out]; decide)
  go_wp2_with fail
  go_ret2
  exact LNew.same HB.out (Below.refl _ _) HNE.out (by rw [HQE.out]; rfl)
end Go.Proofs.YtbbcdhkinbmdnaaGreatDoor
