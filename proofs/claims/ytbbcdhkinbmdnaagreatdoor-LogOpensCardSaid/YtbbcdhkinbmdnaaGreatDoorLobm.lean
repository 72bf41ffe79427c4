import Derived.Test.YtbbcdhkinbmdnaaGreatDoorLobg
import Derived.Test.YtbbcdhkinbmdnaaGreatDoorLobl
import Derived.Test.YtbbcdhkinbmdnaaGreatDoorLobk
import Derived.Test.YtbbcdhkinbmdnaaGreatDoorLoaf
import Derived.Test.YtbbcdhkinbmdnaaGreatDoorLoan
import Derived.Test.YtbbcdhkinbmdnaaGreatDoorLoar
import Derived.Test.YtbbcdhkinbmdnaaGreatDoorLobi
import Derived.Test.YtbbcdhkinbmdnaaGreatDoorLoZ
namespace Go.Proofs.YtbbcdhkinbmdnaaGreatDoor
open Go.RowKit
set_option linter.unusedVariables false
set_option linter.unusedSimpArgs false
set_option maxRecDepth 100000
theorem run_bldLg2 {w : World} {q : Nat} {d : Int} : (Instr.build 80 #[(0, .pointer (some ⟨q, 0, none⟩)), (1, .int .i64 d)]).run Tryz.prog w = .ok (.agg #[.pointer (some ⟨q, 0, none⟩), .int .i64 d, .int .u64 0, .int .u64 0, .int .i64 0, .int .u64 0, .int .u64 0, .slice none 0 0]) w := by kernel_rfl
theorem exec_bldLg2 {ρ : Operand → Value} {o : Oper} {x1 x2 : Operand} {w : World} {q : Nat} {d : Int} (ho : o.op = .build 80 #[(0, x1), (1, x2)]) (h1 : ρ x1 = .pointer (some ⟨q, 0, none⟩)) (h2 : ρ x2 = .int .i64 d) :
  (execOp ρ o).run Tryz.prog w = .ok (.value (.agg #[.pointer (some ⟨q, 0, none⟩), .int .i64 d, .int .u64 0, .int .u64 0, .int .i64 0, .int .u64 0, .int .u64 0, .slice none 0 0])) w := by
 unfold execOp
 simp only [ho, h1, h2, List.map_toArray, List.map_cons, List.map_nil, Sem.run_bind, run_bldLg2, Result.andThen_ok, Sem.run_pure]
def LgS.none (d : Nat) : LgS := ⟨d, 0, 0, 0, 0, 0, []⟩
theorem nX_may {a b : Blk} (h : aN.nE a b = 0) : aN.may (aN.nX a b) = true := by
 unfold Cod.nX
 unfold Cod.nE at h
 split
 ·rename_i hlt
  have : aN.gE b = 0 := by
   by_cases e : aN.gE b = 0
   ·exact e
   ·have := aN.gN_no e; omega
  exact aN.gX_may this
 ·rename_i hlt
  have : aN.gE a = 0 := by
   by_cases e : aN.gE a = 0
   ·exact e
   ·have h0 := aN.gN_no e
    rw [if_pos ⟨h0, by omega⟩] at h
    omega
  exact aN.gX_may this
def Lost (w0 : World) (H : Nat → Prop) (q : Nat) (M : BenS) (w : World) : Prop := ∃ G, bw.Bn w G q M ∧ Only H w0 w ∧ Grow w0 H G
theorem PJ.lost {w0 w w' : World} {H K : Nat → Prop} {p q : Nat} {v : Value} {M : BenS} {x : LgS} (h : PJ w0 H K w p q v M x) (ho : Only (ch p v) w w') : Lost w0 H q M w' := by
 obtain ⟨G, h1, h2, h3, h4, h5, _⟩ := h
 exact ⟨G, bw.only h1 ho fun b hg e => h3 b e hg, h4.trans ho fun b e => h5 b (.inr e), fun b e => h5 b (.inl e)⟩
theorem Lost.below {w0 w w' : World} {H : Nat → Prop} {q : Nat} {M : BenS} (h : Lost w0 H q M w) (hb : Below w.heap.size w w') : Lost w0 H q M w' := by
 obtain ⟨G, h1, h2, h3⟩ := h
 exact ⟨G, bw.below h1 hb, h2.dH hb, h3⟩
theorem PNew.lost {w w1 w' : World} {G H : Nat → Prop} {p q : Nat} {v0 : Value} {M' : BenS} {x' : LgS} {E : Int} {e : Ending} (hb : Below w.heap.size w w1) (hH : ∀ b, H b → G b ∨ ch p v0 b) (hp : ∀ b, ch p v0 b → w.heap.size ≤ b) (h : Lost w1 H q M' w') (h0 : E ≠ 0) (he : e = .returned (.tuple #[.pointer none, .int .i64 E])) : PNew bw.Bn pJ w G q E M' x' e w' := by
 obtain ⟨G', h1, h4, h5⟩ := h
 have hs := hb.size
 refine ⟨G', (Only.of_below G hb).trans h4 fun b hb' => (hH b hb').imp id (hp b), fun b hb' => ?_, .inr ⟨h0, he, h1⟩⟩
 rcases h5 b hb' with e | e
 ·exact (hH b e).imp id (hp b)
 ·exact .inr (by omega)
def rmF (p : Nat) : Fv := ⟨29, [ptr p], [], Tryz.call29⟩
def rnF (p : Nat) : Fv := ⟨30, [ptr p], [], Tryz.call30⟩
theorem opn_at {M : BenS} {d : Nat} (h : dI M (d : Int) = 0) : RnS M (opnL M (d : Int)) d 0 (opnX M (d : Int)) := by
 obtain ⟨h1, h2, h3⟩ := opn_base h
 obtain ⟨_, _, b3, b4, b5⟩ : aN.nE (cq M (d : Int) 0) (cq M (d : Int) 1) = 0 ∧ (cZ M (d : Int)).m.ring ≤ bO M (d : Int) - 10 ∧ (cZ M (d : Int)).n ≤ 2305843009213693952 ∧ (cZ M (d : Int)).m.first ≤ 2305843009213693952 ∧ (cZ M (d : Int)).m.pos ≤ 2305843009213693952 := of_decide_eq_true h3
 exact ⟨opn_ok0 h, Int.toNat_natCast _, Nat.le_refl _, rfl, b4, b5⟩
theorem opnN_keeps {M : BenS} : ∀ (k : Nat) (x : LgS), (opnN M k x).own = x.own ∧ (opnN M k x).fst = x.fst
 | 0, x => ⟨rfl, rfl⟩
 | k + 1, x => by
  unfold opnN
  split
  ·exact opnN_keeps k _
  ·exact ⟨rfl, rfl⟩
theorem opn_own {M : BenS} {d : Nat} (h : dI M (d : Int) = 0) : (opnL M (d : Int)).own ≠ 0 ∧ 1 ≤ (opnL M (d : Int)).fst := by
 obtain ⟨_, _, h3⟩ := opn_base h
 obtain ⟨b1, _⟩ : aN.nE (cq M (d : Int) 0) (cq M (d : Int) 1) = 0 ∧ (cZ M (d : Int)).m.ring ≤ bO M (d : Int) - 10 ∧ (cZ M (d : Int)).n ≤ 2305843009213693952 ∧ (cZ M (d : Int)).m.first ≤ 2305843009213693952 ∧ (cZ M (d : Int)).m.pos ≤ 2305843009213693952 := of_decide_eq_true h3
 have hm := nX_may b1
 obtain ⟨k1, k2⟩ := opnN_keeps (M := M) 8 (opnX M (d : Int))
 unfold opnL
 rw [k1, k2]
 unfold opnX
 show (cZ M (d : Int)).m.id ≠ 0 ∧ 1 ≤ (cZ M (d : Int)).m.first
 unfold cZ
 rw [dM, Bool.and_eq_true] at hm
 obtain ⟨r1, _, _, r2, _⟩ := of_mrkB hm.2
 exact ⟨r1, r2⟩
theorem opn_Q {M : BenS} {d : Int} (h : 40 ≤ bO M d - 10) : dV M d = 0 ∧ 50 ≤ bO M d ∧ (∃ k : Nat, d = (k : Int)) ∧ dI M d = rmE M d := by
 have h1 : dV M d = 0 := by
  by_cases e : dV M d = 0
  ·exact e
  ·have : bO M d = 0 := by unfold bO; rw [if_neg e]
   omega
 have h2 : 50 ≤ bO M d := by omega
 have hq : opnQ M d = true := decide_eq_true ⟨h1, h2⟩
 refine ⟨h1, h2, ?_, if_pos hq⟩
 rcases e9 M d with ⟨e, _⟩ | ⟨_, k, hk, _⟩
 ·omega
 ·exact ⟨k, hk⟩
theorem opn_no {M : BenS} {d : Int} (h : bO M d - 10 < 40) : dI M d = 2 := by
 have hq : ¬ opnQ M d = true := fun e => by
  obtain ⟨_, e2⟩ := of_decide_eq_true e
  omega
 exact if_neg hq
theorem opn_chain {w0 w : World} {H K : Nat → Prop} {p q dn : Nat} {M : BenS} (h : PJ w0 H (fun _ => False) w p q (.slice none 0 0) M (LgS.none dn)) (hK : ∀ b, K b → b < w.heap.size ∧ b ≠ p) (h1 : dV M (dn : Int) = 0) (h2 : 50 ≤ bO M (dn : Int)) :
  Chn K (fun E w' => E = rmE M (dn : Int) ∧ (E = 0 → ∃ v', PJ w0 H (fun _ => False) w' p q v' M (opnL M (dn : Int))) ∧ Lost w0 H q M w') [rmF p, rnF p] w := fun w1 hb1 => by
 have hj1 := h.below hb1
 have hs1 := hb1.size
 refine (plreadMark hj1 rfl h1 h2).mono fun e w2 ⟨he, ho, hx⟩ => ?_
 have hs2 := ho.size
 refine ⟨fun b hb => ho.block b (by have := (hK b hb).1; omega) (hK b hb).2, rmE M (dn : Int), he, ?_⟩
 by_cases h0 : rmE M (dn : Int) = 0
 ·left
  refine ⟨h0, fun w3 hb3 => ?_⟩
  have hE : dI M (dn : Int) = 0 := ((opn_Q (M := M) (d := (dn : Int)) (by omega)).2.2.2).trans h0
  have hj2 := hj1.grow (ho.wide (G := ch p (.slice none 0 0)) fun b e => .inl e) (hx h0) (fun b e => .inl e)
  have hj3 := hj2.below hb3
  have hs3 := hb3.size
  refine (plreadNotes hj3 (opn_at hE) h1 h2 (opn_base hE).2.1).mono fun e w4 ⟨he4, ho4, v', hl4, hv4⟩ => ?_
  refine ⟨fun b hb => ho4.block b (by have := (hK b hb).1; omega) (hK b hb).2, 0, he4, .inl ⟨rfl, fun w5 hb5 => ?_⟩⟩
  have hj4 := hj3.grow (ho4.wide (G := ch p (.slice none 0 0)) fun b e => .inl e) hl4 (fun b e => .inr (hv4 b e))
  have hj5 := hj4.below hb5
  exact ⟨h0.symm, fun _ => ⟨v', hj5⟩, hj5.lost (Only.refl _ _)⟩
 ·right
  exact ⟨h0, fun w3 hb3 => ⟨rfl, fun e => absurd e h0, (hj1.lost (ho.wide fun b e => .inl e)).below hb3⟩⟩
theorem plopen_no {w : World} {G : Nat → Prop} {q : Nat} {M : BenS} (d : Int) (hb : bw.Bn w G q M) (hT : TbG w G) (h : bO M d - 10 < 40) : Calls Tryz.prog 8 #[.pointer (some ⟨q, 0, none⟩), .int .i64 d] w (PNew bw.Bn pJ w G q (dI M d) M (opnL M d)) := by
 rw [opn_no h]
 have HB := af hb
 have H1 := af (decide_eq_true h)
 clear hb hT h
 go_enter Tryz.func8, Tryz.ntmps8
 go_upto_region 1 with fail
 refine ag ?_
 refine ai rfl (aj rfl (ev rfl)) ?_;simp only [aa]
 refine ar rfl (av Tryz.call26 rfl (evc (ev rfl) evn)) ?_
 refine (pbmade HB.out).mono ?_
 rintro e w1 ⟨rfl, hb1⟩
 refine ⟨_, rfl, ?_⟩
 simp only [aa]
 refine ai (v := .bool false) rfl (bf true rfl (ev rfl)) ?_;simp only [aa]
 refine ah ?_
 have HB1 := af hb1
 clear hb1
 go_upto_region 3 with fail
 refine ag ?_
 refine ai rfl (aj rfl (ev rfl)) ?_;simp only [aa]
 refine ai rfl (aj rfl (ev rfl)) ?_;simp only [aa]
 refine ar rfl (av Tryz.call27 rfl (evc (ev rfl) (evc (ev rfl) evn))) ?_
 refine (proom d (bw.below HB.out HB1.out)).mono ?_
 rintro e w2 ⟨rfl, hb2⟩
 have HB2 := af (HB1.out.trans (hb2.mono HB1.out.size))
 clear hb2
 refine ⟨_, rfl, ?_⟩
 simp only [aa]
 refine ai (v := .bool true) rfl (aZ true rfl (ev rfl) evk H1.out) ?_;simp only [aa]
 refine ah ?_
 go_wp2_with fail
 go_ret2
 exact PNew.same HB.out HB2.out (by decide) rfl
set_option maxHeartbeats 2000000 in
theorem plopen_go {w : World} {G : Nat → Prop} {q : Nat} {M : BenS} (d : Int) (hb : bw.Bn w G q M) (hT : TbG w G) (h : ¬ bO M d - 10 < 40) : Calls Tryz.prog 8 #[.pointer (some ⟨q, 0, none⟩), .int .i64 d] w (PNew bw.Bn pJ w G q (dI M d) M (opnL M d)) := by
 obtain ⟨q1, q2, ⟨dn, rfl⟩, q3⟩ := opn_Q (M := M) (d := d) (by omega)
 have HB := af hb
 have HT := af hT
 have H1 := af (decide_eq_false h)
 have HQ1 := af q1
 have HQ2 := af q2
 have HQ3 := af q3
 clear hb hT h q1 q2 q3
 go_enter Tryz.func8, Tryz.ntmps8
 go_upto_region 1 with fail
 refine ag ?_
 refine ai rfl (aj rfl (ev rfl)) ?_;simp only [aa]
 refine ar rfl (av Tryz.call26 rfl (evc (ev rfl) evn)) ?_
 refine (pbmade HB.out).mono ?_
 rintro e w1 ⟨rfl, hb1⟩
 refine ⟨_, rfl, ?_⟩
 simp only [aa]
 refine ai (v := .bool false) rfl (bf true rfl (ev rfl)) ?_;simp only [aa]
 refine ah ?_
 have HB1 := af hb1
 clear hb1
 go_upto_region 3 with fail
 refine ag ?_
 refine ai rfl (aj rfl (ev rfl)) ?_;simp only [aa]
 refine ai rfl (aj rfl (ev rfl)) ?_;simp only [aa]
 refine ar rfl (av Tryz.call27 rfl (evc (ev rfl) (evc (ev rfl) evn))) ?_
 refine (proom (dn : Int) (bw.below HB.out HB1.out)).mono ?_
 rintro e w2 ⟨rfl, hb2⟩
 have HB2 := af (HB1.out.trans (hb2.mono HB1.out.size))
 clear hb2
 refine ⟨_, rfl, ?_⟩
 simp only [aa]
 refine ai (v := .bool false) rfl (aZ false rfl (ev rfl) evk H1.out) ?_;simp only [aa]
 refine ah ?_
 go_upto_region 5 with fail
 refine ag ?_
 refine ai rfl (aj rfl (ev rfl)) ?_;simp only [aa]
 refine ai rfl (aj rfl (ev rfl)) ?_;simp only [aa]
 refine ai rfl (exec_bldLg2 rfl (ev rfl) (ev rfl)) ?_;simp only [aa]
 refine ai rfl (exec_boxLgP (q := q) (v := .slice none 0 0) (x := LgS.none dn) rfl (ev rfl)) ?_;simp only [aa]
 refine ai rfl (aq rfl (ev rfl)) ?_;simp only [aa]
 refine ah ?_
 have HJ4 := af (PJ.first (x := LgS.none dn) HB.out HT.out HB2.out rfl)
 have HB4 := af (HB2.out.alloc HB2.out.size (.cells (plgC q (.slice none 0 0) (LgS.none dn)).toArray 80))
 have HPW : Hid (w.heap.size ≤ w2.heap.size) := af HB2.out.size
 have HZ4 : Hid (w2.heap.size < (w2.alloc (.cells (plgC q (.slice none 0 0) (LgS.none dn)).toArray 80)).heap.size) := af (by rw [World.size_alloc]; omega)
 generalize w2.alloc (.cells (plgC q (.slice none 0 0) (LgS.none dn)).toArray 80) = w4 at *
 clear HB2 HB1
 generalize w2.heap.size = p at *
 go_upto_region 6 with fail
 refine ag ?_
 refine ai rfl (aj rfl (ev rfl)) ?_;simp only [aa]
 refine ai rfl (fd rfl (ev rfl)) ?_;simp only [aa]
 refine ai rfl (aj rfl (ev rfl)) ?_;simp only [aa]
 refine ai rfl (fd rfl (ev rfl)) ?_;simp only [aa]
 refine ai rfl (exec_mk2F (s1 := rmF p) (s2 := rnF p) rfl (ev rfl) (ev rfl)) ?_;simp only [aa]
 have HAL := af ((Below.refl w4.heap.size w4).alloc (Nat.le_refl _) (.cells #[(rmF p).val, (rnF p).val] 134))
 have HRD := af (rdF_new2 w4 (rmF p) (rnF p))
 have HZ5 : Hid (w4.heap.size + 1 = (w4.alloc (.cells #[(rmF p).val, (rnF p).val] 134)).heap.size) := af (by rw [World.size_alloc])
 have HJ5 := af (HJ4.out.below HAL.out)
 (try change wpList _ _ _ _ _ (w4.alloc (.cells #[(rmF p).val, (rnF p).val] 134)))
 generalize w4.alloc (.cells #[(rmF p).val, (rnF p).val] 134) = w5 at *
 have HCH := af (opn_chain (K := fun b => b = w4.heap.size) HJ5.out (fun b e => by subst e; exact ⟨by have := HZ5.out; omega, fun e => by have := HZ4.out; omega⟩) HQ1.out HQ2.out)
 refine ar rfl (av Tryz.call28 rfl (evc (ev rfl) evn)) ?_
 refine (ptaken (some ⟨w4.heap.size, 0, none⟩) 2 2 (w4.heap.size + 1) [rmF p, rnF p] w5 (fun b => b = w4.heap.size) _ HRD.out (Nat.le_of_eq HZ5.out) (by omega) (fun b off e => by injection e with e; injection e with e1 e2; exact e1.symm) HCH.out).mono ?_
 rintro e w10 ⟨E, rfl, hE, hj10, hl10⟩
 have HL10 := af hl10
 clear hl10
 refine ⟨_, rfl, ?_⟩
 simp only [aa]
 refine ai rfl (aq rfl (ev rfl)) ?_;simp only [aa]
 refine ah ?_
 rw [← HQ3.out] at hE
 have HHF : Hid (∀ b, (G b ∨ ch p (.slice none 0 0) b) → G b ∨ ch p (.slice none 0 0) b) := af fun b e => e
 have HPF : Hid (∀ b, ch p (.slice none 0 0) b → w.heap.size ≤ b) := af fun b e => by
  rcases e with rfl | e
  ·exact HPW.out
  ·simp [Value.ownBlock] at e
 have HEE := af hE
 by_cases h0 : E = 0
 ·obtain ⟨v10, hj⟩ := hj10 h0
  have HJ10 := af hj
  subst h0
  clear hE hj10 hj
  go_wp2_with fail
  go_ret2
  rw [← HEE.out]
  exact PNew.of HB4.out HHF.out HPF.out HJ10.out (.inl ⟨rfl, rfl, opn_own HEE.out.symm⟩) fun _ => rfl
 ·have hne : (E != 0) = true := by simpa using h0
  clear hE hj10
  go_wp2_with fail
  go_ret2
  rw [← HEE.out]
  exact PNew.lost HB4.out HHF.out HPF.out HL10.out h0 rfl
theorem plopen {w : World} {G : Nat → Prop} {q : Nat} {M : BenS} (d : Int) (hb : bw.Bn w G q M) (hT : TbG w G) : Calls Tryz.prog 8 #[.pointer (some ⟨q, 0, none⟩), .int .i64 d] w (PNew bw.Bn pJ w G q (dI M d) M (opnL M d)) := by
 by_cases h : bO M d - 10 < 40
 ·exact plopen_no d hb hT h
 ·exact plopen_go d hb hT h
section
variable {w w' : World} {G F : Nat → Prop} {q p : Nat} {M M' : BenS} {x x' : LgS}
theorem pJ.lt (h : pJ w G q p M x) : ∀ b, G b → b < w.heap.size := by
 obtain ⟨v, Gb, h1, h2, h3, rfl, _⟩ := h
 exact fun b hb => hb.elim (bw.lt h1 b) (h2.lt b)
theorem pJ.only (h : pJ w G q p M x) (ho : Only F w w') (hn : ∀ b, G b → ¬ F b) : pJ w' G q p M x := by
 obtain ⟨v, Gb, h1, h2, h3, rfl, h4⟩ := h
 exact ⟨v, Gb, bw.only h1 ho fun b e => hn b (.inl e), h2.only ho fun b e => hn b (.inr e), h3, rfl, h4⟩
theorem pJ.ben (h : pJ w G q p M x) : ∃ Gb, bw.Bn w Gb q M ∧ (∀ b, Gb b → G b) ∧ ∀ w' Gb' M', bw.Bn w' Gb' q M' → Only Gb w w' → Grow w Gb Gb' → ∃ G', pJ w' G' q p M' x ∧ Only G w w' ∧ Grow w G G' ∧ ∀ b, Gb' b → G' b := by
 obtain ⟨v, Gb, h1, h2, h3, rfl, h4⟩ := h
 refine ⟨Gb, h1, fun b e => .inl e, fun w' Gb' M' k1 k2 k3 => ⟨_, ⟨v, Gb', k1, h2.only k2 h3, fun b hb hg => ?_, rfl, h4⟩, k2.wide fun b e => .inl e, fun b hb => ?_, fun b e => .inl e⟩⟩
 ·rcases k3 b hg with e | e
  ·exact h3 b hb e
  ·have := h2.lt b hb; omega
 ·rcases hb with e | e
  ·exact (k3 b e).imp .inl id
  ·exact .inl (.inr e)
theorem pJ.live (h : pJ w G q p M x) {N : Nat} (hk : LgOk M x N) : Calls Tryz.prog 41 #[.pointer (some ⟨p, 0, none⟩)] w fun e w' => e = .returned (.tuple #[.int .u64 ((x.fst : Nat) : Int), .int .u64 ((x.next : Nat) : Int)]) ∧ Below w.heap.size w w' := by
 obtain ⟨v, Gb, h1, h2, _⟩ := h
 exact pllive w h2 hk
theorem pJ.free (h : pJ w G q p M x) {N : Nat} (hk : LgOk M x N) : Calls Tryz.prog 42 #[.pointer (some ⟨p, 0, none⟩)] w fun e w' => e = .returned (.int .i64 ((x.free : Nat) : Int)) ∧ Below w.heap.size w w' := by
 obtain ⟨v, Gb, h1, h2, _⟩ := h
 exact plfree w h2 hk
theorem pJ.id_ (h : pJ w G q p M x) : Calls Tryz.prog 43 #[.pointer (some ⟨p, 0, none⟩)] w fun e w' => e = .returned (.int .u64 ((x.own : Nat) : Int)) ∧ Below w.heap.size w w' := by
 obtain ⟨v, Gb, h1, h2, _⟩ := h
 exact plid w h2
theorem pJ.ring_ (h : pJ w G q p M x) : Calls Tryz.prog 44 #[.pointer (some ⟨p, 0, none⟩)] w fun e w' => e = .returned (.int .i64 ((x.size : Nat) : Int)) ∧ Below w.heap.size w w' := by
 obtain ⟨v, Gb, h1, h2, _⟩ := h
 exact plring w h2
end
theorem app_keeps {M : BenS} {x : LgS} {cs : List Cl} : (appX M x cs).own = x.own ∧ (appX M x cs).fst = x.fst := by
 unfold appX
 split
 ·exact ⟨rfl, rfl⟩
 ·exact ⟨rfl, rfl⟩
theorem clr_keeps {M : BenS} {x : LgS} {f : Nat} (h : 1 ≤ x.fst) : (clrX M x f).own = x.own ∧ 1 ≤ (clrX M x f).fst := by
 unfold clrX
 split
 ·rename_i he
  refine ⟨rfl, ?_⟩
  show 1 ≤ f
  by_cases hq : clrQ x f = true
  ·have := (of_clrQ hq).1; omega
  ·unfold clrE at he
   rw [if_neg hq] at he
   cases he
 ·exact ⟨rfl, h⟩
def ey : LogI where
 R := bw
 J := pJ
 lt := fun h => h.lt
 only := fun h => h.only
 ben := fun h => h.ben
 open_ := fun d hb hT => plopen d hb hT
 lay := fun d id r hb hT hr hid => pllay d id r hb hT hr hid
 app := fun A n c N0 cs h hT hk hr hc hN0 hn => by
  obtain ⟨v, hj, ho, hf⟩ := h.start hT
  exact (plappend A n c N0 cs hj hk hr hc hN0 hn hf).mono fun e w' ⟨he, v', hj'⟩ => ⟨he, hj'.end_ (by rw [app_keeps.1]; exact ho) (by rw [app_keeps.2]; exact hf)⟩
 rec_ := fun s h hT hk hs => by
  obtain ⟨v, hj, ho, hf⟩ := h.start hT
  exact plrec s hj hk hs
 clr := fun f h hT hk hr hf => by
  obtain ⟨v, hj, ho, h1⟩ := h.start hT
  exact (plclear f hj hk hr hf ho h1).mono fun e w' ⟨he, v', hj'⟩ => ⟨he, hj'.end_ (by rw [(clr_keeps h1).1]; exact ho) (clr_keeps h1).2⟩
 live := fun h hk => h.live hk
 free := fun h hk => h.free hk
 id := fun h _ => h.id_
 ring := fun h _ => h.ring_
section
variable {ρ : Operand → Value} {o : Oper} {x y : Operand} {w : World} {t r : TypeId}
theorem exec_sbI {a b c : Int} (ho : o.op = .binOp .sub t x y r) (hx : ρ x = .int .u64 a) (hy : ρ y = .int .u64 b) (h : IntKind.u64.wrap (a - b) = c) : (execOp ρ o).run Tryz.prog w = .ok (.value (.int .u64 c)) w := by
 unfold execOp
 simp [ho, hx, hy, eqGuard, binOp, Op.intArith, h]
theorem ldBoolA {ad : Addr} {k : Bool} (h : w.cell? ad = some (.bool k)) : (Instr.loadAt 4 (.pointer (some ad))).run Tryz.prog w = .ok (.bool k) w := by simp [go_sem, h]
theorem exec_remI {a b c : Int} (ho : o.op = .binOp .rem t x y r) (hx : ρ x = .int .u64 a) (hy : ρ y = .int .u64 b) (h0 : b ≠ 0) (h : a.tmod b = c) : (execOp ρ o).run Tryz.prog w = .ok (.value (.int .u64 c)) w := by
 unfold execOp
 simp [ho, hx, hy, eqGuard, binOp, Op.intDiv, h, h0]
theorem u64w {a : Nat} (h : a < 18446744073709551616) : IntKind.u64.wrap (a : Int) = (a : Int) := IntWalk.u64_in _ ⟨by omega, by omega⟩
theorem i64w {a : Int} (h : 0 ≤ a ∧ a ≤ 9223372036854775807) : IntKind.i64.wrap a = a := IntWalk.i64_in _ ⟨by omega, by omega⟩
end
theorem LAt.id {C : LogI} {w0 w : World} {B q p N : Nat} {K : Nat → Prop} {M : BenS} {x : LgS} (h : LAt C w0 B K w q p M x) (hk : LgOk M x N) : Calls Tryz.prog 43 #[.pointer (some ⟨p, 0, none⟩)] w fun e w' => e = .returned (.int .u64 ((x.own : Nat) : Int)) ∧ Below w.heap.size w w' := by
 obtain ⟨G, h1, _⟩ := h
 exact C.id h1 hk
theorem exec_eqPs {ρ : Operand → Value} {o : Oper} {x y : Operand} {w : World} {t r te : TypeId} {a : Addr} (hp : Tryz.prog.underlying t = some (.pointer te)) (ho : o.op = .binOp .eql t x y r) (hx : ρ x = .pointer (some a)) (hy : ρ y = .pointer none) : (execOp ρ o).run Tryz.prog w = .ok (.value (.bool false)) w := by
 have h : ∀ d : Nat, (Op.equalIn (d + 1) t (.pointer (some a)) (.pointer none)).run Tryz.prog w = .ok false w := fun d => by
  simp [Op.equalIn, run_underlying hp]
 unfold execOp
 simp [ho, hx, hy, eqGuard, binOp, Op.equal, Op.maxDepth, h 9999]
set_option maxHeartbeats 2000000 in
theorem dkalike {C : LogI} {w0 w : World} {B d q r p s N N' : Nat} {K : Nat → Prop} {v : Value} {M M' : BenS} {x : LgS} (hd : DkAt w d q r (some ⟨p, 0, none⟩) (some ⟨s, 0, none⟩)) (hl : LAt C w0 B K w q p M x) (hk : LgOk M x N) (hg : RLg w s r v x) (hk' : LgOk M' x N') :
  Calls Tryz.prog 10 #[.pointer (some ⟨d, 0, none⟩)] w fun e w' => e = .returned (.bool true) ∧ Below w.heap.size w w' := by
 have HD := af hd
 have HL := af hl
 have HK := af hk
 have HG := af hg
 have HK2 := af hk'
 clear hd hl hk hg hk'
 go_enter Tryz.func10, Tryz.ntmps10
 go_upto_region 1 with fail
 refine ag ?_
 refine ai rfl (aj rfl (ev rfl)) ?_;simp only [aa]
 refine ai rfl (aB rfl (ev rfl)) ?_;simp only [aa]
 refine ai rfl (am rfl (ev rfl) faDk3) ?_;simp only [aa]
 refine ai rfl (au rfl (ev rfl) (ldDkM (HD.out.c3))) ?_;simp only [aa]
 refine ai (v := .bool false) rfl (exec_eqPs Tryz.underlying44 rfl (ev rfl) evk) ?_;simp only [aa]
 refine ah ?_
 go_upto_region 3 with fail
 refine ag ?_
 refine ai rfl (aj rfl (ev rfl)) ?_;simp only [aa]
 refine ai rfl (aB rfl (ev rfl)) ?_;simp only [aa]
 refine ai rfl (am rfl (ev rfl) faDk2) ?_;simp only [aa]
 refine ai rfl (au rfl (ev rfl) (ldDkL (HD.out.c2))) ?_;simp only [aa]
 refine ar rfl (av Tryz.call41 rfl (evc (ev rfl) evn)) ?_
 refine (HL.out.live HK.out).mono ?_
 rintro e w1 ⟨rfl, hb⟩
 have HB := af hb
 have HD1 := af (HD.out.below hb)
 have HL1 := af (HL.out.below hb)
 have HG1 := af (HG.out.below hb)
 clear hb HD HL HG
 refine ⟨_, rfl, ?_⟩
 simp only [aa]
 refine ai rfl (aj rfl (ev rfl)) ?_;simp only [aa]
 refine ai rfl (aD rfl (ev rfl) rfl) ?_;simp only [aa]
 refine ai rfl (aD rfl (ev rfl) rfl) ?_;simp only [aa]
 refine ai rfl (aq rfl (ev rfl)) ?_;simp only [aa]
 refine ai rfl (aq rfl (ev rfl)) ?_;simp only [aa]
 refine ah ?_
 go_upto_region 4 with fail
 refine aI (B := w1.heap.size) (by kernel_rfl) ?_
 refine ao rfl (fun w' hw => aj rfl (ev rfl)) ?_;simp only [aa]
 refine ao rfl (fun w' hw => aj rfl (ev rfl)) ?_;simp only [aa]
 refine ao rfl (fun w' hw => aB rfl (ev rfl)) ?_;simp only [aa]
 refine ao rfl (fun w' hw => am rfl (ev rfl) faDk3) ?_;simp only [aa]
 refine ao rfl (fun w' hw => au rfl (ev rfl) (ldDkM ((HD1.out.below hw).c3))) ?_;simp only [aa]
 refine ao rfl (fun w' hw => aB rfl (ev rfl)) ?_;simp only [aa]
 refine ao rfl (fun w' hw => am rfl (ev rfl) faLg5) ?_;simp only [aa]
 refine ao rfl (fun w' hw => au rfl (ev rfl) (bL (RLg.c5 (HG1.out.below hw)))) ?_;simp only [aa]
 refine ao (v := .bool true) rfl (fun w' hw => aP true rfl (ev rfl) (ev rfl) (beq_self_eq_true _)) ?_;simp only [aa]
 refine ao (v := .bool true) rfl (fun w' hw => aj rfl (ev rfl)) ?_;simp only [aa]
 refine ao gr (fun w' hw => aj rfl (ev rfl)) ?_;simp only [aa]
 refine ao gr (fun w' hw => aj rfl (ev rfl)) ?_;simp only [aa]
 refine ao gr (fun w' hw => aB rfl (ev rfl)) ?_;simp only [aa]
 refine ao gr (fun w' hw => am rfl (ev rfl) faDk3) ?_;simp only [aa]
 refine ao gr (fun w' hw => au rfl (ev rfl) (ldDkM ((HD1.out.below hw).c3))) ?_;simp only [aa]
 refine a9 gr (fun _ => av Tryz.call36 rfl (evc (ev rfl) evn)) (aW (Nat.le_refl _) fun w' hw => rlnext w' (HG1.out.below hw) HK2.out) ?_;simp only [aa]
 refine ao (v := .bool true) gr (fun w' hw => aP true rfl (ev rfl) (ev rfl) (beq_self_eq_true _)) ?_;simp only [aa]
 refine ao (v := .bool true) rfl (fun w' hw => aG rfl (ev rfl) (ev rfl)) ?_;simp only [aa]
 refine ao (v := .bool true) rfl (fun w' hw => aj rfl (ev rfl)) ?_;simp only [aa]
 refine ao gr (fun w' hw => aj rfl (ev rfl)) ?_;simp only [aa]
 refine ao gr (fun w' hw => aB rfl (ev rfl)) ?_;simp only [aa]
 refine ao gr (fun w' hw => am rfl (ev rfl) faDk2) ?_;simp only [aa]
 refine ao gr (fun w' hw => au rfl (ev rfl) (ldDkL ((HD1.out.below hw).c2))) ?_;simp only [aa]
 refine a9 gr (fun _ => av Tryz.call42 rfl (evc (ev rfl) evn)) (aW (Nat.le_refl _) fun w' hw => (HL1.out.below hw).free HK.out) ?_;simp only [aa]
 refine ao gr (fun w' hw => aj rfl (ev rfl)) ?_;simp only [aa]
 refine ao gr (fun w' hw => aB rfl (ev rfl)) ?_;simp only [aa]
 refine ao gr (fun w' hw => am rfl (ev rfl) faDk3) ?_;simp only [aa]
 refine ao gr (fun w' hw => au rfl (ev rfl) (ldDkM ((HD1.out.below hw).c3))) ?_;simp only [aa]
 refine a9 gr (fun _ => av Tryz.call40 rfl (evc (ev rfl) evn)) (aW (Nat.le_refl _) fun w' hw => rlfree w' (HG1.out.below hw) HK2.out) ?_;simp only [aa]
 refine ao (v := .bool true) gr (fun w' hw => aP true rfl (ev rfl) (ev rfl) (beq_self_eq_true _)) ?_;simp only [aa]
 refine ao (v := .bool true) rfl (fun w' hw => aG rfl (ev rfl) (ev rfl)) ?_;simp only [aa]
 refine ao (v := .bool true) rfl (fun w' hw => aj rfl (ev rfl)) ?_;simp only [aa]
 refine ao gr (fun w' hw => aj rfl (ev rfl)) ?_;simp only [aa]
 refine ao gr (fun w' hw => aB rfl (ev rfl)) ?_;simp only [aa]
 refine ao gr (fun w' hw => am rfl (ev rfl) faDk2) ?_;simp only [aa]
 refine ao gr (fun w' hw => au rfl (ev rfl) (ldDkL ((HD1.out.below hw).c2))) ?_;simp only [aa]
 refine a9 gr (fun _ => av Tryz.call43 rfl (evc (ev rfl) evn)) (aW (Nat.le_refl _) fun w' hw => (HL1.out.below hw).id HK.out) ?_;simp only [aa]
 refine ao gr (fun w' hw => aj rfl (ev rfl)) ?_;simp only [aa]
 refine ao gr (fun w' hw => aB rfl (ev rfl)) ?_;simp only [aa]
 refine ao gr (fun w' hw => am rfl (ev rfl) faDk3) ?_;simp only [aa]
 refine ao gr (fun w' hw => au rfl (ev rfl) (ldDkM ((HD1.out.below hw).c3))) ?_;simp only [aa]
 refine ao gr (fun w' hw => aB rfl (ev rfl)) ?_;simp only [aa]
 refine ao gr (fun w' hw => am rfl (ev rfl) faLg2) ?_;simp only [aa]
 refine ao gr (fun w' hw => au rfl (ev rfl) (bL (RLg.c2 (HG1.out.below hw)))) ?_;simp only [aa]
 refine ao (v := .bool true) gr (fun w' hw => aP true rfl (ev rfl) (ev rfl) (beq_self_eq_true _)) ?_;simp only [aa]
 refine ao (v := .bool true) rfl (fun w' hw => aG rfl (ev rfl) (ev rfl)) ?_;simp only [aa]
 refine ao (v := .bool true) rfl (fun w' hw => aj rfl (ev rfl)) ?_;simp only [aa]
 refine ao gr (fun w' hw => aj rfl (ev rfl)) ?_;simp only [aa]
 refine ao gr (fun w' hw => aB rfl (ev rfl)) ?_;simp only [aa]
 refine ao gr (fun w' hw => am rfl (ev rfl) faDk2) ?_;simp only [aa]
 refine ao gr (fun w' hw => au rfl (ev rfl) (ldDkL ((HD1.out.below hw).c2))) ?_;simp only [aa]
 refine a9 gr (fun _ => av Tryz.call44 rfl (evc (ev rfl) evn)) (aW (Nat.le_refl _) fun w' hw => (HL1.out.below hw).ring HK.out) ?_;simp only [aa]
 refine ao gr (fun w' hw => aj rfl (ev rfl)) ?_;simp only [aa]
 refine ao gr (fun w' hw => aB rfl (ev rfl)) ?_;simp only [aa]
 refine ao gr (fun w' hw => am rfl (ev rfl) faDk3) ?_;simp only [aa]
 refine ao gr (fun w' hw => au rfl (ev rfl) (ldDkM ((HD1.out.below hw).c3))) ?_;simp only [aa]
 refine ao gr (fun w' hw => aB rfl (ev rfl)) ?_;simp only [aa]
 refine ao gr (fun w' hw => am rfl (ev rfl) faLg3) ?_;simp only [aa]
 refine ao gr (fun w' hw => au rfl (ev rfl) (bj (RLg.c3 (HG1.out.below hw)))) ?_;simp only [aa]
 refine ao (v := .bool true) gr (fun w' hw => aP true rfl (ev rfl) (ev rfl) (beq_self_eq_true _)) ?_;simp only [aa]
 refine ao (v := .bool true) rfl (fun w' hw => aG rfl (ev rfl) (ev rfl)) ?_;simp only [aa]
 refine ao (v := .bool true) rfl (fun w' hw => aq rfl (ev rfl)) ?_;simp only [aa]
 refine wpQuiet_nil ?_
 intro w2 hw
 have HB2 := af (HB.out.trans (hw.mono HB.out.size))
 clear hw
 go_wp2_with fail
 go_ret
 exact ⟨rfl, HB2.out⟩
structure Sd (P : World → (Nat → Prop) → Prop) : Prop where
 lt : ∀ {w G}, P w G → ∀ b, G b → b < w.heap.size
 only : ∀ {w w' G F}, P w G → Only F w w' → (∀ b, G b → ¬ F b) → P w' G
theorem Sd.below {P : World → (Nat → Prop) → Prop} (s : Sd P) {w w' : World} {G : Nat → Prop} (h : P w G) (k : Below w.heap.size w w') : P w' G := s.only h (Only.of_below (fun _ => False) k) fun _ _ e => e
def Two (P Q : World → (Nat → Prop) → Prop) (w0 : World) (B : Nat) (K : Nat → Prop) (w : World) : Prop :=
 ∃ G F, P w G ∧ Q w F ∧ (∀ b, G b → B ≤ b) ∧ (∀ b, F b → B ≤ b) ∧ (∀ b, G b → ¬ F b) ∧ Below B w0 w ∧ Bas w0 B ∧ ∀ b, K b → ¬ G b ∧ ¬ F b ∧ b < w.heap.size
section
variable {P Q P' Q' : World → (Nat → Prop) → Prop} {w0 w w' : World} {B : Nat} {K K' : Nat → Prop}
theorem Two.bel (h : Two P Q w0 B K w) : Below B w0 w := by obtain ⟨_, _, _, _, _, _, _, h, _⟩ := h; exact h
theorem Two.bas (h : Two P Q w0 B K w) : Bas w0 B := by obtain ⟨_, _, _, _, _, _, _, _, h, _⟩ := h; exact h
theorem Two.le (h : Two P Q w0 B K w) : B ≤ w.heap.size := Nat.le_trans h.bas.le h.bel.size
theorem Two.imp (h : Two P Q w0 B K w) (hP : ∀ G, P w G → P' w G) (hQ : ∀ F, Q w F → Q' w F) : Two P' Q' w0 B K w := by
 obtain ⟨G, F, h1, h2, r⟩ := h
 exact ⟨G, F, hP G h1, hQ F h2, r⟩
theorem Two.guard (sP : Sd P) (sQ : Sd Q) (h : Two P Q w0 B K w) (k : Below w.heap.size w w') (hK : ∀ b, K' b → K b ∨ (w.heap.size ≤ b ∧ b < w'.heap.size)) : Two P Q w0 B K' w' := by
 have hle := h.le
 obtain ⟨G, F, h1, h2, h3, h4, h5, h6, h7, h8⟩ := h
 have hs := k.size
 refine ⟨G, F, sP.below h1 k, sQ.below h2 k, h3, h4, h5, h6.trans (k.mono hle), h7, fun b hb => ?_⟩
 rcases hK b hb with e | ⟨e1, e2⟩
 ·obtain ⟨g1, g2, g3⟩ := h8 b e
  exact ⟨g1, g2, by omega⟩
 ·exact ⟨fun hg => by have := sP.lt h1 b hg; omega, fun hg => by have := sQ.lt h2 b hg; omega, e2⟩
theorem Two.below (sP : Sd P) (sQ : Sd Q) (h : Two P Q w0 B K w) (k : Below w.heap.size w w') : Two P Q w0 B K w' := h.guard sP sQ k fun b e => .inl e
theorem Two.left {Post : Ending → World → (Nat → Prop) → Prop} {f : FuncId} {vs : Array Value} (sQ : Sd Q) (h : Two P Q w0 B K w) (hc : ∀ G, P w G → TbG w G → Calls Tryz.prog f vs w fun e w' => ∃ G', Post e w' G' ∧ Only G w w' ∧ Grow w G G') :
  Calls Tryz.prog f vs w fun e w' => Two (fun w G => Post e w G) Q w0 B K w' ∧ keptK K w w' := by
 have hle := h.le
 obtain ⟨G, F, h1, h2, h3, h4, h5, h6, h7, h8⟩ := h
 refine (hc G h1 (h7.tabG h6 h3)).mono fun e w' ⟨G', k1, k2, k3⟩ => ?_
 have hs := k2.size
 refine ⟨⟨G', F, k1, sQ.only h2 k2 fun b hb hg => h5 b hg hb, k3.above h3 hle, h4, fun b hb hf => ?_, h6.trans (k2.below h3 hle), h7, fun b hb => ?_⟩, fun b hb => k2.block b (h8 b hb).2.2 (h8 b hb).1⟩
 ·rcases k3 b hb with e | e
  ·exact h5 b e hf
  ·have := sQ.lt h2 b hf; omega
 ·obtain ⟨g1, g2, g3⟩ := h8 b hb
  refine ⟨fun hg => ?_, g2, by omega⟩
  rcases k3 b hg with e | e
  ·exact g1 e
  ·omega
theorem Two.right {Post : Ending → World → (Nat → Prop) → Prop} {f : FuncId} {vs : Array Value} (sP : Sd P) (h : Two P Q w0 B K w) (hc : ∀ F, Q w F → Calls Tryz.prog f vs w fun e w' => ∃ F', Post e w' F' ∧ Only F w w' ∧ Grow w F F') :
  Calls Tryz.prog f vs w fun e w' => Two P (fun w F => Post e w F) w0 B K w' ∧ keptK K w w' := by
 have hle := h.le
 obtain ⟨G, F, h1, h2, h3, h4, h5, h6, h7, h8⟩ := h
 refine (hc F h2).mono fun e w' ⟨F', k1, k2, k3⟩ => ?_
 have hs := k2.size
 refine ⟨⟨G, F', sP.only h1 k2 fun b hb hf => h5 b hb hf, k1, h3, k3.above h4 hle, fun b hb hf => ?_, h6.trans (k2.below h4 hle), h7, fun b hb => ?_⟩, fun b hb => k2.block b (h8 b hb).2.2 (h8 b hb).2.1⟩
 ·rcases k3 b hf with e | e
  ·exact h5 b hb e
  ·have := sP.lt h1 b hb; omega
 ·obtain ⟨g1, g2, g3⟩ := h8 b hb
  refine ⟨g1, fun hg => ?_, by omega⟩
  rcases k3 b hg with e | e
  ·exact g2 e
  ·omega
end
def QLg (r s : Nat) (M : BenS) (x : LgS) (w : World) (F : Nat → Prop) : Prop := ∃ Gb v, bF.Bn w Gb r M ∧ RLg w s r v x ∧ (∀ b, ch s v b → ¬ Gb b) ∧ F = fun b => Gb b ∨ ch s v b
theorem sdJ (C : LogI) (q p : Nat) (M : BenS) (x : LgS) : Sd (fun w G => C.J w G q p M x) := ⟨C.lt, C.only⟩
theorem sdB (C : LogI) (q : Nat) (M : BenS) : Sd (fun w G => C.R.Bn w G q M) := ⟨C.R.lt, C.R.only⟩
theorem sdR (r : Nat) (M : BenS) : Sd (fun w F => bF.Bn w F r M) := ⟨bF.lt, bF.only⟩
theorem sdL (r s : Nat) (M : BenS) (x : LgS) : Sd (QLg r s M x) := by
 refine ⟨fun {w G} h b hb => ?_, fun {w w' G F} h ho hn => ?_⟩
 ·obtain ⟨Gb, v, h1, h2, h3, rfl⟩ := h
  rcases hb with hb | hb
  ·exact bF.lt h1 b hb
  ·exact h2.lt b hb
 ·obtain ⟨Gb, v, h1, h2, h3, rfl⟩ := h
  exact ⟨Gb, v, bF.only h1 ho fun b hb => hn b (.inl hb), h2.only ho fun b hb => hn b (.inr hb), h3, rfl⟩
section
variable {C : LogI} {w0 w w' : World} {B q p r s N : Nat} {K : Nat → Prop} {M : BenS} {x : LgS}
theorem QLg.rj {F : Nat → Prop} (h : QLg r s M x w F) : ∃ v, RJ w F (fun _ => False) w s r v M x := by
 obtain ⟨Gb, v, h1, h2, h3, rfl⟩ := h
 exact ⟨v, RJ.start h1 h2 h3⟩
def TwoL (C : LogI) (q p r s : Nat) (M : BenS) (x : LgS) (w0 : World) (B : Nat) (K : Nat → Prop) (w : World) : Prop := Two (fun w G => C.J w G q p M x) (QLg r s M x) w0 B K w
def TwoB (C : LogI) (q r : Nat) (M : BenS) (w0 : World) (B : Nat) (K : Nat → Prop) (w : World) : Prop := Two (fun w G => C.R.Bn w G q M) (fun w F => bF.Bn w F r M) w0 B K w
theorem TwoL.below (h : TwoL C q p r s M x w0 B K w) (k : Below w.heap.size w w') : TwoL C q p r s M x w0 B K w' := Two.below (sdJ C q p M x) (sdL r s M x) h k
theorem TwoB.below (h : TwoB C q r M w0 B K w) (k : Below w.heap.size w w') : TwoB C q r M w0 B K w' := Two.below (sdB C q M) (sdR r M) h k
theorem TwoL.lat (h : TwoL C q p r s M x w0 B K w) : LAt C w0 B K w q p M x := by
 obtain ⟨G, F, h1, h2, h3, h4, h5, h6, h7, h8⟩ := h
 exact ⟨G, h1, h3, h6, h7, fun b hb => ⟨(h8 b hb).1, (h8 b hb).2.2⟩⟩
theorem TwoL.rlg (h : TwoL C q p r s M x w0 B K w) : ∃ v, RLg w s r v x := by
 obtain ⟨G, F, h1, ⟨_, v, _, h2, _⟩, _⟩ := h
 exact ⟨v, h2⟩
theorem TwoL.rec_ (n : Nat) (h : TwoL C q p r s M x w0 B K w) (hk : LgOk M x N) (hs : n < 18446744073709551616) : Calls Tryz.prog 52 #[.pointer (some ⟨s, 0, none⟩), .int .u64 (n : Nat)] w (fE M x n w) := by
 obtain ⟨G, F, h1, h2, _⟩ := h
 obtain ⟨v, hj⟩ := h2.rj
 exact rlrecord n hj hk hs
theorem TwoB.write (d n : Int) (b : Blk) (hr : Room M 1) (h : TwoB C q r M w0 B K w) : Calls Tryz.prog 6 #[.pointer (some ⟨q, 0, none⟩), .int .i64 d, .int .i64 n, blk b] w fun e w' => e = .returned (.int .i64 (wrE6 M d n)) ∧ Two (fun w G => C.R.Bn w G q (dK M d n b)) (fun w F => bF.Bn w F r M) w0 B K w' ∧ keptK K w w' := by
 refine (Two.left (Post := fun e w G => e = .returned (.int .i64 (wrE6 M d n)) ∧ C.R.Bn w G q (dK M d n b)) (sdR r M) h fun G h1 _ => (C.R.write d n b hr h1).mono fun e w' ⟨he, G', k1, k2, k3⟩ => ⟨G', ⟨he, k1⟩, k2, k3⟩).mono fun e w' ⟨h1, h2⟩ => ?_
 have he : e = .returned (.int .i64 (wrE6 M d n)) := by obtain ⟨_, _, ⟨he, _⟩, _⟩ := h1; exact he
 exact ⟨he, h1.imp (fun G hg => hg.2) (fun F hf => hf), h2⟩
theorem TwoB.write2 {M' : BenS} (d n : Int) (b : Blk) (hr : Room M 1) (h : Two (fun w G => C.R.Bn w G q M') (fun w F => bF.Bn w F r M) w0 B K w) : Calls Tryz.prog 7 #[.pointer (some ⟨r, 0, none⟩), .int .i64 d, .int .i64 n, blk b] w fun e w' => e = .returned (.int .i64 (wrE6 M d n)) ∧ Two (fun w G => C.R.Bn w G q M') (fun w F => bF.Bn w F r (dK M d n b)) w0 B K w' ∧ keptK K w w' := by
 refine (Two.right (Post := fun e w F => e = .returned (.int .i64 (wrE6 M d n)) ∧ bF.Bn w F r (dK M d n b)) (sdB C q M') h fun F h1 => (bF.write d n b hr h1).mono fun e w' ⟨he, G', k1, k2, k3⟩ => ⟨G', ⟨he, k1⟩, k2, k3⟩).mono fun e w' ⟨h1, h2⟩ => ?_
 have he : e = .returned (.int .i64 (wrE6 M d n)) := by obtain ⟨_, _, _, ⟨he, _⟩, _⟩ := h1; exact he
 exact ⟨he, h1.imp (fun G hg => hg) (fun F hf => hf.2), h2⟩
def OpnL (C : LogI) (q r : Nat) (M : BenS) (x : LgS) (E : Int) (w0 : World) (B : Nat) (K : Nat → Prop) (e : Ending) (w' : World) : Prop :=
 (E = 0 ∧ ∃ p, e = .returned (.tuple #[.pointer (some ⟨p, 0, none⟩), .int .i64 0]) ∧ Two (fun w G => C.J w G q p M x) (fun w F => bF.Bn w F r M) w0 B K w') ∨ (E ≠ 0 ∧ e = .returned (.tuple #[.pointer none, .int .i64 E]) ∧ TwoB C q r M w0 B K w')
theorem TwoB.open_ (d : Int) (h : TwoB C q r M w0 B K w) : Calls Tryz.prog 8 #[.pointer (some ⟨q, 0, none⟩), .int .i64 d] w fun e w' => OpnL C q r M (opnL M d) (dI M d) w0 B K e w' ∧ keptK K w w' := by
 refine (Two.left (Post := fun e w G => (dI M d = 0 ∧ ∃ p, e = .returned (.tuple #[.pointer (some ⟨p, 0, none⟩), .int .i64 0]) ∧ C.J w G q p M (opnL M d)) ∨ (dI M d ≠ 0 ∧ e = .returned (.tuple #[.pointer none, .int .i64 (dI M d)]) ∧ C.R.Bn w G q M)) (sdR r M) h fun G h1 hT => (C.open_ d h1 hT).mono fun e w' ⟨G', k2, k3, k1⟩ => ⟨G', k1, k2, k3⟩).mono fun e w' ⟨h1, h2⟩ => ⟨?_, h2⟩
 obtain ⟨G, F, h | h, r⟩ := h1
 ·obtain ⟨e0, p, he, hj⟩ := h
  exact .inl ⟨e0, p, he, ⟨G, F, hj, r⟩⟩
 ·obtain ⟨e0, he, hj⟩ := h
  exact .inr ⟨e0, he, ⟨G, F, hj, r⟩⟩
def OpnR (P : World → (Nat → Prop) → Prop) (r : Nat) (M : BenS) (x : LgS) (E : Int) (w0 : World) (B : Nat) (K : Nat → Prop) (e : Ending) (w' : World) : Prop :=
 (E = 0 ∧ ∃ s, e = .returned (.tuple #[.pointer (some ⟨s, 0, none⟩), .int .i64 0]) ∧ Two P (QLg r s M x) w0 B K w') ∨ (E ≠ 0 ∧ e = .returned (.tuple #[.pointer none, .int .i64 E]) ∧ Two P (fun w F => bF.Bn w F r M) w0 B K w')
theorem Two.opnR {P : World → (Nat → Prop) → Prop} (sP : Sd P) {M' : BenS} {E : Int} {f : FuncId} {vs : Array Value} (h : Two P (fun w F => bF.Bn w F r M) w0 B K w) (hc : ∀ F, bF.Bn w F r M → Calls Tryz.prog f vs w (LNew w F r E M' x)) : Calls Tryz.prog f vs w fun e w' => OpnR P r M' x E w0 B K e w' ∧ keptK K w w' := by
 refine (Two.right (Post := fun e w F => (E = 0 ∧ ∃ s, e = .returned (.tuple #[.pointer (some ⟨s, 0, none⟩), .int .i64 0]) ∧ QLg r s M' x w F) ∨ (E ≠ 0 ∧ e = .returned (.tuple #[.pointer none, .int .i64 E]) ∧ bF.Bn w F r M')) sP h fun F h1 => (hc F h1).mono fun e w' ⟨G', k1, k2, k3, k⟩ => ?_).mono fun e w' ⟨h1, h2⟩ => ⟨?_, h2⟩
 ·rcases k with ⟨e0, s, v, he, hl, hf⟩ | ⟨e0, he⟩
  ·refine ⟨fun b => G' b ∨ ch s v b, .inl ⟨e0, s, he, G', v, k1, hl, fun b hb => (hf b hb).1, rfl⟩, k2, fun b hb => ?_⟩
   rcases hb with hb | hb
   ·exact k3 b hb
   ·exact .inr (hf b hb).2
  ·exact ⟨G', .inr ⟨e0, he, k1⟩, k2, k3⟩
 ·obtain ⟨G, F, hG, h | h, r⟩ := h1
  ·obtain ⟨e0, p, he, hj⟩ := h
   exact .inl ⟨e0, p, he, ⟨G, F, hG, hj, r⟩⟩
  ·obtain ⟨e0, he, hj⟩ := h
   exact .inr ⟨e0, he, ⟨G, F, hG, hj, r⟩⟩
end
end Go.Proofs.YtbbcdhkinbmdnaaGreatDoor
