import Derived.Test.YtheponmdbmloaaaGreatDoorFsau
import Derived.Test.YtheponmdbmloaaaGreatDoorFsZ
namespace Go.Proofs.YtheponmdbmloaaaGreatDoor
open Go.RowKit
set_option linter.unusedVariables false
set_option linter.unusedSimpArgs false
set_option maxRecDepth 100000
def HuQ (w0 : World) (H K : Nat → Prop) (w : World) (p q : Nat) (x : HpS) (h' : HuS) (ok : Prop) (w' : World) : Prop :=
  bm K w w' ∧ (ok → HJ w0 H K w' p q h'.M ⟨x.id, h'.ev, h'.ev, h'.R⟩ ∧ aI h'.R = true ∧ h'.id = x.id ∧ h'.ev ≤ x.us + 17) ∧ (¬ ok → ∃ us, us ≤ x.us + 17 ∧ HJ w0 H K w' p q h'.M { x with us := us })
def hwcE (h : HuS) (s m : Int) : Int := match celO h.R s m with | some E => E | none => if wrE6 h.M m (2 + s) = 9 then dedE h m.toNat 7 else wrE6 h.M m (2 + s)
section
variable {h : HuS} {s m E : Int} {b : Blk}
theorem ded_ne (m : Nat) : dedE h m 7 ≠ 0 := by
  unfold dedE
  split
  · split <;> decide
  · assumption
theorem celO_ne (hE : celO h.R s m = some E) : E ≠ 0 := by
  unfold celO at hE
  split at hE
  · split at hE
    · cases hE; decide
    · split at hE
      · cases hE
      · cases hE; decide
  · cases hE; decide
theorem celO_rd (hE : celO h.R s m = some E) : cg h s m = E ∧ hrdB h s m = al ∧ hrdS h s m = h ∧ hrdK h s m := by
  have hne := celO_ne hE
  have h1 : cg h s m = E := by
    unfold celO at hE
    unfold cg
    split at hE
    · rename_i c1
      rw [if_pos c1]
      split at hE
      · rename_i c2
        rw [if_pos c2]
        exact Option.some.inj hE
      · rename_i c2
        rw [if_neg c2]
        split at hE
        · cases hE
        · rename_i c3
          rw [if_neg c3]
          exact Option.some.inj hE
    · rename_i c1
      rw [if_neg c1]
      exact Option.some.inj hE
  have h2 : ∀ {z : Prop}, ¬(plcH h.R s m = true ∧ faiH h.R = false ∧ hasB h.R m s = true ∧ z) := fun ⟨c1, c2, c3, _⟩ => by
    unfold celO at hE
    rw [if_pos c1, c2, if_neg (by decide), if_pos c3] at hE
    cases hE
  refine ⟨h1, ?_, ?_, fun e => absurd e h2⟩
  · unfold hrdB; rw [if_neg (by rw [h1]; exact hne)]
  · unfold hrdS; rw [if_neg h2]
theorem celO_rd9 (hE : celO h.R s m = none) (h9 : bO h.M m (2 + s) = 9) : cg h s m = dedE h m.toNat 7 ∧ hrdB h s m = al ∧ hrdS h s m = dedS h m.toNat ∧ (hrdK h s m ↔ savE (dedH h m.toNat) = 0) := by
  obtain ⟨c1, c2, c3⟩ := dP hE
  have h1 : cg h s m = dedE h m.toNat 7 := by
    unfold cg
    rw [if_pos c1, c2, if_neg (by decide), if_pos c3, if_pos h9]
  refine ⟨h1, ?_, ?_, ?_⟩
  · unfold hrdB; rw [if_neg (by rw [h1]; exact ded_ne _)]
  · unfold hrdS; rw [if_pos ⟨c1, c2, c3, h9⟩]
  · exact ⟨fun k => k ⟨c1, c2, c3, h9⟩, fun e _ => e⟩
theorem celO_rdn (hE : celO h.R s m = none) (h9 : bO h.M m (2 + s) ≠ 9) : cg h s m = bO h.M m (2 + s) ∧ hrdB h s m = rdB6 h.M m (2 + s) ∧ hrdS h s m = h ∧ hrdK h s m := by
  obtain ⟨c1, c2, c3⟩ := dP hE
  have h1 : cg h s m = bO h.M m (2 + s) := by
    unfold cg
    rw [if_pos c1, c2, if_neg (by decide), if_pos c3, if_neg h9]
  refine ⟨h1, ?_, ?_, fun e => absurd e.2.2.2 h9⟩
  · unfold hrdB
    by_cases e0 : bO h.M m (2 + s) = 0
    · rw [if_pos (by rw [h1]; exact e0)]
    · rw [if_neg (by rw [h1]; exact e0), rd_zeroE e0]
  · unfold hrdS; rw [if_neg fun e => h9 e.2.2.2]
theorem hwr_map : (if hwcE h s m = 7 then 0 else hwcE h s m) = hwrE h s m b := by
  unfold hwcE hwrE celO
  split
  · rename_i E hE
    split at hE
    · rename_i c1
      rw [if_pos c1]
      split at hE
      · rename_i c2
        rw [if_pos c2]
        cases hE
        rfl
      · rename_i c2
        rw [if_neg c2]
        split at hE
        · cases hE
        · rename_i c3
          rw [if_neg c3]
          cases hE
          rfl
    · rename_i c1
      rw [if_neg c1]
      cases hE
      rfl
  · rename_i hE
    obtain ⟨c1, c2, c3⟩ := dP (R := h.R) (s := s) (m := m) hE
    rw [if_pos c1, c2, if_neg (show ¬ (false = true) by decide), if_pos c3]
    by_cases h9 : wrE6 h.M m (2 + s) = 9
    · rw [if_pos h9, if_pos h9]
      unfold dedE
      have hs : savE (dedH h m.toNat) ≠ 7 := by have := er_save (dedH h m.toNat); omega
      by_cases e0 : savE (dedH h m.toNat) = 0
      · rw [if_pos e0, if_pos e0]
        split
        · rfl
        · rfl
      · rw [if_neg e0, if_neg e0, if_neg hs]
    · rw [if_neg h9, if_neg h9]
      have := er_wr h.M m (2 + s)
      rw [if_neg (by omega)]
theorem celO_wr (hE : celO h.R s m = some E) : hwcE h s m = E ∧ hwrS h s m b = h ∧ hwrK h s m := by
  have h2 : ∀ {z : Prop}, ¬(plcH h.R s m = true ∧ faiH h.R = false ∧ hasB h.R m s = true ∧ z) := fun ⟨c1, c2, c3, _⟩ => by
    unfold celO at hE
    rw [if_pos c1, c2, if_neg (by decide), if_pos c3] at hE
    cases hE
  refine ⟨by unfold hwcE; rw [hE], ?_, fun e => absurd e h2⟩
  unfold hwrS
  rw [if_neg fun e => h2 (z := True) ⟨e.1, e.2.1, e.2.2, trivial⟩]
theorem celO_wr9 (hE : celO h.R s m = none) (h9 : wrE6 h.M m (2 + s) = 9) : hwcE h s m = dedE h m.toNat 7 ∧ hwrS h s m b = dedS h m.toNat ∧ (hwrK h s m ↔ savE (dedH h m.toNat) = 0) := by
  obtain ⟨c1, c2, c3⟩ := dP hE
  refine ⟨by unfold hwcE; rw [hE]; exact if_pos h9, ?_, ⟨fun k => k ⟨c1, c2, c3, h9⟩, fun e _ => e⟩⟩
  unfold hwrS
  rw [if_pos ⟨c1, c2, c3⟩, if_pos h9]
theorem celO_wrn (hE : celO h.R s m = none) (h9 : wrE6 h.M m (2 + s) ≠ 9) : hwcE h s m = wrE6 h.M m (2 + s) ∧ hwrS h s m b = { h with M := wrS6 h.M m (2 + s) b } ∧ hwrK h s m := by
  obtain ⟨c1, c2, c3⟩ := dP hE
  refine ⟨by unfold hwcE; rw [hE]; exact if_neg h9, ?_, fun e => absurd e.2.2.2 h9⟩
  unfold hwrS
  rw [if_pos ⟨c1, c2, c3⟩, if_neg h9]
end
section
variable {w0 ws w w' : World} {H K K' : Nat → Prop} {p q b2 b3 b4 b5 b6 : Nat} {x : HpS} {R : Ros} {M : BenS} {h0 h' : HuS} {v : Value} {ok : Prop}
theorem HuQ.from (h : HuQ w0 H K w p q x h' ok w') (hk : bm K ws w) : HuQ w0 H K ws p q x h' ok w' := ⟨hk.trans h.1, h.2.1, h.2.2⟩
theorem HuQ.mine {g : Nat} {w2 : World} (h : HuQ w0 H K w p q x h' ok w') (hg : K g) (hg0 : w0.heap.size ≤ g) (ho : Only (fun b => b = g) w' w2) (hK : ∀ b, K' b → K b ∧ b ≠ g) (hl : ∀ b, K' b → b < w'.heap.size) : HuQ w0 H K' w p q x h' ok w2 := by
  refine ⟨(h.1.less fun b e => (hK b e).1).trans (bm.of_only ho fun b e => ⟨(hK b e).2, hl b e⟩), fun e => ?_, fun e => ?_⟩
  · exact ⟨((h.2.1 e).1.mine hg hg0 ho).less fun b e => (hK b e).1, (h.2.1 e).2⟩
  · obtain ⟨us, h1, h2⟩ := h.2.2 e
    exact ⟨us, h1, (h2.mine hg hg0 ho).less fun b e => (hK b e).1⟩
theorem HuQ.hj (h : HuQ w0 H K w p q x h' ok w') : ∃ M' y, HJ w0 H K w' p q M' y := by
  by_cases e : ok
  · exact ⟨_, _, (h.2.1 e).1⟩
  · obtain ⟨us, _, hj⟩ := h.2.2 e
    exact ⟨_, _, hj⟩
theorem HuQ.lt (h : HuQ w0 H K w p q x h' ok w') {b : Nat} (hb : K b) : b < w'.heap.size := by
  obtain ⟨M', y, hj⟩ := h.hj
  exact hj.lt hb
theorem HuQ.of (hj : HJ w0 H K w' p q M x) (hk : bm K w w') (hs : x.ev = x.us) (hf : aI x.R = true) (hok : ok) : HuQ w0 H K w p q x ⟨M, x.id, x.us, x.R⟩ ok w' := by
  refine ⟨hk, fun _ => ⟨?_, hf, rfl, by show x.us ≤ _; omega⟩, fun e => absurd hok e⟩
  show HJ w0 H K w' p q M ⟨x.id, x.us, x.us, x.R⟩
  have e : x = ⟨x.id, x.us, x.us, x.R⟩ := by
    obtain ⟨a, b, c, d⟩ := x
    simp only at hs
    rw [hs]
  rw [← e]
  exact hj
theorem HuQ.sv {m : Nat} (hq : SvQ w0 H K w p q x ⟨M, x.id, x.us, bl x.R (m : Int)⟩ w') (hok : ok ↔ savE (dedH ⟨M, x.id, x.us, x.R⟩ m) = 0) : HuQ w0 H K w p q x (dedS ⟨M, x.id, x.us, x.R⟩ m) ok w' :=
  ⟨hq.1, fun e => hq.2.1 (hok.1 e), fun e => hq.2.2 fun z => e (hok.2 z)⟩
def RdS (b2 b3 p : Nat) (qa : Option Addr) (x : HpS) (s m : Int) (w : World) : Prop := PHo w p qa x ∧ w.heap[b2]? = some (.cells #[.pointer (some ⟨p, 0, none⟩)] 23 (0, 0)) ∧ w.heap[b3]? = some (.cells ([.int .i64 s, .int .i64 m] : List Value).toArray 43 (0, 0))
theorem RdS.below {qa : Option Addr} {s m : Int} (h : RdS b2 b3 p qa x s m w) (hb : Below w.heap.size w w') : RdS b2 b3 p qa x s m w' := ⟨h.1.below hb, ao h.2.1 hb, ao h.2.2 hb⟩
theorem RdS.only {qa : Option Addr} {s m : Int} (h : RdS b2 b3 p qa x s m w) (ho : Only (fun b => b = b6) w w') (n1 : p ≠ b6) (n2 : b2 ≠ b6) (n3 : b3 ≠ b6) : RdS b2 b3 p qa x s m w' := ⟨h.1.only ho n1, ho.keep h.2.1 n2, ho.keep h.2.2 n3⟩
theorem hp_read_1 {s m n : Int} {y : Blk} (n2 : b2 ≠ b6) (n3 : b3 ≠ b6) (h : HJ w0 H K w p q M x) (k6 : K b6) (g6 : w0.heap.size ≤ b6) (h2 : w.heap[b2]? = some (.cells #[.pointer (some ⟨p, 0, none⟩)] 23 (0, 0))) (h3 : w.heap[b3]? = some (.cells ([.int .i64 s, .int .i64 m] : List Value).toArray 43 (0, 0))) (h6 : w.heap[b6]? = some (.cells (cel y).toArray 38 (0, 0))) : Calls Tryz.prog 53 #[.int .i64 n, .pointer (some ⟨b2, 0, none⟩), .pointer (some ⟨b3, 0, none⟩), .pointer (some ⟨b6, 0, none⟩)] w fun e w' =>
    e = .returned (.int .i64 (bO M m n)) ∧ HJ w0 H K w' p q M x ∧ w'.heap[b6]? = some (.cells (cel (rdB6 M m n)).toArray 38 (0, 0)) ∧ Only (fun b => b = b6) w w' := by
  obtain ⟨xb, hxb⟩ : ∃ xb, rdB6 M m n = xb := ⟨_, rfl⟩
  obtain ⟨ee, hee⟩ : ∃ ee, bO M m n = ee := ⟨_, rfl⟩
  rw [hxb, hee]
  have HXB := Lib.hid hxb
  have HEE := Lib.hid hee
  have HJ := Lib.hid h.drew
  have HK6 := Lib.hid k6
  have HG6 := Lib.hid g6
  have HD : Hid (Below w.heap.size w (World.drew w)) := Lib.hid (bd (Below.refl _ _))
  have HS : Hid (RdS b2 b3 p (some ⟨q, 0, none⟩) x s m (World.drew w)) := Lib.hid ⟨h.drew.hul, ao h2 HD.out, ao h3 HD.out⟩
  have HNN : Hid (p ≠ b6 ∧ b2 ≠ b6 ∧ b3 ≠ b6) := Lib.hid ⟨fun e => h.ne k6 e.symm, n2, n3⟩
  have H6 := Lib.hid (ao h6 HD.out)
  clear hxb hee h k6 g6 h2 h3 h6 n2 n3
  go_enter Tryz.func53, Tryz.ntmps53
  go_upto_region 1 with fail
  refine wp_region_held (S := RdS b2 b3 p (some ⟨q, 0, none⟩) x s m) (by kernel_rfl) ?_
  change wpAnyH _ _ _ _ _ 13 _ _ w.drew
  refine aD 0 rfl (by kernel_rfl) (by kernel_rfl) (by kernel_rfl) rfl (fun w' hw => au rfl (ev rfl) (ldHp ((aT hw.2.1) 0 _ rfl))) (fun _ _ _ h => h) HS.out ?_
  simp only [Act.put, aa, ac, ae]
  refine aD 1 rfl (by kernel_rfl) (by kernel_rfl) (by kernel_rfl) rfl (fun w' hw => bk rfl (ev rfl)) (fun _ _ _ h => h) HS.out ?_
  simp only [Act.put, aa, ac, ae]
  refine aD 2 rfl (by kernel_rfl) (by kernel_rfl) (by kernel_rfl) rfl (fun w' hw => am rfl (ev rfl) faHp0) (fun _ _ _ h => h) HS.out ?_
  simp only [Act.put, aa, ac, ae]
  refine aD 3 rfl (by kernel_rfl) (by kernel_rfl) (by kernel_rfl) rfl (fun w' hw => au rfl (ev rfl) (ldHb (PHo.c0 hw.1))) (fun _ _ _ h => h) HS.out ?_
  simp only [Act.put, aa, ac, ae]
  refine aD 4 rfl (by kernel_rfl) (by kernel_rfl) (by kernel_rfl) rfl (fun w' hw => am rfl (ev rfl) faPm1) (fun _ _ _ h => h) HS.out ?_
  simp only [Act.put, aa, ac, ae]
  refine aD 5 rfl (by kernel_rfl) (by kernel_rfl) (by kernel_rfl) rfl (fun w' hw => au rfl (ev rfl) (bF ((aT hw.2.2) 1 _ rfl))) (fun _ _ _ h => h) HS.out ?_
  simp only [Act.put, aa, ac, ae]
  refine aD 6 rfl (by kernel_rfl) (by kernel_rfl) (by kernel_rfl) rfl (fun w' hw => ag rfl (ev rfl)) (fun _ _ _ h => h) HS.out ?_
  simp only [Act.put, aa, ac, ae]
  refine dK 7 rfl (by kernel_rfl) rfl (ap Tryz.call54 rfl (evc (ev rfl) (evc (ev rfl) (evc (ev rfl) evn)))) ?_
  refine (HJ.out.read m n).mono ?_
  rintro e w2 ⟨rfl, b2'⟩
  rw [HXB.out, HEE.out]
  have HJ2 := Lib.hid (HJ.out.below b2')
  have H62 := Lib.hid (ao H6.out b2')
  have HO := Lib.hid (HD.out.trans (b2'.mono HD.out.size))
  have HS2 := Lib.hid (HS.out.below b2')
  clear b2'
  have ho1 : Only (fun b => b = b6) w2 (w2.setCells b6 0 (cel xb)) := (Only.refl (fun b => b = b6) w2).setCells (b := b6) (.inl rfl) (cel xb) 0
  have HS3 := Lib.hid (HS2.out.only ho1 HNN.out.1 HNN.out.2.1 HNN.out.2.2)
  refine ⟨_, rfl, HS2.out, ?_⟩
  simp only [Act.put, aa, ac, ae]
  refine aD 8 rfl (by kernel_rfl) (by kernel_rfl) (by kernel_rfl) rfl (fun w' hw => ag rfl (ev rfl)) (fun _ _ _ h => h) HS2.out ?_
  simp only [Act.put, aa, ac, ae]
  refine aD 9 rfl (by kernel_rfl) (by kernel_rfl) (by kernel_rfl) rfl (fun w' hw => ax rfl (ev rfl) rfl) (fun _ _ _ h => h) HS2.out ?_
  simp only [Act.put, aa, ac, ae]
  refine aD 10 rfl (by kernel_rfl) (by kernel_rfl) (by kernel_rfl) rfl (fun w' hw => ax rfl (ev rfl) rfl) (fun _ _ _ h => h) HS2.out ?_
  simp only [Act.put, aa, ac, ae]
  refine held_nul 11 rfl (by kernel_rfl) rfl (aP (c := xb) rfl (ev rfl) (ev rfl) (bU H62.out)) HS3.out ?_
  simp only [Act.put]
  refine aD 12 rfl (by kernel_rfl) (by kernel_rfl) (by kernel_rfl) rfl (fun w' hw => aj rfl (ev rfl)) (fun _ _ _ h => h) HS3.out ?_
  simp only [Act.put, aa, ac, ae]
  refine wpAnyH_done (by kernel_rfl) ?_ _
  have ho := (Only.of_below (fun b => b = b6) HO.out).setCells (b := b6) (.inl rfl) (cel xb) 0
  have hj := (HJ2.out.mine HK6.out HG6.out ((Only.refl (fun b => b = b6) w2).setCells (b := b6) (.inl rfl) (cel xb) 0))
  have H7 := Lib.hid (blk_laid (d := xb) H62.out)
  have HO3 := Lib.hid ho
  have HJ3 := Lib.hid hj
  clear ho hj
  generalize w2.setCells b6 0 (cel xb) = w3 at *
  go_upto_region 2 with fail
  refine wp_region_lit ?_
  refine af rfl (ag rfl (ev rfl)) ?_
  simp only [Act.put, aa, ac, ae]
  refine af rfl (aj rfl (ev rfl)) ?_
  simp only [Act.put, aa, ac, ae]
  refine wpList_nil ?_
  go_wp2_with fail
  go_ret
  exact ⟨rfl, HJ3.out, H7.out, HO3.out⟩
def rdF (b2 b3 b6 : Nat) : Fu := ⟨53, [.pointer (some ⟨b2, 0, none⟩), .pointer (some ⟨b3, 0, none⟩), .pointer (some ⟨b6, 0, none⟩)], Tryz.call53⟩
theorem hp_read_cell {s m : Int} (hf : aI x.R = true) (hid : x.id ≠ 0 ∧ x.id < 18446744073709551616) (hr : Room M 600) (he : x.us ≤ 4611686018427387000) (hs : x.ev = x.us) (h : HJ w0 H (fun b => K b ∨ b = b6) w p q M x) (g6 : w0.heap.size ≤ b6) (m2 : b2 ≠ b6) (m3 : b3 ≠ b6) (n6 : ∀ b, K b → b ≠ b6) (h2 : w.heap[b2]? = some (.cells #[.pointer (some ⟨p, 0, none⟩)] 23 (0, 0))) (h3 : w.heap[b3]? = some (.cells ([.int .i64 s, .int .i64 m] : List Value).toArray 43 (0, 0))) (h6 : w.heap[b6]? = some (.cells (cel al).toArray 38 (0, 0))) : Calls Tryz.prog 20 #[.pointer (some ⟨p, 0, none⟩), .agg #[.int .i64 s, .int .i64 m], (rdF b2 b3 b6).val] w fun e w' =>
    e = .returned (.int .i64 (cg ⟨M, x.id, x.us, x.R⟩ s m)) ∧ w'.heap[b6]? = some (.cells (cel (hrdB ⟨M, x.id, x.us, x.R⟩ s m)).toArray 38 (0, 0)) ∧ HuQ w0 H (fun b => K b ∨ b = b6) w' p q x (hrdS ⟨M, x.id, x.us, x.R⟩ s m) (hrdK ⟨M, x.id, x.us, x.R⟩ s m) w' ∧ bm K w w' := by
  have hgb : geoB x.R = true := by have hf' := hf; unfold aI at hf'; simp only [Bool.and_eq_true] at hf'; exact hf'.1.1.1
  cases hE : celO x.R s m with
  | some E =>
    obtain ⟨c1, c2, c3, c4⟩ := celO_rd (h := ⟨M, x.id, x.us, x.R⟩) hE
    refine (hp_cell1 (sv := rdF b2 b3 b6) hgb hE h.hul).mono ?_
    rintro e w2 ⟨rfl, b⟩
    rw [c1, c2, c3]
    exact ⟨rfl, ao h6 b, HuQ.of (h.below b) (bm.refl _ _) hs hf c4, (h.kept b).less fun b e => .inl e⟩
  | none =>
    refine (hp_cell2 (w0 := w0) (H := H) (K := fun b => K b ∨ b = b6) (M := M) (sv := rdF b2 b3 b6) (fun E w' => E = bO M m (2 + s) ∧ HJ w0 H (fun b => K b ∨ b = b6) w' p q M x ∧ w'.heap[b6]? = some (.cells (cel (rdB6 M m (2 + s))).toArray 38 (0, 0)) ∧ bm K w w') hf hid hr he hE h.hul (fun w1 hb => ?_) (fun w' hw => hw.2.1)).mono ?_
    · refine (hp_read_1 m2 m3 (h.below hb) (.inr rfl) g6 (ao h2 hb) (ao h3 hb) (ao h6 hb)).mono ?_
      rintro e w2 ⟨rfl, j2, k2, o2⟩
      refine ⟨_, rfl, rfl, j2, k2, ((h.kept hb).less fun b e => .inl e).trans (bm.of_only o2 fun b e => ⟨n6 b e, (h.below hb).lt (.inl e)⟩)⟩
    · rintro e w2 (⟨E, e9, rfl, rfl, j2, k2, kk⟩ | ⟨w3, ⟨e9, j3, k3, kk⟩, rfl, q3⟩)
      · obtain ⟨c1, c2, c3, c4⟩ := celO_rdn (h := ⟨M, x.id, x.us, x.R⟩) hE e9
        rw [c1, c2, c3]
        exact ⟨rfl, k2, HuQ.of j2 (bm.refl _ _) hs hf c4, kk⟩
      · obtain ⟨c1, c2, c3, c4⟩ := celO_rd9 (h := ⟨M, x.id, x.us, x.R⟩) hE e9.symm
        rw [c1, c2, c3]
        have hz : rdB6 M m (2 + s) = al := rd_zeroE (by rw [← e9]; decide)
        rw [hz] at k3
        refine ⟨rfl, q3.1.at_ (.inr rfl) k3, (HuQ.sv (q3.from (ws := w3) (bm.refl _ _)) c4).2 |> fun z => ⟨bm.refl _ _, z.1, z.2⟩, kk.trans (q3.1.less fun b e => .inl e)⟩
set_option maxHeartbeats 4000000 in
theorem hp_read (s m : Int) (hf : aI x.R = true) (hid : x.id ≠ 0 ∧ x.id < 18446744073709551616) (hr : Room M 600) (he : x.us ≤ 4611686018427387000) (hs : x.ev = x.us) (h : HJ w0 H K w p q M x) : Calls Tryz.prog 24 #[.pointer (some ⟨p, 0, none⟩), .agg #[.int .i64 s, .int .i64 m]] w fun e w' =>
    e = .returned (.tuple #[blk (hrdB ⟨M, x.id, x.us, x.R⟩ s m), .int .i64 (cg ⟨M, x.id, x.us, x.R⟩ s m)]) ∧ HuQ w0 H K w p q x (hrdS ⟨M, x.id, x.us, x.R⟩ s m) (hrdK ⟨M, x.id, x.us, x.R⟩ s m) w' := by
  have HRC := Lib.hid (fun (K' : Nat → Prop) (w4 : World) (b2 b3 b6 : Nat) => hp_read_cell (p := p) (q := q) (w0 := w0) (H := H) (K := K') (w := w4) (b2 := b2) (b3 := b3) (b6 := b6) (s := s) (m := m) hf hid hr he hs)
  have HJ := Lib.hid h
  obtain ⟨z0, hz0⟩ : ∃ z0 : HuS, (⟨M, x.id, x.us, x.R⟩ : HuS) = z0 := ⟨_, rfl⟩
  rw [hz0] at HRC ⊢
  obtain ⟨yb, hyb⟩ : ∃ yb, hrdB z0 s m = yb := ⟨_, rfl⟩
  rw [hyb] at HRC ⊢
  clear hf hid hr he hs h hz0 hyb
  go_enter Tryz.func24, Tryz.ntmps24
  go_upto_region 0 with fail
  refine wp_region_lit ?_
  refine af rfl (dk (v := .pointer (some ⟨p, 0, none⟩)) rfl rfl (ev rfl)) ?_
  simp only [Act.put, aa, ac, ae]
  have hb0 := (Below.refl w.heap.size w).alloc (Nat.le_refl _) (.cells #[.pointer (some ⟨p, 0, none⟩)] 23)
  have HP1 := Lib.hid (heap_alloc_new w (.cells #[.pointer (some ⟨p, 0, none⟩)] 23))
  have HB1 := Lib.hid hb0
  obtain ⟨b2, hb2⟩ : ∃ b2, w.heap.size = b2 := ⟨_, rfl⟩
  have HGb2 : Hid (w.heap.size ≤ b2) := Lib.hid (by rw [← hb2]; exact Nat.le_refl _)
  have HLb2 : Hid (b2 < (w.alloc (.cells #[.pointer (some ⟨p, 0, none⟩)] 23)).heap.size) := Lib.hid (by rw [World.size_alloc]; omega)
  rw [hb2] at HP1 ⊢
  clear hb2 hb0
  generalize w.alloc (.cells #[.pointer (some ⟨p, 0, none⟩)] 23) = w1 at *
  refine af rfl (bZ (cs := ([.int .i64 s, .int .i64 m] : List Value)) rfl (ev rfl)) ?_
  simp only [Act.put, aa, ac, ae]
  have hb0 := (Below.refl w1.heap.size w1).alloc (Nat.le_refl _) (.cells ([.int .i64 s, .int .i64 m] : List Value).toArray 43)
  have HL2 := Lib.hid (heap_alloc_new w1 (.cells ([.int .i64 s, .int .i64 m] : List Value).toArray 43))
  have HP2 := Lib.hid (ao HP1.out hb0)
  have HB2 := Lib.hid (HB1.out.trans (hb0.mono HB1.out.size))
  obtain ⟨b3, hb3⟩ : ∃ b3, w1.heap.size = b3 := ⟨_, rfl⟩
  have HGb3 : Hid (w.heap.size ≤ b3) := Lib.hid (by rw [← hb3]; exact HB1.out.size)
  have HLb3 : Hid (b3 < (w1.alloc (.cells ([.int .i64 s, .int .i64 m] : List Value).toArray 43)).heap.size) := Lib.hid (by rw [World.size_alloc]; omega)
  rw [hb3] at HL2 ⊢
  clear hb3 hb0
  generalize w1.alloc (.cells ([.int .i64 s, .int .i64 m] : List Value).toArray 43) = w2 at *
  refine af rfl (aU rfl) ?_
  simp only [Act.put, aa, ac, ae]
  have hb0 := (Below.refl w2.heap.size w2).alloc (Nat.le_refl _) (.cells (cel al).toArray 38)
  have HQ3 := Lib.hid (heap_alloc_new w2 (.cells (cel al).toArray 38))
  have HP3 := Lib.hid (ao HP2.out hb0)
  have HL3 := Lib.hid (ao HL2.out hb0)
  have HB3 := Lib.hid (HB2.out.trans (hb0.mono HB2.out.size))
  obtain ⟨b4, hb4⟩ : ∃ b4, w2.heap.size = b4 := ⟨_, rfl⟩
  have HGb4 : Hid (w.heap.size ≤ b4) := Lib.hid (by rw [← hb4]; exact HB2.out.size)
  have HLb4 : Hid (b4 < (w2.alloc (.cells (cel al).toArray 38)).heap.size) := Lib.hid (by rw [World.size_alloc]; omega)
  rw [hb4] at HQ3 ⊢
  clear hb4 hb0
  generalize w2.alloc (.cells (cel al).toArray 38) = w3 at *
  refine af rfl (aj rfl evk) ?_
  simp only [Act.put, aa, ac, ae]
  refine wpList_nil ?_
  go_upto_region 1 with fail
  refine wp_region_lit ?_
  refine af rfl (aU rfl) ?_
  simp only [Act.put, aa, ac, ae]
  have hb0 := (Below.refl w3.heap.size w3).alloc (Nat.le_refl _) (.cells (cel al).toArray 38)
  have HX4 := Lib.hid (heap_alloc_new w3 (.cells (cel al).toArray 38))
  have HP4 := Lib.hid (ao HP3.out hb0)
  have HL4 := Lib.hid (ao HL3.out hb0)
  have HQ4 := Lib.hid (ao HQ3.out hb0)
  have HB4 := Lib.hid (HB3.out.trans (hb0.mono HB3.out.size))
  obtain ⟨b6, hb6⟩ : ∃ b6, w3.heap.size = b6 := ⟨_, rfl⟩
  have HLb46 : Hid (b4 < b6) := Lib.hid (by rw [← hb6]; exact aH HQ3.out)
  have HLb26 : Hid (b2 < b6) := Lib.hid (by rw [← hb6]; exact aH HP3.out)
  have HLb36 : Hid (b3 < b6) := Lib.hid (by rw [← hb6]; exact aH HL3.out)
  have HGb6 : Hid (w.heap.size ≤ b6) := Lib.hid (by rw [← hb6]; exact HB3.out.size)
  have HLb6 : Hid (b6 < (w3.alloc (.cells (cel al).toArray 38)).heap.size) := Lib.hid (by rw [World.size_alloc]; omega)
  rw [hb6] at HX4 ⊢
  clear hb6 hb0
  generalize w3.alloc (.cells (cel al).toArray 38) = w4 at *
  refine wpList_nil ?_
  have HJ4 : Hid (Proofs.YtheponmdbmloaaaGreatDoor.HJ w0 H (fun b => (K b ∨ b = b4) ∨ b = b6) w4 p q M x) := Lib.hid (HJ.out.guard HB4.out fun b e => by
    have h4 := aH HQ4.out
    have h6 := aH HX4.out
    have g4 := HGb4.out
    have g6 := HGb6.out
    rcases e with (e | e) | e
    · exact .inl e
    · exact .inr ⟨by omega, by omega⟩
    · exact .inr ⟨by omega, by omega⟩)
  go_upto_region 2 with fail
  refine wp_region_lit ?_
  refine af rfl (au rfl (ev rfl) (ldHp (cell_of_row _ b2 0 _ _ _ HP4.out))) ?_
  simp only [Act.put, aa, ac, ae]
  refine af rfl (bP (cs := ([.int .i64 s, .int .i64 m] : List Value)) Tryz.underlying43 rfl (by kernel_rfl) rfl (ev rfl) (aT HL4.out)) ?_
  simp only [Act.put, aa, ac, ae]
  refine af rfl (exec_mkf3 rfl (ev rfl) (ev rfl) (ev rfl)) ?_
  simp only [Act.put, aa, ac, ae]
  refine ak rfl (ap Tryz.call20 rfl (evc (ev rfl) (evc (ev rfl) (evc (ev rfl) evn)))) ?_
  refine (HRC.out (fun b => K b ∨ b = b4) w4 b2 b3 b6 HJ4.out (Nat.le_trans HJ.out.size HGb6.out) (by have := HLb26.out; omega) (by have := HLb36.out; omega) (fun b e => by
    have h4 := HLb46.out
    have h6 := HGb6.out
    rcases e with e | e
    · have := HJ.out.lt e; omega
    · omega) HP4.out HL4.out HX4.out).mono ?_
  rintro e w5 ⟨rfl, x5, q5, k5⟩
  have HX5 := Lib.hid x5
  have HQ5 := Lib.hid q5
  have HK5 := Lib.hid k5
  have HR5 := Lib.hid (k5.at_ (.inr rfl) HQ4.out)
  clear x5 q5 k5
  refine ⟨_, rfl, ?_⟩
  simp only [Act.put, aa, ac, ae]
  refine af rfl (aj rfl (ev rfl)) ?_
  simp only [Act.put, aa, ac, ae]
  refine wpList_nil ?_
  go_upto_region 3 with fail
  refine wp_region_lit ?_
  refine af rfl (aG (c := yb) rfl (ev rfl) (aT HX5.out)) ?_
  simp only [Act.put, aa, ac, ae]
  refine af rfl (ag rfl (ev rfl)) ?_
  simp only [Act.put, aa, ac, ae]
  refine av rfl (aP (c := yb) rfl (ev rfl) (ev rfl) (bU HR5.out)) ?_
  simp only [Act.put, aa, ac, ae]
  refine af rfl (aj rfl (ev rfl)) ?_
  simp only [Act.put, aa, ac, ae]
  refine wpList_nil ?_
  go_wp2_with fail
  refine bodyPost_ret (ch rfl _ _ _ rfl (World.rangeAt_setCells_same _ _ _ _ (by rw [aw]; exact bU HR5.out))) rfl ⟨rfl, ?_⟩
  have hk : bm K w w4 := HJ.out.kept HB4.out
  have hq := (HQ5.out.mine (g := b4) (K' := K) (.inl (.inr rfl)) (Nat.le_trans HJ.out.size HGb4.out) ((Only.refl (fun b => b = b4) w5).setCells (b := b4) (.inl rfl) (cel yb) 0) (fun b e => ⟨.inl (.inl e), by have := HJ.out.lt e; have := HGb4.out; omega⟩) fun b e => HQ5.out.lt (.inl (.inl e)))
  exact ⟨hk.trans ((HK5.out.less fun b e => .inl e).trans hq.1), hq.2.1, hq.2.2⟩
theorem NoH.cells (h : NoH w v) : v.cells = #[v] := by
  rcases h with rfl | ⟨p, rfl, _⟩ <;> rfl
theorem ldHn {w2 : World} {ad : Addr} (h : NoH w v) (hc : w2.cell? ad = some v) : (Instr.loadAt 23 (.pointer (some ad))).run Tryz.prog w2 = .ok v w2 := by
  rcases h with rfl | ⟨p, rfl, _⟩
  · exact ldHp hc
  · exact ldHp hc
set_option maxHeartbeats 4000000 in
theorem hp_read0 (s m : Int) (h : NoH w v) : Calls Tryz.prog 24 #[v, .agg #[.int .i64 s, .int .i64 m]] w fun e w' => e = .returned (.tuple #[blk al, .int .i64 1]) ∧ Below w.heap.size w w' := by
  obtain ⟨z0, hz0⟩ : ∃ z0, z0 = w.heap.size := ⟨_, rfl⟩
  rw [← hz0]
  have HZ0 := Lib.hid hz0
  have HN := Lib.hid h
  clear hz0 h
  go_enter Tryz.func24, Tryz.ntmps24
  go_upto_region 0 with fail
  refine wp_region_lit ?_
  refine af rfl (dk (v := v) HN.out.cells rfl (ev rfl)) ?_
  simp only [Act.put, aa, ac, ae]
  have hb0 := (Below.refl w.heap.size w).alloc (Nat.le_refl _) (.cells #[v] 23)
  have HP1 := Lib.hid (heap_alloc_new w (.cells #[v] 23))
  have HB1 := Lib.hid hb0
  obtain ⟨b2, hb2⟩ : ∃ b2, w.heap.size = b2 := ⟨_, rfl⟩
  have HGb2 : Hid (w.heap.size ≤ b2) := Lib.hid (by rw [← hb2]; exact Nat.le_refl _)
  have HLb2 : Hid (b2 < (w.alloc (.cells #[v] 23)).heap.size) := Lib.hid (by rw [World.size_alloc]; omega)
  rw [hb2] at HP1 ⊢
  clear hb2 hb0
  generalize w.alloc (.cells #[v] 23) = w1 at *
  refine af rfl (bZ (cs := ([.int .i64 s, .int .i64 m] : List Value)) rfl (ev rfl)) ?_
  simp only [Act.put, aa, ac, ae]
  have hb0 := (Below.refl w1.heap.size w1).alloc (Nat.le_refl _) (.cells ([.int .i64 s, .int .i64 m] : List Value).toArray 43)
  have HL2 := Lib.hid (heap_alloc_new w1 (.cells ([.int .i64 s, .int .i64 m] : List Value).toArray 43))
  have HP2 := Lib.hid (ao HP1.out hb0)
  have HB2 := Lib.hid (HB1.out.trans (hb0.mono HB1.out.size))
  obtain ⟨b3, hb3⟩ : ∃ b3, w1.heap.size = b3 := ⟨_, rfl⟩
  have HGb3 : Hid (w.heap.size ≤ b3) := Lib.hid (by rw [← hb3]; exact HB1.out.size)
  have HLb3 : Hid (b3 < (w1.alloc (.cells ([.int .i64 s, .int .i64 m] : List Value).toArray 43)).heap.size) := Lib.hid (by rw [World.size_alloc]; omega)
  rw [hb3] at HL2 ⊢
  clear hb3 hb0
  generalize w1.alloc (.cells ([.int .i64 s, .int .i64 m] : List Value).toArray 43) = w2 at *
  refine af rfl (aU rfl) ?_
  simp only [Act.put, aa, ac, ae]
  have hb0 := (Below.refl w2.heap.size w2).alloc (Nat.le_refl _) (.cells (cel al).toArray 38)
  have HQ3 := Lib.hid (heap_alloc_new w2 (.cells (cel al).toArray 38))
  have HP3 := Lib.hid (ao HP2.out hb0)
  have HL3 := Lib.hid (ao HL2.out hb0)
  have HB3 := Lib.hid (HB2.out.trans (hb0.mono HB2.out.size))
  obtain ⟨b4, hb4⟩ : ∃ b4, w2.heap.size = b4 := ⟨_, rfl⟩
  have HGb4 : Hid (w.heap.size ≤ b4) := Lib.hid (by rw [← hb4]; exact HB2.out.size)
  have HLb4 : Hid (b4 < (w2.alloc (.cells (cel al).toArray 38)).heap.size) := Lib.hid (by rw [World.size_alloc]; omega)
  rw [hb4] at HQ3 ⊢
  clear hb4 hb0
  generalize w2.alloc (.cells (cel al).toArray 38) = w3 at *
  refine af rfl (aj rfl evk) ?_
  simp only [Act.put, aa, ac, ae]
  refine wpList_nil ?_
  go_upto_region 1 with fail
  refine wp_region_lit ?_
  refine af rfl (aU rfl) ?_
  simp only [Act.put, aa, ac, ae]
  have hb0 := (Below.refl w3.heap.size w3).alloc (Nat.le_refl _) (.cells (cel al).toArray 38)
  have HX4 := Lib.hid (heap_alloc_new w3 (.cells (cel al).toArray 38))
  have HP4 := Lib.hid (ao HP3.out hb0)
  have HL4 := Lib.hid (ao HL3.out hb0)
  have HQ4 := Lib.hid (ao HQ3.out hb0)
  have HB4 := Lib.hid (HB3.out.trans (hb0.mono HB3.out.size))
  obtain ⟨b6, hb6⟩ : ∃ b6, w3.heap.size = b6 := ⟨_, rfl⟩
  have HGb6 : Hid (w.heap.size ≤ b6) := Lib.hid (by rw [← hb6]; exact HB3.out.size)
  have HLb6 : Hid (b6 < (w3.alloc (.cells (cel al).toArray 38)).heap.size) := Lib.hid (by rw [World.size_alloc]; omega)
  rw [hb6] at HX4 ⊢
  clear hb6 hb0
  generalize w3.alloc (.cells (cel al).toArray 38) = w4 at *
  refine wpList_nil ?_
  go_upto_region 2 with fail
  refine wp_region_lit ?_
  refine af rfl (au rfl (ev rfl) (ldHn HN.out (cell_of_row _ b2 0 _ _ _ HP4.out))) ?_
  simp only [Act.put, aa, ac, ae]
  refine af rfl (bP (cs := ([.int .i64 s, .int .i64 m] : List Value)) Tryz.underlying43 rfl (by kernel_rfl) rfl (ev rfl) (aT HL4.out)) ?_
  simp only [Act.put, aa, ac, ae]
  refine af rfl (exec_mkf3 rfl (ev rfl) (ev rfl) (ev rfl)) ?_
  simp only [Act.put, aa, ac, ae]
  refine ak rfl (ap Tryz.call20 rfl (evc (ev rfl) (evc (ev rfl) (evc (ev rfl) evn)))) ?_
  refine (hp_cell0 (sv := rdF b2 b3 b6) (HN.out.below HB4.out)).mono ?_
  rintro e w5 ⟨rfl, b5'⟩
  have HX5 := Lib.hid (ao HX4.out b5')
  have HR5 := Lib.hid (ao HQ4.out b5')
  have HB5 := Lib.hid (HB4.out.trans (b5'.mono HB4.out.size))
  clear b5'
  refine ⟨_, rfl, ?_⟩
  simp only [Act.put, aa, ac, ae]
  refine af rfl (aj rfl (ev rfl)) ?_
  simp only [Act.put, aa, ac, ae]
  refine wpList_nil ?_
  go_upto_region 3 with fail
  refine wp_region_lit ?_
  refine af rfl (aG (c := al) rfl (ev rfl) (aT HX5.out)) ?_
  simp only [Act.put, aa, ac, ae]
  refine af rfl (ag rfl (ev rfl)) ?_
  simp only [Act.put, aa, ac, ae]
  refine av rfl (aP (c := al) rfl (ev rfl) (ev rfl) (bU HR5.out)) ?_
  simp only [Act.put, aa, ac, ae]
  refine af rfl (aj rfl (ev rfl)) ?_
  simp only [Act.put, aa, ac, ae]
  refine wpList_nil ?_
  go_wp2_with fail
  exact bodyPost_ret (ch rfl _ _ _ rfl (World.rangeAt_setCells_same _ _ _ _ (by rw [aw]; exact bU HR5.out))) rfl ⟨rfl, by rw [HZ0.out]; exact below_setCells HB5.out HGb4.out _⟩
theorem hp_write_1 {s m n : Int} {y : Blk} (hr : Room M 1) (h : HJ w0 H K w p q M x) (h3 : w.heap[b3]? = some (.cells #[.pointer (some ⟨p, 0, none⟩)] 23 (0, 0))) (h4 : w.heap[b4]? = some (.cells ([.int .i64 s, .int .i64 m] : List Value).toArray 43 (0, 0))) (h5 : w.heap[b5]? = some (.cells (cel y).toArray 38 (0, 0))) : Calls Tryz.prog 21 #[.int .i64 n, .pointer (some ⟨b3, 0, none⟩), .pointer (some ⟨b4, 0, none⟩), .pointer (some ⟨b5, 0, none⟩)] w fun e w' =>
    e = .returned (.int .i64 (wrE6 M m n)) ∧ HJ w0 H K w' p q (wrS6 M m n y) x ∧ bm K w w' := by
  have HJ := Lib.hid h.drew
  have HRM := Lib.hid hr
  have HD : Hid (Below w.heap.size w (World.drew w)) := Lib.hid (bd (Below.refl _ _))
  have HKD := Lib.hid (h.kept HD.out)
  have H3 := Lib.hid (ao h3 HD.out)
  have H4 := Lib.hid (ao h4 HD.out)
  have H5 := Lib.hid (ao h5 HD.out)
  clear hr h h3 h4 h5
  go_enter Tryz.func21, Tryz.ntmps21
  go_upto_region 1 with fail
  refine wp_region_still_tail 8 (by kernel_rfl) (by kernel_rfl) ?_
  simp only [List.take_succ_cons, List.take_zero, List.drop_succ_cons, List.drop_zero]
  refine az rfl (au rfl (ev rfl) (ldHp ((aT H3.out) 0 _ rfl))) ?_
  simp only [Act.put, aa, ac, ae]
  refine az rfl (bk rfl (ev rfl)) ?_
  simp only [Act.put, aa, ac, ae]
  refine az rfl (am rfl (ev rfl) faHp0) ?_
  simp only [Act.put, aa, ac, ae]
  refine az rfl (au rfl (ev rfl) (ldHb (PHo.c0 HJ.out.hul))) ?_
  simp only [Act.put, aa, ac, ae]
  refine az rfl (am rfl (ev rfl) faPm1) ?_
  simp only [Act.put, aa, ac, ae]
  refine az rfl (au rfl (ev rfl) (bF ((aT H4.out) 1 _ rfl))) ?_
  simp only [Act.put, aa, ac, ae]
  refine az rfl (ag rfl (ev rfl)) ?_
  simp only [Act.put, aa, ac, ae]
  refine az rfl (aG rfl (ev rfl) (aT H5.out)) ?_
  simp only [Act.put, aa, ac, ae]
  refine wpStill_nil ?_
  change wpList _ _ _ _ _ (World.drew _)
  refine ak rfl (ap Tryz.call22 rfl (evc (ev rfl) (evc (ev rfl) (evc (ev rfl) (evc (ev rfl) evn))))) ?_
  refine (HJ.out.write m n y HRM.out).mono ?_
  rintro e w2 ⟨rfl, j2, k2⟩
  refine ⟨_, rfl, ?_⟩
  simp only [Act.put, aa, ac, ae]
  refine af rfl (aj rfl (ev rfl)) ?_
  simp only [Act.put, aa, ac, ae]
  refine wpList_nil ?_
  go_wp2_with fail
  go_ret
  exact ⟨rfl, j2, HKD.out.trans k2⟩
def wrF (b3 b4 b5 : Nat) : Fu := ⟨21, [.pointer (some ⟨b3, 0, none⟩), .pointer (some ⟨b4, 0, none⟩), .pointer (some ⟨b5, 0, none⟩)], Tryz.call21⟩
theorem hp_write_cell {s m : Int} {y : Blk} (hf : aI x.R = true) (hid : x.id ≠ 0 ∧ x.id < 18446744073709551616) (hr : Room M 600) (he : x.us ≤ 4611686018427387000) (hs : x.ev = x.us) (h : HJ w0 H K w p q M x) (h3 : w.heap[b3]? = some (.cells #[.pointer (some ⟨p, 0, none⟩)] 23 (0, 0))) (h4 : w.heap[b4]? = some (.cells ([.int .i64 s, .int .i64 m] : List Value).toArray 43 (0, 0))) (h5 : w.heap[b5]? = some (.cells (cel y).toArray 38 (0, 0))) : Calls Tryz.prog 20 #[.pointer (some ⟨p, 0, none⟩), .agg #[.int .i64 s, .int .i64 m], (wrF b3 b4 b5).val] w fun e w' =>
    e = .returned (.int .i64 (hwcE ⟨M, x.id, x.us, x.R⟩ s m)) ∧ HuQ w0 H K w p q x (hwrS ⟨M, x.id, x.us, x.R⟩ s m y) (hwrK ⟨M, x.id, x.us, x.R⟩ s m) w' := by
  have hgb : geoB x.R = true := by have hf' := hf; unfold aI at hf'; simp only [Bool.and_eq_true] at hf'; exact hf'.1.1.1
  cases hE : celO x.R s m with
  | some E =>
    obtain ⟨c1, c3, c4⟩ := celO_wr (h := ⟨M, x.id, x.us, x.R⟩) (b := y) hE
    refine (hp_cell1 (sv := wrF b3 b4 b5) hgb hE h.hul).mono ?_
    rintro e w2 ⟨rfl, b⟩
    rw [c1, c3]
    exact ⟨rfl, HuQ.of (h.below b) (h.kept b) hs hf c4⟩
  | none =>
    by_cases h9 : wrE6 M m (2 + s) = 9
    · obtain ⟨c1, c3, c4⟩ := celO_wr9 (h := ⟨M, x.id, x.us, x.R⟩) (b := y) hE h9
      rw [c1, c3]
      refine (hp_cell2 (w0 := w0) (H := H) (K := K) (M := M) (sv := wrF b3 b4 b5) (fun E w' => E = 9 ∧ HJ w0 H K w' p q M x ∧ bm K w w') hf hid hr he hE h.hul (fun w1 hb => ?_) (fun w' hw => hw.2.1)).mono ?_
      · refine (hp_write_1 (s := s) (m := m) (n := 2 + s) (cj hr (by omega)) (h.below hb) (ao h3 hb) (ao h4 hb) (ao h5 hb)).mono ?_
        rintro e w2 ⟨rfl, j2, k2⟩
        rw [wr_dead h9] at j2
        exact ⟨_, rfl, h9, j2, (h.kept hb).trans k2⟩
      · rintro e w2 (⟨E, e9, _, e9', _⟩ | ⟨w3, ⟨_, j3, kk⟩, rfl, q3⟩)
        · exact absurd e9' e9
        · exact ⟨rfl, HuQ.sv (q3.from kk) c4⟩
    · obtain ⟨c1, c3, c4⟩ := celO_wrn (h := ⟨M, x.id, x.us, x.R⟩) (b := y) hE h9
      rw [c1, c3]
      refine (hp_cell2 (w0 := w0) (H := H) (K := K) (M := M) (sv := wrF b3 b4 b5) (fun E w' => E = wrE6 M m (2 + s) ∧ HJ w0 H K w' p q (wrS6 M m (2 + s) y) x ∧ bm K w w') hf hid hr he hE h.hul (fun w1 hb => ?_) (fun w' hw => absurd hw.1.symm h9)).mono ?_
      · refine (hp_write_1 (s := s) (m := m) (n := 2 + s) (cj hr (by omega)) (h.below hb) (ao h3 hb) (ao h4 hb) (ao h5 hb)).mono ?_
        rintro e w2 ⟨rfl, j2, k2⟩
        exact ⟨_, rfl, rfl, j2, (h.kept hb).trans k2⟩
      · rintro e w2 (⟨E, e9, rfl, rfl, j2, kk⟩ | ⟨w3, ⟨e9, _⟩, _⟩)
        · exact ⟨rfl, HuQ.of j2 kk hs hf c4⟩
        · exact absurd e9.symm h9
set_option maxHeartbeats 4000000 in
theorem hp_write (s m : Int) (y : Blk) (hf : aI x.R = true) (hid : x.id ≠ 0 ∧ x.id < 18446744073709551616) (hr : Room M 600) (he : x.us ≤ 4611686018427387000) (hs : x.ev = x.us) (h : HJ w0 H K w p q M x) : Calls Tryz.prog 7 #[.pointer (some ⟨p, 0, none⟩), .agg #[.int .i64 s, .int .i64 m], blk y] w fun e w' =>
    e = .returned (.int .i64 (hwrE ⟨M, x.id, x.us, x.R⟩ s m y)) ∧ HuQ w0 H K w p q x (hwrS ⟨M, x.id, x.us, x.R⟩ s m y) (hwrK ⟨M, x.id, x.us, x.R⟩ s m) w' := by
  have HRC := Lib.hid (fun (w3 : World) (b3 b4 b5 : Nat) => hp_write_cell (p := p) (q := q) (w0 := w0) (H := H) (K := K) (w := w3) (b3 := b3) (b4 := b4) (b5 := b5) (s := s) (m := m) (y := y) hf hid hr he hs)
  have HMP := Lib.hid (hwr_map (h := ⟨M, x.id, x.us, x.R⟩) (s := s) (m := m) (b := y))
  have HJ := Lib.hid h
  obtain ⟨z0, hz0⟩ : ∃ z0 : HuS, (⟨M, x.id, x.us, x.R⟩ : HuS) = z0 := ⟨_, rfl⟩
  rw [hz0] at HRC HMP ⊢
  obtain ⟨ce, hce⟩ : ∃ ce, hwcE z0 s m = ce := ⟨_, rfl⟩
  rw [hce] at HMP
  have HCE := Lib.hid hce
  clear hf hid hr he hs h hz0 hce
  go_enter Tryz.func7, Tryz.ntmps7
  go_upto_region 0 with fail
  refine wp_region_lit ?_
  refine af rfl (dk (v := .pointer (some ⟨p, 0, none⟩)) rfl rfl (ev rfl)) ?_
  simp only [Act.put, aa, ac, ae]
  have hb0 := (Below.refl w.heap.size w).alloc (Nat.le_refl _) (.cells #[.pointer (some ⟨p, 0, none⟩)] 23)
  have HP1 := Lib.hid (heap_alloc_new w (.cells #[.pointer (some ⟨p, 0, none⟩)] 23))
  have HB1 := Lib.hid hb0
  obtain ⟨b3, hb3⟩ : ∃ b3, w.heap.size = b3 := ⟨_, rfl⟩
  have HGb3 : Hid (w.heap.size ≤ b3) := Lib.hid (by rw [← hb3]; exact Nat.le_refl _)
  have HLb3 : Hid (b3 < (w.alloc (.cells #[.pointer (some ⟨p, 0, none⟩)] 23)).heap.size) := Lib.hid (by rw [World.size_alloc]; omega)
  rw [hb3] at HP1 ⊢
  clear hb3 hb0
  generalize w.alloc (.cells #[.pointer (some ⟨p, 0, none⟩)] 23) = w1 at *
  refine af rfl (bZ (cs := ([.int .i64 s, .int .i64 m] : List Value)) rfl (ev rfl)) ?_
  simp only [Act.put, aa, ac, ae]
  have hb0 := (Below.refl w1.heap.size w1).alloc (Nat.le_refl _) (.cells ([.int .i64 s, .int .i64 m] : List Value).toArray 43)
  have HL2 := Lib.hid (heap_alloc_new w1 (.cells ([.int .i64 s, .int .i64 m] : List Value).toArray 43))
  have HP2 := Lib.hid (ao HP1.out hb0)
  have HB2 := Lib.hid (HB1.out.trans (hb0.mono HB1.out.size))
  obtain ⟨b4, hb4⟩ : ∃ b4, w1.heap.size = b4 := ⟨_, rfl⟩
  have HGb4 : Hid (w.heap.size ≤ b4) := Lib.hid (by rw [← hb4]; exact HB1.out.size)
  have HLb4 : Hid (b4 < (w1.alloc (.cells ([.int .i64 s, .int .i64 m] : List Value).toArray 43)).heap.size) := Lib.hid (by rw [World.size_alloc]; omega)
  rw [hb4] at HL2 ⊢
  clear hb4 hb0
  generalize w1.alloc (.cells ([.int .i64 s, .int .i64 m] : List Value).toArray 43) = w2 at *
  refine af rfl (bH (c := y) rfl (ev rfl)) ?_
  simp only [Act.put, aa, ac, ae]
  have hb0 := (Below.refl w2.heap.size w2).alloc (Nat.le_refl _) (.cells (cel y).toArray 38)
  have HX3 := Lib.hid (heap_alloc_new w2 (.cells (cel y).toArray 38))
  have HP3 := Lib.hid (ao HP2.out hb0)
  have HL3 := Lib.hid (ao HL2.out hb0)
  have HB3 := Lib.hid (HB2.out.trans (hb0.mono HB2.out.size))
  obtain ⟨b5, hb5⟩ : ∃ b5, w2.heap.size = b5 := ⟨_, rfl⟩
  have HGb5 : Hid (w.heap.size ≤ b5) := Lib.hid (by rw [← hb5]; exact HB2.out.size)
  have HLb5 : Hid (b5 < (w2.alloc (.cells (cel y).toArray 38)).heap.size) := Lib.hid (by rw [World.size_alloc]; omega)
  rw [hb5] at HX3 ⊢
  clear hb5 hb0
  generalize w2.alloc (.cells (cel y).toArray 38) = w3 at *
  refine af rfl (aj rfl evk) ?_
  simp only [Act.put, aa, ac, ae]
  refine wpList_nil ?_
  go_upto_region 1 with fail
  refine wp_region_lit ?_
  refine af rfl (au rfl (ev rfl) (ldHp (cell_of_row _ b3 0 _ _ _ HP3.out))) ?_
  simp only [Act.put, aa, ac, ae]
  refine af rfl (bP (cs := ([.int .i64 s, .int .i64 m] : List Value)) Tryz.underlying43 rfl (by kernel_rfl) rfl (ev rfl) (aT HL3.out)) ?_
  simp only [Act.put, aa, ac, ae]
  refine af rfl (exec_mkf3 rfl (ev rfl) (ev rfl) (ev rfl)) ?_
  simp only [Act.put, aa, ac, ae]
  refine ak rfl (ap Tryz.call20 rfl (evc (ev rfl) (evc (ev rfl) (evc (ev rfl) evn)))) ?_
  refine (HRC.out w3 b3 b4 b5 (HJ.out.below HB3.out) HP3.out HL3.out HX3.out).mono ?_
  rintro e w4 ⟨rfl, q4⟩
  rw [HCE.out]
  have HQ4 := Lib.hid (q4.from (HJ.out.kept HB3.out))
  clear q4
  refine ⟨_, rfl, ?_⟩
  simp only [Act.put, aa, ac, ae]
  refine af rfl (aj rfl (ev rfl)) ?_
  simp only [Act.put, aa, ac, ae]
  refine wpList_nil ?_
  by_cases h7 : ce = 7
  · subst h7
    have HWE : Hid (hwrE z0 s m y = 0) := Lib.hid (by rw [← HMP.out, if_pos rfl])
    go_upto_region 2 with fail
    refine wp_region_lit ?_
    refine af rfl (ag rfl (ev rfl)) ?_
    simp only [Act.put, aa, ac, ae]
    refine af (v := .bool true) rfl (ar true rfl (ev rfl) evk rfl) ?_
    simp only [Act.put, aa, ac, ae]
    refine wpList_nil ?_
    go_upto_region 3 with fail
    refine wp_region_lit ?_
    refine af rfl (aj rfl evk) ?_
    simp only [Act.put, aa, ac, ae]
    refine wpList_nil ?_
    go_wp2_with fail
    go_ret
    exact ⟨by rw [HWE.out]; rfl, HQ4.out⟩
  have H7 : Hid ((ce == 7) = false) := Lib.hid (beq_eq_false_iff_ne.2 h7)
  have HWE : Hid (hwrE z0 s m y = ce) := Lib.hid (by rw [← HMP.out, if_neg h7])
  clear h7
  go_upto_region 2 with fail
  refine wp_region_lit ?_
  refine af rfl (ag rfl (ev rfl)) ?_
  simp only [Act.put, aa, ac, ae]
  refine af (v := .bool false) rfl (ar false rfl (ev rfl) evk H7.out) ?_
  simp only [Act.put, aa, ac, ae]
  refine wpList_nil ?_
  go_upto_region 4 with fail
  refine wp_region_lit ?_
  refine af rfl (ag rfl (ev rfl)) ?_
  simp only [Act.put, aa, ac, ae]
  refine af rfl (aj rfl (ev rfl)) ?_
  simp only [Act.put, aa, ac, ae]
  refine wpList_nil ?_
  go_wp2_with fail
  go_ret
  exact ⟨by rw [HWE.out]; rfl, HQ4.out⟩
set_option maxHeartbeats 4000000 in
theorem hp_write0 (s m : Int) (y : Blk) (h : NoH w v) : Calls Tryz.prog 7 #[v, .agg #[.int .i64 s, .int .i64 m], blk y] w fun e w' => e = .returned (.int .i64 1) ∧ Below w.heap.size w w' := by
  obtain ⟨z0, hz0⟩ : ∃ z0, z0 = w.heap.size := ⟨_, rfl⟩
  rw [← hz0]
  have HZ0 := Lib.hid hz0
  have HN := Lib.hid h
  clear hz0 h
  go_enter Tryz.func7, Tryz.ntmps7
  go_upto_region 0 with fail
  refine wp_region_lit ?_
  refine af rfl (dk (v := v) HN.out.cells rfl (ev rfl)) ?_
  simp only [Act.put, aa, ac, ae]
  have hb0 := (Below.refl w.heap.size w).alloc (Nat.le_refl _) (.cells #[v] 23)
  have HP1 := Lib.hid (heap_alloc_new w (.cells #[v] 23))
  have HB1 := Lib.hid hb0
  obtain ⟨b3, hb3⟩ : ∃ b3, w.heap.size = b3 := ⟨_, rfl⟩
  have HGb3 : Hid (w.heap.size ≤ b3) := Lib.hid (by rw [← hb3]; exact Nat.le_refl _)
  have HLb3 : Hid (b3 < (w.alloc (.cells #[v] 23)).heap.size) := Lib.hid (by rw [World.size_alloc]; omega)
  rw [hb3] at HP1 ⊢
  clear hb3 hb0
  generalize w.alloc (.cells #[v] 23) = w1 at *
  refine af rfl (bZ (cs := ([.int .i64 s, .int .i64 m] : List Value)) rfl (ev rfl)) ?_
  simp only [Act.put, aa, ac, ae]
  have hb0 := (Below.refl w1.heap.size w1).alloc (Nat.le_refl _) (.cells ([.int .i64 s, .int .i64 m] : List Value).toArray 43)
  have HL2 := Lib.hid (heap_alloc_new w1 (.cells ([.int .i64 s, .int .i64 m] : List Value).toArray 43))
  have HP2 := Lib.hid (ao HP1.out hb0)
  have HB2 := Lib.hid (HB1.out.trans (hb0.mono HB1.out.size))
  obtain ⟨b4, hb4⟩ : ∃ b4, w1.heap.size = b4 := ⟨_, rfl⟩
  have HGb4 : Hid (w.heap.size ≤ b4) := Lib.hid (by rw [← hb4]; exact HB1.out.size)
  have HLb4 : Hid (b4 < (w1.alloc (.cells ([.int .i64 s, .int .i64 m] : List Value).toArray 43)).heap.size) := Lib.hid (by rw [World.size_alloc]; omega)
  rw [hb4] at HL2 ⊢
  clear hb4 hb0
  generalize w1.alloc (.cells ([.int .i64 s, .int .i64 m] : List Value).toArray 43) = w2 at *
  refine af rfl (bH (c := y) rfl (ev rfl)) ?_
  simp only [Act.put, aa, ac, ae]
  have hb0 := (Below.refl w2.heap.size w2).alloc (Nat.le_refl _) (.cells (cel y).toArray 38)
  have HX3 := Lib.hid (heap_alloc_new w2 (.cells (cel y).toArray 38))
  have HP3 := Lib.hid (ao HP2.out hb0)
  have HL3 := Lib.hid (ao HL2.out hb0)
  have HB3 := Lib.hid (HB2.out.trans (hb0.mono HB2.out.size))
  obtain ⟨b5, hb5⟩ : ∃ b5, w2.heap.size = b5 := ⟨_, rfl⟩
  have HGb5 : Hid (w.heap.size ≤ b5) := Lib.hid (by rw [← hb5]; exact HB2.out.size)
  have HLb5 : Hid (b5 < (w2.alloc (.cells (cel y).toArray 38)).heap.size) := Lib.hid (by rw [World.size_alloc]; omega)
  rw [hb5] at HX3 ⊢
  clear hb5 hb0
  generalize w2.alloc (.cells (cel y).toArray 38) = w3 at *
  refine af rfl (aj rfl evk) ?_
  simp only [Act.put, aa, ac, ae]
  refine wpList_nil ?_
  go_upto_region 1 with fail
  refine wp_region_lit ?_
  refine af rfl (au rfl (ev rfl) (ldHn HN.out (cell_of_row _ b3 0 _ _ _ HP3.out))) ?_
  simp only [Act.put, aa, ac, ae]
  refine af rfl (bP (cs := ([.int .i64 s, .int .i64 m] : List Value)) Tryz.underlying43 rfl (by kernel_rfl) rfl (ev rfl) (aT HL3.out)) ?_
  simp only [Act.put, aa, ac, ae]
  refine af rfl (exec_mkf3 rfl (ev rfl) (ev rfl) (ev rfl)) ?_
  simp only [Act.put, aa, ac, ae]
  refine ak rfl (ap Tryz.call20 rfl (evc (ev rfl) (evc (ev rfl) (evc (ev rfl) evn)))) ?_
  refine (hp_cell0 (sv := wrF b3 b4 b5) (HN.out.below HB3.out)).mono ?_
  rintro e w4 ⟨rfl, b4'⟩
  have HB4 := Lib.hid (HB3.out.trans (b4'.mono HB3.out.size))
  clear b4'
  refine ⟨_, rfl, ?_⟩
  simp only [Act.put, aa, ac, ae]
  refine af rfl (aj rfl (ev rfl)) ?_
  simp only [Act.put, aa, ac, ae]
  refine wpList_nil ?_
  go_upto_region 2 with fail
  refine wp_region_lit ?_
  refine af rfl (ag rfl (ev rfl)) ?_
  simp only [Act.put, aa, ac, ae]
  refine af (v := .bool false) rfl (ar false rfl (ev rfl) evk rfl) ?_
  simp only [Act.put, aa, ac, ae]
  refine wpList_nil ?_
  go_upto_region 4 with fail
  refine wp_region_lit ?_
  refine af rfl (ag rfl (ev rfl)) ?_
  simp only [Act.put, aa, ac, ae]
  refine af rfl (aj rfl (ev rfl)) ?_
  simp only [Act.put, aa, ac, ae]
  refine wpList_nil ?_
  go_wp2_with fail
  go_ret
  exact ⟨rfl, by rw [HZ0.out]; exact HB4.out⟩
end
end Go.Proofs.YtheponmdbmloaaaGreatDoor
