import Derived.Test.YtbbcdhkinbmdnaaGreatDoorLobe
import Derived.Test.YtbbcdhkinbmdnaaGreatDoorLoat
import Derived.Test.YtbbcdhkinbmdnaaGreatDoorLoZ
namespace Go.Proofs.YtbbcdhkinbmdnaaGreatDoor
open Go.RowKit
set_option linter.unusedVariables false
set_option linter.unusedSimpArgs false
set_option maxRecDepth 100000
theorem share {α β : Type} {F : α → β → Prop} {G : Prop} {T : α → β → Prop} (k : (∀ a b, F a b → T a b) → G) (h : ∀ a b, F a b → T a b) : G := k h
theorem run_max3U (w : World) (ts : Array TypeId) (ty : TypeId) (a b c : Nat) : (Builtin.max_ ts ty #[.int .u64 (a : Int), .int .u64 (b : Int), .int .u64 (c : Int)]).run Tryz.prog w = .ok (.int .u64 ((max (max a b) c : Nat) : Int)) w := by
 have e1 : (if (b : Int) > (a : Int) then (b : Int) else (a : Int)) = ((max a b : Nat) : Int) := by split <;> omega
 have e2 : (if (c : Int) > ((max a b : Nat) : Int) then (c : Int) else ((max a b : Nat) : Int)) = ((max (max a b) c : Nat) : Int) := by split <;> omega
 simp [Builtin.max_, Builtin.max2]
 clear e1 e2
 by_cases h1 : a < b
 ·simp only [if_pos h1]
  split <;> omega
 ·simp only [if_neg h1]
  split <;> omega
theorem exec_max3 {o : Oper} {ac : Act} {x y z : Operand} {w : World} {a b c : Nat} {ts : Array TypeId} (ho : o.op = .call { callee := .builtin .max, args := #[x, y, z], argTypes := ts }) (hx : ac.eval x = .int .u64 (a : Int)) (hy : ac.eval y = .int .u64 (b : Int)) (hz : ac.eval z = .int .u64 (c : Int)) : (execOp ac.eval o).run Tryz.prog w = .ok (.value (.int .u64 ((max (max a b) c : Nat) : Int))) w := by
 have hrun := run_max3U w ts o.type a b c
 simp [execOp, ho, resolve, invoke, builtin, hx, hy, hz, hrun, Result.andThen]
theorem cz.set {w : World} {b : Nat} {x : Blk} (h : cz w b x) (c : Blk) : cz (w.setCells b 0 (cel c)) b c := by
 have := heap_put b 29 [] (cel c) (cel x) [] w (by rw [aA, aA]) (by rw [List.nil_append, List.append_nil]; exact h)
 rw [List.nil_append, List.append_nil] at this
 exact this
theorem PJ.room {w0 w : World} {H K : Nat → Prop} {p q : Nat} {v : Value} {M : BenS} {x : LgS} (d : Int) (h : PJ w0 H K w p q v M x) : Calls Tryz.prog 27 #[.pointer (some ⟨q, 0, none⟩), .int .i64 d] w fun e w' => e = .returned (.int .i64 (bO M d - 10)) ∧ Below w.heap.size w w' := by
 obtain ⟨G, h1, _⟩ := h
 exact proom d h1
def rmE (M : BenS) (d : Int) : Int := if bT M d 0 = 0 then (if opnF M d = true then 0 else 5) else bT M d 0
def RmPost (w : World) (p q : Nat) (M : BenS) (d : Int) (e : Ending) (w' : World) : Prop :=
 e = .returned (.int .i64 (rmE M d)) ∧ Only (fun b => b = p) w w' ∧ (rmE M d = 0 → PLg w' p q (.slice none 0 0) (opnX M d))
theorem RmPost.err {w w' : World} {p q : Nat} {M : BenS} {d E : Int} {e : Ending} (hE : rmE M d = E) (h0 : E ≠ 0) (ho : Only (fun b => b = p) w w') (he : e = .returned (.int .i64 E)) : RmPost w p q M d e w' :=
 ⟨by rw [hE]; exact he, ho, fun h => absurd (hE.symm.trans h) h0⟩
theorem rd_two {M : BenS} {d : Nat} (h1 : dV M (d : Int) = 0) (h2 : 50 ≤ bO M (d : Int)) {m n : Int} (hm : 0 ≤ m ∧ m < 50) (hn : 0 ≤ n ∧ n < 50) : bT M (d : Int) m = bT M (d : Int) n := by
 unfold bO at h2
 rw [if_pos h1, dev_getD, Int.toNat_natCast] at h2
 exact rd_same ⟨hm.1, by omega⟩ ⟨hn.1, by omega⟩
theorem new_mark {M : BenS} {d : Nat} (h : aN.nE (cq M (d : Int) 0) (cq M (d : Int) 1) = 0) : (cZ M (d : Int)).m = (opnX M (d : Int)).mark ∧ 40 ≤ (cZ M (d : Int)).m.ring := by
 have hm : aN.may (cZ M (d : Int)) = true := by
  unfold cZ Cod.nX
  unfold Cod.nE at h
  split
  ·rename_i hlt
   have : aN.gE (cq M (d : Int) 1) = 0 := by
    by_cases e : aN.gE (cq M (d : Int) 1) = 0
    ·exact e
    ·have := aN.gN_no e; omega
   exact aN.gX_may this
  ·rename_i hlt
   have : aN.gE (cq M (d : Int) 0) = 0 := by
    by_cases e : aN.gE (cq M (d : Int) 0) = 0
    ·exact e
    ·have h0 := aN.gN_no e
     rw [if_pos ⟨h0, by omega⟩] at h
     omega
   exact aN.gX_may this
 unfold opnX LgS.mark
 obtain ⟨⟨n, m⟩, hy⟩ : ∃ y, cZ M (d : Int) = y := ⟨_, rfl⟩
 rw [hy] at hm ⊢
 rw [dM, Bool.and_eq_true] at hm
 obtain ⟨_, r1, _⟩ := of_mrkB hm.2
 obtain ⟨i, r, f, a⟩ := m
 simp only at r1 ⊢
 exact ⟨by rw [Int.toNat_of_nonneg (by omega)], r1⟩
theorem rmE_no {M : BenS} {d : Int} (h : bT M d 0 = 0) (h2 : ¬ opnF M d = true) : rmE M d = 5 := (if_pos h).trans (if_neg h2)
theorem rmE_yes {M : BenS} {d : Int} (h : bT M d 0 = 0) (h2 : opnF M d = true) : rmE M d = 0 := (if_pos h).trans (if_pos h2)
set_option maxHeartbeats 4000000 in
theorem plreadMark {w0 w : World} {H K : Nat → Prop} {p q : Nat} {M : BenS} {x : LgS} (h : PJ w0 H K w p q (.slice none 0 0) M x) (hx : x.nts = []) (h1 : dV M (x.d : Int) = 0) (h2 : 50 ≤ bO M (x.d : Int)) : Calls Tryz.prog 29 #[.pointer (some ⟨p, 0, none⟩)] w (RmPost w p q M (x.d : Int)) := by
 have HJR : Hid (∀ w', Below w.heap.size w w' → PJ w0 H K w' p q (.slice none 0 0) M x) := af fun w' hb => h.below hb
 have HLR := af h.log
 have HNX := af hx
 have HHS := af h1
 have HSE := af h2
 obtain ⟨a, ha⟩ : ∃ a, cq M (x.d : Int) 0 = a := ⟨_, rfl⟩
 obtain ⟨b, hb⟩ : ∃ b, cq M (x.d : Int) 1 = b := ⟨_, rfl⟩
 obtain ⟨E, hE⟩ : ∃ E, bT M (x.d : Int) 0 = E := ⟨_, rfl⟩
 obtain ⟨y, hy⟩ : ∃ y, aN.nX a b = y := ⟨_, rfl⟩
 have HRC := af ha
 have HRC0 := HRC
 have HRC1 := af hb
 have HRE := af hE
 have HNY := af hy
 clear h hx h1 h2 ha hb hE hy
 go_enter Tryz.func29, Tryz.ntmps29
 go_upto_region 1 with fail
 apply share (α := Nat) (β := World) (F := fun bv wv => Below w.heap.size w wv ∧ cz wv bv a ∧ w.heap.size ≤ bv)
 ·intro tail_
  refine wp_region_held (S := fun w' => Below w.heap.size w w') (by kernel_rfl) ?_
  change wpAnyH _ _ _ _ _ 15 _ _ w.drew
  have HS0 := af (bd (Below.refl w.heap.size w))
  refine gt 0 rfl (fun w' hw => aj rfl (ev rfl)) HS0.out ?_;simp only [aa]
  refine gt 1 rfl (fun w' hw => aB rfl (ev rfl)) HS0.out ?_;simp only [aa]
  refine gt 2 rfl (fun w' hw => am rfl (ev rfl) faQl0) HS0.out ?_;simp only [aa]
  refine gt 3 rfl (fun w' hw => au rfl (ev rfl) (ldQp (PLg.c0 (HLR.out.below hw)))) HS0.out ?_;simp only [aa]
  refine gt 4 rfl (fun w' hw => aj rfl (ev rfl)) HS0.out ?_;simp only [aa]
  refine gt 5 rfl (fun w' hw => aB rfl (ev rfl)) HS0.out ?_;simp only [aa]
  refine gt 6 rfl (fun w' hw => am rfl (ev rfl) faQl1) HS0.out ?_;simp only [aa]
  refine gt 7 rfl (fun w' hw => au rfl (ev rfl) (bj (PLg.c1 (HLR.out.below hw)))) HS0.out ?_;simp only [aa]
  refine held_two 8 12 (by kernel_rfl) ?_ ?_
  ·refine dC 8 rfl rfl (av Tryz.call68 rfl (evc (ev rfl) (evc (ev rfl) (evc evk evn)))) ?_
   refine (PJ.read (x.d : Int) 0 (HJR.out _ (bd (Below.refl _ _)))).mono ?_
   rintro e w5 ⟨rfl, hb5⟩
   rw [HRC.out, HRE.out]
   have HS1 := af (HS0.out.trans (hb5.mono HS0.out.size))
   clear hb5
   refine ⟨_, rfl, HS1.out, ?_⟩
   simp only [aa]
   refine gt 9 rfl (fun w' hw => aj rfl (ev rfl)) HS1.out ?_;simp only [aa]
   refine gt 10 rfl (fun w' hw => aD rfl (ev rfl) rfl) HS1.out ?_;simp only [aa]
   refine gt 11 rfl (fun w' hw => aD rfl (ev rfl) rfl) HS1.out ?_;simp only [aa]
   refine cM 12 (by kernel_rfl) (fa 12 rfl rfl (aT rfl) ⟨HS1.out.alloc HS1.out.size _, ?_⟩)
   simp only [aa]
   have HS2 := af (HS1.out.alloc HS1.out.size (.cells (cel a).toArray 29))
   refine eg 13 rfl (by kernel_rfl) rfl (dp (c := a) rfl (ev rfl) (ev rfl)) HS2.out ?_
   simp only [Act.put]
   refine gt 14 rfl (fun w' hw => aq rfl (ev rfl)) HS2.out ?_;simp only [aa]
   refine wpAnyH_done (by kernel_rfl) ?_ _
   have hb : cz (w5.alloc (.cells (cel a).toArray 29)) w5.heap.size a := heap_alloc_new w5 _
   have hz : w.heap.size ≤ w5.heap.size := HS1.out.size
   have hs2 := HS2.out
   generalize w5.alloc (.cells (cel a).toArray 29) = wq at *
   generalize w5.heap.size = bq at *
   exact tail_ bq wq ⟨hs2, hb, hz⟩
  ·refine fa 12 rfl rfl (aT rfl) ⟨HS0.out.alloc HS0.out.size _, ?_⟩
   simp only [aa]
   have HS1 := af (HS0.out.alloc HS0.out.size (.cells (cel ap).toArray 29))
   have HTH := af (show cz (w.drew.alloc (.cells (cel ap).toArray 29)) w.heap.size ap from heap_alloc_new w.drew _)
   have HZ1 : Hid (w.heap.size < (w.drew.alloc (.cells (cel ap).toArray 29)).heap.size) := af (by rw [World.size_alloc]; exact Nat.lt_succ_self _)
   rw [show w.drew.heap.size = w.heap.size from rfl]
   have HJ1 := af (HJR.out _ HS1.out)
   generalize w.drew.alloc (.cells (cel ap).toArray 29) = w4 at *
   refine cM 8 (by kernel_rfl) (dC 8 rfl rfl (av Tryz.call68 rfl (evc (ev rfl) (evc (ev rfl) (evc evk evn)))) ?_)
   refine (PJ.read (x.d : Int) 0 HJ1.out).mono ?_
   rintro e w5 ⟨rfl, hb5⟩
   rw [HRC.out, HRE.out]
   have HS3 := af (HS1.out.trans (hb5.mono HS1.out.size))
   have HB5 : Hid (cz w5 w.heap.size ap) := af ((hb5.block _ HZ1.out).trans HTH.out)
   clear hb5
   refine ⟨_, rfl, HS3.out, ?_⟩
   simp only [aa]
   refine gt 9 rfl (fun w' hw => aj rfl (ev rfl)) HS3.out ?_;simp only [aa]
   refine gt 10 rfl (fun w' hw => aD rfl (ev rfl) rfl) HS3.out ?_;simp only [aa]
   refine gt 11 rfl (fun w' hw => aD rfl (ev rfl) rfl) HS3.out ?_;simp only [aa]
   have HS2 := af (below_setCells (b := w.heap.size) (o := 0) HS3.out (Nat.le_refl _) (cel a))
   refine eg 13 rfl (by kernel_rfl) rfl (aR (c := a) rfl (ev rfl) (ev rfl) (d7 (o := 0) (n := 64) HB5.out (by show 64 ≤ (cel ap).toArray.size; simp [aA]))) HS2.out ?_
   simp only [Act.put]
   refine gt 14 rfl (fun w' hw => aq rfl (ev rfl)) HS2.out ?_;simp only [aa]
   refine wpAnyH_done (by kernel_rfl) ?_ _
   have hb : cz (w5.setCells w.heap.size 0 (cel a)) w.heap.size a := HB5.out.set a
   have hz : w.heap.size ≤ w.heap.size := Nat.le_refl _
   have hs2 := HS2.out
   generalize w5.setCells w.heap.size 0 (cel a) = wq at *
   exact tail_ _ wq ⟨hs2, hb, hz⟩
 ·intro bb wz hf
  obtain ⟨hb1, hbk1, hz1⟩ := hf
  have HB1 := af hb1
  have HK1 := af hbk1
  have HL1 : Hid (bb < wz.heap.size) := af (aK hbk1)
  clear hb1 hbk1 hz1
  by_cases h0 : E = 0
  rotate_left 1
  ·have hne : (E != 0) = true := by simpa using h0
   have HE : Hid (rmE M (x.d : Int) = E) := af ((if_neg (by rw [HRE.out]; exact h0)).trans HRE.out)
   go_wp2_with fail
   go_ret
   exact RmPost.err HE.out h0 (Only.of_below _ HB1.out) rfl
  have hne : (E != 0) = false := by simp [h0]
  subst h0
  clear hne
  have HJR0 := HJR
  have HRE0 := HRE
  obtain ⟨w1, hw1⟩ : ∃ w', wz = w' := ⟨_, rfl⟩
  obtain ⟨b1, hbb⟩ : ∃ b', bb = b' := ⟨_, rfl⟩
  subst hw1 hbb
  have HJR : Hid (∀ w', Below wz.heap.size wz w' → PJ w0 H K w' p q (.slice none 0 0) M x) := af fun w' hb => HJR0.out w' (HB1.out.trans (hb.mono HB1.out.size))
  have HLR := af (HLR.out.below HB1.out)
  have HRC := HRC1
  have HRE : Hid (bT M (x.d : Int) 1 = 0) := af ((rd_two HHS.out HSE.out (by omega) (by omega)).trans HRE0.out)
  go_upto_region 4 with fail
  apply share (α := Nat) (β := World) (F := fun bv wv => Below wz.heap.size wz wv ∧ cz wv bv b ∧ wz.heap.size ≤ bv)
  ·intro tail_
   refine wp_region_held (S := fun w' => Below wz.heap.size wz w') (by kernel_rfl) ?_
   change wpAnyH _ _ _ _ _ 15 _ _ wz.drew
   have HS0 := af (bd (Below.refl wz.heap.size wz))
   refine gt 0 rfl (fun w' hw => aj rfl (ev rfl)) HS0.out ?_;simp only [aa]
   refine gt 1 rfl (fun w' hw => aB rfl (ev rfl)) HS0.out ?_;simp only [aa]
   refine gt 2 rfl (fun w' hw => am rfl (ev rfl) faQl0) HS0.out ?_;simp only [aa]
   refine gt 3 rfl (fun w' hw => au rfl (ev rfl) (ldQp (PLg.c0 (HLR.out.below hw)))) HS0.out ?_;simp only [aa]
   refine gt 4 rfl (fun w' hw => aj rfl (ev rfl)) HS0.out ?_;simp only [aa]
   refine gt 5 rfl (fun w' hw => aB rfl (ev rfl)) HS0.out ?_;simp only [aa]
   refine gt 6 rfl (fun w' hw => am rfl (ev rfl) faQl1) HS0.out ?_;simp only [aa]
   refine gt 7 rfl (fun w' hw => au rfl (ev rfl) (bj (PLg.c1 (HLR.out.below hw)))) HS0.out ?_;simp only [aa]
   refine held_two 8 12 (by kernel_rfl) ?_ ?_
   ·refine dC 8 rfl rfl (av Tryz.call68 rfl (evc (ev rfl) (evc (ev rfl) (evc evk evn)))) ?_
    refine (PJ.read (x.d : Int) 1 (HJR.out _ (bd (Below.refl _ _)))).mono ?_
    rintro e w5 ⟨rfl, hb5⟩
    rw [HRC.out, HRE.out]
    have HS1 := af (HS0.out.trans (hb5.mono HS0.out.size))
    clear hb5
    refine ⟨_, rfl, HS1.out, ?_⟩
    simp only [aa]
    refine gt 9 rfl (fun w' hw => aj rfl (ev rfl)) HS1.out ?_;simp only [aa]
    refine gt 10 rfl (fun w' hw => aD rfl (ev rfl) rfl) HS1.out ?_;simp only [aa]
    refine gt 11 rfl (fun w' hw => aD rfl (ev rfl) rfl) HS1.out ?_;simp only [aa]
    refine cM 12 (by kernel_rfl) (fa 12 rfl rfl (aT rfl) ⟨HS1.out.alloc HS1.out.size _, ?_⟩)
    simp only [aa]
    have HS2 := af (HS1.out.alloc HS1.out.size (.cells (cel b).toArray 29))
    refine eg 13 rfl (by kernel_rfl) rfl (dp (c := b) rfl (ev rfl) (ev rfl)) HS2.out ?_
    simp only [Act.put]
    refine gt 14 rfl (fun w' hw => aq rfl (ev rfl)) HS2.out ?_;simp only [aa]
    refine wpAnyH_done (by kernel_rfl) ?_ _
    have hb : cz (w5.alloc (.cells (cel b).toArray 29)) w5.heap.size b := heap_alloc_new w5 _
    have hz : wz.heap.size ≤ w5.heap.size := HS1.out.size
    have hs2 := HS2.out
    generalize w5.alloc (.cells (cel b).toArray 29) = wq at *
    generalize w5.heap.size = bq at *
    exact tail_ bq wq ⟨hs2, hb, hz⟩
   ·refine fa 12 rfl rfl (aT rfl) ⟨HS0.out.alloc HS0.out.size _, ?_⟩
    simp only [aa]
    have HS1 := af (HS0.out.alloc HS0.out.size (.cells (cel ap).toArray 29))
    have HTH := af (show cz (wz.drew.alloc (.cells (cel ap).toArray 29)) wz.heap.size ap from heap_alloc_new wz.drew _)
    have HZ1 : Hid (wz.heap.size < (wz.drew.alloc (.cells (cel ap).toArray 29)).heap.size) := af (by rw [World.size_alloc]; exact Nat.lt_succ_self _)
    rw [show wz.drew.heap.size = wz.heap.size from rfl]
    have HJ1 := af (HJR.out _ HS1.out)
    generalize wz.drew.alloc (.cells (cel ap).toArray 29) = w4 at *
    refine cM 8 (by kernel_rfl) (dC 8 rfl rfl (av Tryz.call68 rfl (evc (ev rfl) (evc (ev rfl) (evc evk evn)))) ?_)
    refine (PJ.read (x.d : Int) 1 HJ1.out).mono ?_
    rintro e w5 ⟨rfl, hb5⟩
    rw [HRC.out, HRE.out]
    have HS3 := af (HS1.out.trans (hb5.mono HS1.out.size))
    have HB5 : Hid (cz w5 wz.heap.size ap) := af ((hb5.block _ HZ1.out).trans HTH.out)
    clear hb5
    refine ⟨_, rfl, HS3.out, ?_⟩
    simp only [aa]
    refine gt 9 rfl (fun w' hw => aj rfl (ev rfl)) HS3.out ?_;simp only [aa]
    refine gt 10 rfl (fun w' hw => aD rfl (ev rfl) rfl) HS3.out ?_;simp only [aa]
    refine gt 11 rfl (fun w' hw => aD rfl (ev rfl) rfl) HS3.out ?_;simp only [aa]
    have HS2 := af (below_setCells (b := wz.heap.size) (o := 0) HS3.out (Nat.le_refl _) (cel b))
    refine eg 13 rfl (by kernel_rfl) rfl (aR (c := b) rfl (ev rfl) (ev rfl) (d7 (o := 0) (n := 64) HB5.out (by show 64 ≤ (cel ap).toArray.size; simp [aA]))) HS2.out ?_
    simp only [Act.put]
    refine gt 14 rfl (fun w' hw => aq rfl (ev rfl)) HS2.out ?_;simp only [aa]
    refine wpAnyH_done (by kernel_rfl) ?_ _
    have hb : cz (w5.setCells wz.heap.size 0 (cel b)) wz.heap.size b := HB5.out.set b
    have hz : wz.heap.size ≤ wz.heap.size := Nat.le_refl _
    have hs2 := HS2.out
    generalize w5.setCells wz.heap.size 0 (cel b) = wq at *
    exact tail_ _ wq ⟨hs2, hb, hz⟩
  ·intro bb2 wy hf
   obtain ⟨hb2, hbk2, hz2⟩ := hf
   have HB2 := af (HB1.out.trans (hb2.mono HB1.out.size))
   have HK2 := af hbk2
   have HKA : Hid (cz wy bb a) := af ((hb2.block bb HL1.out).trans HK1.out)
   have HJ2 := af (HJR.out wy hb2)
   clear hb2 hbk2 hz2 HK1 HL1 HB1 HJR HJR0 HLR
   go_upto_region 7 with fail
   refine ag ?_
   refine ai rfl (aj rfl (ev rfl)) ?_;simp only [aa]
   refine ai rfl (aj rfl (ev rfl)) ?_;simp only [aa]
   refine ai rfl (aS (c := a) rfl (ev rfl) HKA.out.range) ?_;simp only [aa]
   refine ai rfl (aS (c := b) rfl (ev rfl) HK2.out.range) ?_;simp only [aa]
   refine ar rfl (av Tryz.call69 rfl (evc (ev rfl) (evc (ev rfl) evn))) ?_
   refine (pmnew a b wy HJ2.out.tab.m).mono ?_
   rintro e w3 ⟨rfl, hb3⟩
   rw [HNY.out]
   have HJ3 := af (HJ2.out.below hb3)
   have HB3 := af (HB2.out.trans (hb3.mono HB2.out.size))
   have HPL := af HJ3.out.log
   clear hb3 HJ2 HKA HK2 HB2
   refine ⟨_, rfl, ?_⟩
   simp only [aa]
   refine ai rfl (aj rfl (ev rfl)) ?_;simp only [aa]
   iterate 3 (refine ai rfl (aD rfl (ev rfl) rfl) ?_;simp only [aa])
   refine ai rfl (aB rfl (ev rfl)) ?_;simp only [aa]
   refine ai rfl (am rfl (ev rfl) faQl2) ?_;simp only [aa]
   refine az rfl (exec_stU rfl (ev rfl) (ev rfl) HPL.out.c2 (HPL.out.free_ 2)) ?_;simp only [aa]
   refine ai rfl (aB rfl (ev rfl)) ?_;simp only [aa]
   refine ai rfl (am rfl (ev rfl) eK) ?_;simp only [aa]
   refine az rfl (b7 (c := y.m) rfl (ev rfl) (ev rfl) (d7 (o := 3) (n := 4) (heap_setCell_same w3 p 2 _ _ (.int .u64 (y.n : Int)) HPL.out.at_) (by show 7 ≤ 8; omega))) ?_;simp only [aa]
   refine ai rfl (aq rfl (ev rfl)) ?_;simp only [aa]
   refine ah ?_
   have HPO := af (HPL.out.to.setm (c := y.n) (m := y.m))
   have HON := af ((eu w3 p 2 (.int .u64 (y.n : Int))).trans (fo _ p 3 (a8 y.m)) fun _ e => .inl e)
   generalize (w3.setCell ⟨p, 2, none⟩ (.int .u64 (y.n : Int))).setCells p 3 (a8 y.m) = w4 at *
   have HO4 := af ((Only.of_below (fun b => b = p) HB3.out).trans HON.out fun _ e => .inl e)
   obtain ⟨F, hF⟩ : ∃ F : Nat, aN.nE a b = F := ⟨_, rfl⟩
   rw [hF]
   have HNE := af hF
   clear hF
   by_cases hf0 : F = 0
   rotate_left 1
   ·have HC : Hid (((F : Int) != 0) = true) := af (by simp; omega)
    have HE : Hid (rmE M (x.d : Int) = 5) := af (rmE_no HRE0.out fun e => by
     obtain ⟨e1, _⟩ := of_decide_eq_true e
     rw [HRC0.out, HRC1.out, HNE.out] at e1
     exact hf0 (by omega))
    clear hf0
    go_upto_region 8 with fail
    refine aI (B := w4.heap.size) (by kernel_rfl) ?_
    refine ao rfl (fun w' hw => aj rfl (ev rfl)) ?_;simp only [aa]
    refine ao (v := .bool true) rfl (fun w' hw => aU true rfl (ev rfl) evk HC.out) ?_;simp only [aa]
    refine cI 15 (v := .bool true) rfl (fun w' hw => aj rfl (ev rfl)) (by kernel_rfl) ?_
    simp only [aJ, ae, aa]
    refine ao (v := .bool true) rfl (fun w' hw => aG rfl (ev rfl) evk) ?_;simp only [aa]
    refine wpQuiet_nil ?_
    intro w5 hw
    go_wp2_with fail
    go_ret
    exact RmPost.err HE.out (by decide) (HO4.out.dH hw) rfl
   have HC : Hid (((F : Int) != 0) = false) := af (by rw [hf0]; rfl)
   obtain ⟨hm1, hm2⟩ := new_mark (M := M) (d := x.d) (by rw [HRC0.out, HRC1.out, HNE.out]; exact hf0)
   have hyy : cZ M (x.d : Int) = y := by unfold cZ; rw [HRC0.out, HRC1.out]; exact HNY.out
   rw [hyy] at hm1 hm2
   have HX1 : Hid (PLg w4 p q (.slice none 0 0) (opnX M (x.d : Int))) := af (by
    have e : PLo w4 p q (.slice none 0 0) (opnX M (x.d : Int)).d (opnX M (x.d : Int)).cnt (opnX M (x.d : Int)).mark (opnX M (x.d : Int)).nts := by
     rw [← hm1]
     show PLo w4 p q (.slice none 0 0) (x.d : Int).toNat (cZ M (x.d : Int)).n y.m []
     rw [hyy, Int.toNat_natCast, ← HNX.out]
     exact HPO.out
    exact e.to)
   have HJ4 := af (HJ3.out.grow (HON.out.wide fun b e => .inl e) HX1.out fun b e => .inl e)
   have HL4 := HX1
   have HXD : Hid ((opnX M (x.d : Int)).d = x.d) := af (Int.toNat_natCast _)
   have HXS : Hid (((opnX M (x.d : Int)).size : Int) = y.m.ring ∧ (opnX M (x.d : Int)).cnt = y.n ∧ (opnX M (x.d : Int)).fst = y.m.first ∧ (opnX M (x.d : Int)).pos = y.m.pos) := af (by
    show (((cZ M (x.d : Int)).m.ring.toNat : Nat) : Int) = y.m.ring ∧ (cZ M (x.d : Int)).n = y.n ∧ (cZ M (x.d : Int)).m.first = y.m.first ∧ (cZ M (x.d : Int)).m.pos = y.m.pos
    rw [hyy]
    exact ⟨Int.toNat_of_nonneg (by omega), rfl, rfl, rfl⟩)
   have HFF : Hid (opnF M (x.d : Int) = decide (y.m.ring ≤ bO M (x.d : Int) - 10 ∧ y.n ≤ 2305843009213693952 ∧ y.m.first ≤ 2305843009213693952 ∧ y.m.pos ≤ 2305843009213693952)) := af (by
    unfold opnF
    rw [HRC0.out, HRC1.out, HNE.out, hf0, hyy]
    simp)
   clear hf0 hm1 hm2 HPO HJ3 HPL
   obtain ⟨x1, hx1⟩ : ∃ x1, opnX M (x.d : Int) = x1 := ⟨_, rfl⟩
   have HX1E := af hx1
   rw [hx1] at HX1 HJ4 HL4 HXD HXS
   clear hx1 hyy
   by_cases hr : bO M (x.d : Int) - 10 < y.m.ring
   ·have HG : Hid (decide (bO M (x.d : Int) - 10 < (x1.size : Int)) = true) := af (by rw [HXS.out.1]; exact decide_eq_true hr)
    have HE : Hid (rmE M (x.d : Int) = 5) := af (rmE_no HRE0.out fun e => by rw [HFF.out] at e; have := (of_decide_eq_true e).1; omega)
    rw [← HXD.out] at HG HE
    clear hr
    go_upto_region 8 with fail
    refine aI (B := w4.heap.size) (by kernel_rfl) ?_
    refine ao rfl (fun w' hw => aj rfl (ev rfl)) ?_;simp only [aa]
    refine ao (v := .bool false) rfl (fun w' hw => aU false rfl (ev rfl) evk HC.out) ?_;simp only [aa]
    refine ao (v := .bool false) rfl (fun w' hw => aj rfl (ev rfl)) ?_;simp only [aa]
    refine ao gr (fun w' hw => aj rfl (ev rfl)) ?_;simp only [aa]
    refine ao gr (fun w' hw => aB rfl (ev rfl)) ?_;simp only [aa]
    refine ao gr (fun w' hw => am rfl (ev rfl) eK) ?_;simp only [aa]
    refine ao gr (fun w' hw => am rfl (ev rfl) faQm1) ?_;simp only [aa]
    refine ao gr (fun w' hw => au rfl (ev rfl) (bj (PLg.c4 (HL4.out.below hw)))) ?_;simp only [aa]
    refine ao gr (fun w' hw => aj rfl (ev rfl)) ?_;simp only [aa]
    refine ao gr (fun w' hw => aB rfl (ev rfl)) ?_;simp only [aa]
    refine ao gr (fun w' hw => am rfl (ev rfl) faQl0) ?_;simp only [aa]
    refine ao gr (fun w' hw => au rfl (ev rfl) (ldQp (PLg.c0 (HL4.out.below hw)))) ?_;simp only [aa]
    refine ao gr (fun w' hw => aj rfl (ev rfl)) ?_;simp only [aa]
    refine ao gr (fun w' hw => aB rfl (ev rfl)) ?_;simp only [aa]
    refine ao gr (fun w' hw => am rfl (ev rfl) faQl1) ?_;simp only [aa]
    refine ao gr (fun w' hw => au rfl (ev rfl) (bj (PLg.c1 (HL4.out.below hw)))) ?_;simp only [aa]
    refine a9 gr (fun _ => av Tryz.call27 rfl (evc (ev rfl) (evc (ev rfl) evn))) (aW (Nat.le_refl _) fun w' hw => (PJ.room (x1.d : Int) (HJ4.out.below hw))) ?_;simp only [aa]
    refine ao (v := .bool true) gr (fun w' hw => bp true rfl (ev rfl) (ev rfl) HG.out) ?_;simp only [aa]
    refine ao (v := .bool true) rfl (fun w' hw => aE rfl (ev rfl) (ev rfl)) ?_;simp only [aa]
    refine wpQuiet_nil ?_
    intro w5 hw
    rw [HXD.out] at HE
    go_wp2_with fail
    go_ret
    exact RmPost.err HE.out (by decide) (HO4.out.dH hw) rfl
   have HG : Hid (decide (bO M (x.d : Int) - 10 < (x1.size : Int)) = false) := af (by rw [HXS.out.1]; exact decide_eq_false hr)
   rw [← HXD.out] at HG
   go_upto_region 8 with fail
   refine aI (B := w4.heap.size) (by kernel_rfl) ?_
   refine ao rfl (fun w' hw => aj rfl (ev rfl)) ?_;simp only [aa]
   refine ao (v := .bool false) rfl (fun w' hw => aU false rfl (ev rfl) evk HC.out) ?_;simp only [aa]
   refine ao (v := .bool false) rfl (fun w' hw => aj rfl (ev rfl)) ?_;simp only [aa]
   refine ao gr (fun w' hw => aj rfl (ev rfl)) ?_;simp only [aa]
   refine ao gr (fun w' hw => aB rfl (ev rfl)) ?_;simp only [aa]
   refine ao gr (fun w' hw => am rfl (ev rfl) eK) ?_;simp only [aa]
   refine ao gr (fun w' hw => am rfl (ev rfl) faQm1) ?_;simp only [aa]
   refine ao gr (fun w' hw => au rfl (ev rfl) (bj (PLg.c4 (HL4.out.below hw)))) ?_;simp only [aa]
   refine ao gr (fun w' hw => aj rfl (ev rfl)) ?_;simp only [aa]
   refine ao gr (fun w' hw => aB rfl (ev rfl)) ?_;simp only [aa]
   refine ao gr (fun w' hw => am rfl (ev rfl) faQl0) ?_;simp only [aa]
   refine ao gr (fun w' hw => au rfl (ev rfl) (ldQp (PLg.c0 (HL4.out.below hw)))) ?_;simp only [aa]
   refine ao gr (fun w' hw => aj rfl (ev rfl)) ?_;simp only [aa]
   refine ao gr (fun w' hw => aB rfl (ev rfl)) ?_;simp only [aa]
   refine ao gr (fun w' hw => am rfl (ev rfl) faQl1) ?_;simp only [aa]
   refine ao gr (fun w' hw => au rfl (ev rfl) (bj (PLg.c1 (HL4.out.below hw)))) ?_;simp only [aa]
   refine a9 gr (fun _ => av Tryz.call27 rfl (evc (ev rfl) (evc (ev rfl) evn))) (aW (Nat.le_refl _) fun w' hw => (PJ.room (x1.d : Int) (HJ4.out.below hw))) ?_;simp only [aa]
   refine ao (v := .bool false) gr (fun w' hw => bp false rfl (ev rfl) (ev rfl) HG.out) ?_;simp only [aa]
   refine ao (v := .bool false) rfl (fun w' hw => aE rfl (ev rfl) (ev rfl)) ?_;simp only [aa]
   refine wpQuiet_nil ?_
   intro w5 hw
   have HO5 := af (HO4.out.dH hw)
   have HL5 := af (HL4.out.below hw)
   clear hw HL4 HX1 HJ4 HO4
   go_upto_region 10 with fail
   refine aI (B := w5.heap.size) (by kernel_rfl) ?_
   refine ao rfl (fun w' hw => aj rfl (ev rfl)) ?_;simp only [aa]
   refine ao rfl (fun w' hw => aB rfl (ev rfl)) ?_;simp only [aa]
   refine ao rfl (fun w' hw => am rfl (ev rfl) faQl2) ?_;simp only [aa]
   refine ao rfl (fun w' hw => au rfl (ev rfl) (bL (PLg.c2 (HL5.out.below hw)))) ?_;simp only [aa]
   refine ao rfl (fun w' hw => aj rfl (ev rfl)) ?_;simp only [aa]
   refine ao rfl (fun w' hw => aB rfl (ev rfl)) ?_;simp only [aa]
   refine ao rfl (fun w' hw => am rfl (ev rfl) eK) ?_;simp only [aa]
   refine ao rfl (fun w' hw => am rfl (ev rfl) faQm2) ?_;simp only [aa]
   refine ao rfl (fun w' hw => au rfl (ev rfl) (bL (PLg.c5 (HL5.out.below hw)))) ?_;simp only [aa]
   refine ao rfl (fun w' hw => aj rfl (ev rfl)) ?_;simp only [aa]
   refine ao rfl (fun w' hw => aB rfl (ev rfl)) ?_;simp only [aa]
   refine ao rfl (fun w' hw => am rfl (ev rfl) eK) ?_;simp only [aa]
   refine ao rfl (fun w' hw => am rfl (ev rfl) faQm3) ?_;simp only [aa]
   refine ao rfl (fun w' hw => au rfl (ev rfl) (bL (PLg.c6 (HL5.out.below hw)))) ?_;simp only [aa]
   refine ao rfl (fun w' hw => exec_max3 rfl (ev rfl) (ev rfl) (ev rfl)) ?_;simp only [aa]
   by_cases hmx : 2305843009213693952 < max (max x1.cnt x1.fst) x1.pos
   ·have HMX : Hid (decide ((2305843009213693952 : Int) < ((max (max x1.cnt x1.fst) x1.pos : Nat) : Int)) = true) := af (decide_eq_true (by omega))
    have HE : Hid (rmE M (x.d : Int) = 5) := af (rmE_no HRE0.out fun e => by
     rw [HFF.out] at e
     obtain ⟨_, e2, e3, e4⟩ := of_decide_eq_true e
     rw [HXS.out.2.1, HXS.out.2.2.1, HXS.out.2.2.2] at hmx
     omega)
    clear hmx
    refine ao (v := .bool true) rfl (fun w' hw => bp true rfl (ev rfl) evk HMX.out) ?_;simp only [aa]
    refine wpQuiet_nil ?_
    intro w6 hw
    go_wp2_with fail
    go_ret
    exact RmPost.err HE.out (by decide) (HO5.out.dH hw) rfl
   have HMX : Hid (decide ((2305843009213693952 : Int) < ((max (max x1.cnt x1.fst) x1.pos : Nat) : Int)) = false) := af (decide_eq_false (by omega))
   have HE : Hid (rmE M (x.d : Int) = 0) := af (rmE_yes HRE0.out (by
    rw [HFF.out]
    rw [HXS.out.2.1, HXS.out.2.2.1, HXS.out.2.2.2] at hmx
    exact decide_eq_true ⟨by omega, by omega, by omega, by omega⟩))
   clear hmx
   refine ao (v := .bool false) rfl (fun w' hw => bp false rfl (ev rfl) evk HMX.out) ?_;simp only [aa]
   refine wpQuiet_nil ?_
   intro w6 hw
   go_wp2_with fail
   go_ret
   exact ⟨by rw [HE.out]; rfl, HO5.out.dH hw, fun _ => by rw [HX1E.out]; exact HL5.out.below hw⟩
end Go.Proofs.YtbbcdhkinbmdnaaGreatDoor
