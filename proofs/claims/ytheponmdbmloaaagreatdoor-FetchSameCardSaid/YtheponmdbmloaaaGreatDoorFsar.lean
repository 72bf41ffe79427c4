import Derived.Test.YtheponmdbmloaaaGreatDoorFsaq
import Derived.Test.YtheponmdbmloaaaGreatDoorFsag
import Derived.Laws.BitsAllLaws
import Derived.Test.YtheponmdbmloaaaGreatDoorFsZ
namespace Go.Proofs.YtheponmdbmloaaaGreatDoor
open Go.RowKit
set_option linter.unusedVariables false
set_option linter.unusedSimpArgs false
set_option maxRecDepth 100000
theorem zeroA2 : (Tryz.prog.info? 132).map (fun i => i.zero) = some (some (.agg (cel al ++ cel al).toArray)) := by kernel_rfl
def Ar2 (w : World) (b : Nat) (a0 a1 : Blk) : Prop := w.heap[b]? = some (.cells (cel a0 ++ cel a1).toArray 132 (0, 0))
theorem Ar2.r0 {w : World} {b : Nat} {a0 a1 : Blk} (h : Ar2 w b a0 a1) : w.rangeAt b 0 (cel a0) := dz (cs := cel a0 ++ cel a1) (ds := []) (es := cel a0) (fs := cel a1) (k := 0) (aT h) rfl rfl
theorem Ar2.r1 {w : World} {b : Nat} {a0 a1 : Blk} (h : Ar2 w b a0 a1) : w.rangeAt b 64 (cel a1) := by
  have := dz (cs := cel a0 ++ cel a1) (ds := cel a0) (es := cel a1) (fs := []) (k := 64) (aT h) (by rw [List.append_nil]) (aw a0)
  rwa [Nat.zero_add] at this
theorem Ar2.there {w : World} {b k : Nat} {a0 a1 : Blk} (h : Ar2 w b a0 a1) (hk : k < 2) : w.there b (0 + k * 64) 64 := cI h (by rw [List.length_append, aw, aw]; omega)
theorem Ar2.set {w : World} {b k : Nat} {a0 a1 : Blk} (h : Ar2 w b a0 a1) (hk : k < 2) (y : Blk) : Ar2 (w.setCells b (0 + k * 64) (cel y)) b (if k = 0 then y else a0) (if k = 1 then y else a1) := by
  rcases (show k = 0 ∨ k = 1 by omega) with rfl | rfl
  · exact heap_put b 132 (cel a1) (cel y) (cel a0) [] w (by rw [aw, aw]) h
  · have h' : w.heap[b]? = some (.cells (cel a0 ++ cel a1 ++ []).toArray 132 (0, 0)) := by rw [List.append_nil]; exact h
    have := heap_put b 132 [] (cel y) (cel a1) (cel a0) w (by rw [aw, aw]) h'
    rw [List.append_nil, aw] at this
    exact this
theorem ixA2 {w : World} {b k : Nat} (hk : k < 2) : (Instr.indexAt 132 (.pointer (some ⟨b, 0, none⟩)) (.int .i64 (k : Int))).run Tryz.prog w = .ok (.pointer (some ⟨b, 0 + k * 64, none⟩)) w := by
  have e : (0 ≤ (k : Int) ∧ (k : Int) < 2) := by omega
  simp [Instr.indexAt, Instr.sureAddr, asIntOf, run_underlying Tryz.underlying132, Tryz.sizeOf38, Addr.add_mid, e, hk]
theorem ixA20 {w : World} {b : Nat} : (Instr.indexAt 132 (.pointer (some ⟨b, 0, none⟩)) (.int .i64 0)).run Tryz.prog w = .ok (.pointer (some ⟨b, 0, none⟩)) w := ixA2 (k := 0) (by omega)
theorem ixA21 {w : World} {b : Nat} : (Instr.indexAt 132 (.pointer (some ⟨b, 0, none⟩)) (.int .i64 1)).run Tryz.prog w = .ok (.pointer (some ⟨b, 64, none⟩)) w := ixA2 (k := 1) (by omega)
theorem stUp {w : World} {ad : Addr} {u : Value} {n : Int} (h : w.cell? ad = some u) (hf : w.frozen? ad = false) : (Instr.storeAt 34 (.pointer (some ad)) (.int .u64 n)).run Tryz.prog w = .ok () (w.setCell ad (.int .u64 n)) := by simp [go_sem, h, hf]
theorem faSu1 {w : World} {b : Nat} : (Instr.fieldAt 128 (.pointer (some ⟨b, 0, none⟩)) 1).run Tryz.prog w = .ok (.pointer (some ⟨b, 1, none⟩)) w := by kernel_rfl
theorem exec_putU {ρ : Operand → Value} {o : Oper} {x y : Operand} {w : World} {b j : Nat} {u : Value} {n : Int} (ho : o.op = .store 34 x y) (hx : ρ x = .pointer (some ⟨b, j, none⟩)) (hy : ρ y = .int .u64 n) (h : w.cell? ⟨b, j, none⟩ = some u) (hf : w.frozen? ⟨b, j, none⟩ = false) : (execOp ρ o).run Tryz.prog w = .ok .skip (w.setCell ⟨b, j, none⟩ (.int .u64 n)) :=
  exec_st ho hx hy (stUp h hf)
section
variable {id en m : Nat} {R : Ros} {M : BenS} {n : Nat} {b : Blk}
theorem put_no0 (h : bO M m 0 ≠ 0) : cz id en R M m = bO M m 0 ∧ cJ id en R M m = M := ⟨if_neg h, if_neg fun e => h e.1⟩
theorem put_no1 (h0 : bO M m 0 = 0) (h : bO M m 1 ≠ 0) : cz id en R M m = bO M m 1 ∧ cJ id en R M m = M := ⟨by unfold cz; rw [if_pos h0, if_neg h], if_neg fun e => h e.2⟩
theorem put_wr (h0 : bO M m 0 = 0) (h1 : bO M m 1 = 0) (hn : sloT (rdB6 M m 0) (rdB6 M m 1) = n) (hb : sputB en ⟨id, m, R⟩ = b) (h : wrE6 M m n ≠ 0) : cz id en R M m = wrE6 M m n ∧ cJ id en R M m = wrS6 M m n b := by
  have := go_no (d := (m : Int)) (M := M) (s := .wr (n : Int) b) (l := [.fl]) h
  unfold cz cJ putT
  rw [if_pos h0, if_pos h1, if_pos ⟨h0, h1⟩, hn, hb]
  exact this
theorem put_fl (h0 : bO M m 0 = 0) (h1 : bO M m 1 = 0) (hn : sloT (rdB6 M m 0) (rdB6 M m 1) = n) (hb : sputB en ⟨id, m, R⟩ = b) (h : wrE6 M m n = 0) : cz id en R M m = flE6 (wrS6 M m n b) m ∧ cJ id en R M m = flS6 (wrS6 M m n b) m := by
  have h2 := go_ok (d := (m : Int)) (M := M) (s := .wr (n : Int) b) (l := [.fl]) h
  unfold cz cJ putT
  rw [if_pos h0, if_pos h1, if_pos ⟨h0, h1⟩, hn, hb, h2.1, h2.2]
  show goE m (wrS6 M m n b) [.fl] = _ ∧ goB m (wrS6 M m n b) [.fl] = _
  by_cases hf : flE6 (wrS6 M m n b) m = 0
  · have h3 := go_ok (d := (m : Int)) (M := wrS6 M m n b) (s := .fl) (l := []) hf
    rw [h3.1, h3.2, hf]
    exact ⟨rfl, rfl⟩
  · have h3 := go_no (d := (m : Int)) (M := wrS6 M m n b) (s := .fl) (l := []) hf
    rw [h3.1, h3.2]
    exact ⟨rfl, rfl⟩
end
def rdK (M : BenS) (m k j : Nat) : Blk := if j < k then rdB6 M m j else al
def LayS (p : Nat) (qa : Option Addr) (x : HpS) (b5 b7 b11 : Nat) (sx : Sup) (a0 a1 y : Blk) (w : World) : Prop :=
  PHo w p qa x ∧ w.heap[b5]? = some (.cells (aZ sx).toArray 128 (0, 0)) ∧ Ar2 w b7 a0 a1 ∧ w.heap[b11]? = some (.cells (cel y).toArray 38 (0, 0))
theorem LayS.below {p : Nat} {qa : Option Addr} {x : HpS} {b5 b7 b11 : Nat} {sx : Sup} {a0 a1 y : Blk} {w w' : World} (h : LayS p qa x b5 b7 b11 sx a0 a1 y w) (hb : Below w.heap.size w w') : LayS p qa x b5 b7 b11 sx a0 a1 y w' :=
  ⟨h.1.below hb, ao h.2.1 hb, ao h.2.2.1 hb, ao h.2.2.2 hb⟩
section
variable {w0 w : World} {H K : Nat → Prop} {p q : Nat} {M : BenS} {x : HpS}
set_option maxHeartbeats 8000000 in
theorem hp_lay {en m : Nat} {R : Ros} (hr : Room M 2) (hev : 1 ≤ en ∧ en ≤ 4611686018427387904) (hid : x.id ≠ 0 ∧ x.id < 18446744073709551616) (hf : aI R = true) (hm : m < R.m.toNat) (h : HJ w0 H K w p q M x) : Calls Tryz.prog 83 #[.pointer (some ⟨p, 0, none⟩), .int .u64 (en : Int), sup ⟨x.id, (m : Int), R⟩] w fun e w' =>
    e = .returned (.int .i64 (cz x.id en R M m)) ∧ (∃ us, (us = x.us ∨ us = en) ∧ HJ w0 H K w' p q (cJ x.id en R M m) { x with us := us }) ∧ bm K w w' := by
  have hev' : evB en = true := by unfold evB; rw [decide_eq_true_iff]; omega
  have hsp : supB ⟨x.id, (m : Int), R⟩ = true := by
    unfold supB
    simp only [Bool.and_eq_true, decide_eq_true_eq]
    exact ⟨⟨hid.1, hf⟩, by omega, by omega⟩
  have HSP : Hid (sputE en ⟨x.id, (m : Int), R⟩ = 0) := Lib.hid (sputE_ok hev' hsp)
  obtain ⟨sb, hsb⟩ : ∃ sb, sputB en ⟨x.id, (m : Int), R⟩ = sb := ⟨_, rfl⟩
  have HSB' := Lib.hid hsb
  obtain ⟨E, hE⟩ : ∃ E, cz x.id en R M m = E := ⟨_, rfl⟩
  obtain ⟨M2, hM2⟩ : ∃ M2, cJ x.id en R M m = M2 := ⟨_, rfl⟩
  rw [hE, hM2]
  have HE := Lib.hid hE
  have HM2 := Lib.hid hM2
  have HRM := Lib.hid hr
  have HEV : Hid (en < 18446744073709551616) := Lib.hid (by omega)
  have HID := Lib.hid hid.2
  have HJ := Lib.hid h
  clear hr hev hid hf hm h hev' hsp hsb hE hM2
  go_enter Tryz.func83, Tryz.ntmps83
  go_upto_region 0 with fail
  refine wp_region_lit ?_
  refine af rfl (exec_boxS (c := ⟨x.id, (m : Int), R⟩) rfl (ev rfl)) ?_
  simp only [Act.put, aa, ac, ae]
  have hb0 := (Below.refl w.heap.size w).alloc (Nat.le_refl _) (.cells (aZ (⟨x.id, (m : Int), R⟩ : Sup)).toArray 128)
  have HS1 := Lib.hid (heap_alloc_new w (.cells (aZ (⟨x.id, (m : Int), R⟩ : Sup)).toArray 128))
  have HB1 := Lib.hid hb0
  obtain ⟨b5, hb5⟩ : ∃ b5, w.heap.size = b5 := ⟨_, rfl⟩
  have HG5 : Hid (w.heap.size ≤ b5) := Lib.hid (Nat.le_of_eq hb5)
  rw [hb5] at HS1 ⊢
  clear hb5 hb0
  generalize w.alloc (.cells (aZ (⟨x.id, (m : Int), R⟩ : Sup)).toArray 128) = w1 at *
  refine af rfl (aj rfl evk) ?_
  simp only [Act.put, aa, ac, ae]
  refine wpList_nil ?_
  go_upto_region 1 with fail
  refine wp_region_lit ?_
  refine af rfl (dF zeroA2 rfl) ?_
  simp only [Act.put, aa, ac, ae]
  have hb0 := (Below.refl w1.heap.size w1).alloc (Nat.le_refl _) (.cells (cel al ++ cel al).toArray 132)
  have HA2 : Hid (Ar2 _ w1.heap.size al al) := Lib.hid (heap_alloc_new w1 (.cells (cel al ++ cel al).toArray 132))
  have HS2 := Lib.hid (ao HS1.out hb0)
  have HB2 := Lib.hid (HB1.out.trans (hb0.mono HB1.out.size))
  obtain ⟨b7, hb7⟩ : ∃ b7, w1.heap.size = b7 := ⟨_, rfl⟩
  have HG7 : Hid (w.heap.size ≤ b7) := Lib.hid (by rw [← hb7]; exact HB1.out.size)
  have HSZ : Hid (b5 < b7) := Lib.hid (by rw [← hb7]; exact aH HS1.out)
  rw [hb7] at HA2 ⊢
  clear hb7 hb0
  generalize w1.alloc (.cells (cel al ++ cel al).toArray 132) = w2 at *
  clear HS1 HB1
  refine wpList_nil ?_
  go_upto_region 2 with fail
  refine wp_region_lit ?_
  refine af rfl (ag rfl evk) ?_
  simp only [Act.put, aa, ac, ae]
  refine wpList_nil ?_
  go_wp2_with fail
  go_loopw [14] (fun z wr => ∃ i : Nat, z = .int .i64 i ∧ i ≤ 2 ∧ Below w.heap.size w wr ∧ wr.heap[b5]? = some (.cells (aZ (⟨x.id, (m : Int), R⟩ : Sup)).toArray 128 (0, 0)) ∧ Ar2 wr b7 (rdK M m i 0) (rdK M m i 1) ∧ ∀ j : Nat, j < i → bO M m (j : Int) = 0) (fun z _ => 2 - (intOf z).toNat)
  case atStart => exact ⟨0, by go_num, by omega, HB2.out, HS2.out, HA2.out, fun j hj => absurd hj (by omega)⟩
  case round =>
    obtain ⟨i, rfl, hi, hb, hs, ha, hz⟩ := hrel
    have HBr := Lib.hid hb
    have HSr := Lib.hid hs
    have HAr := Lib.hid ha
    have HZr := Lib.hid hz
    have HJr := Lib.hid (HJ.out.below hb)
    clear hb hs ha hz HB2 HS2 HA2
    by_cases hlt : i < 2
    · have HI := Lib.hid hlt
      have HLT : Hid (decide ((i : Int) < 2) = true) := Lib.hid (decide_eq_true (by omega))
      have HIA : Hid (IntKind.i64.wrap ((i : Int) + 1) = ((i + 1 : Nat) : Int)) := Lib.hid (by rw [dn ⟨by omega, by omega⟩]; omega)
      obtain ⟨xb, hxb⟩ : ∃ xb, rdB6 M m (i : Int) = xb := ⟨_, rfl⟩
      obtain ⟨ee, hee⟩ : ∃ ee, bO M m (i : Int) = ee := ⟨_, rfl⟩
      have HXB := Lib.hid hxb
      have HEE := Lib.hid hee
      clear hi hlt hxb hee
      go_upto_region 3 with fail
      refine wp_region_lit ?_
      refine af (v := .bool true) rfl (bi true rfl (ev rfl) evk HLT.out) ?_
      simp only [Act.put, aa, ac, ae]
      refine wpList_nil ?_
      go_upto_region 4 with fail
      refine wp_region_lit ?_
      refine af rfl (ag rfl (ev rfl)) ?_
      simp only [Act.put, aa, ac, ae]
      refine af rfl (aj rfl (ev rfl)) ?_
      simp only [Act.put, aa, ac, ae]
      refine wpList_nil ?_
      have HSD : Hid (Below wr.heap.size wr (World.drew wr)) := Lib.hid ((Below.refl wr.heap.size wr).drew)
      have HSB : Hid (Below wr.heap.size wr ((World.drew wr).alloc (.cells (cel al).toArray 38))) := Lib.hid (HSD.out.alloc (Nat.le_refl _) _)
      go_upto_region 5 with fail
      refine wp_region_held (S := fun w' => Below wr.heap.size wr w') (by kernel_rfl) ?_
      change wpAnyH _ _ _ _ _ 14 _ _ wr.drew
      apply shareH (F := fun (vb : Value) (wz : World) => ∃ b, vb = .pointer (some ⟨b, 0, none⟩) ∧ wz.heap[b]? = some (.cells (cel xb).toArray 38 (0, 0)) ∧ Below wr.heap.size wr wz ∧ wr.heap.size ≤ b)
      · intro kk
        refine aD 0 rfl (by kernel_rfl) (by kernel_rfl) (by kernel_rfl) rfl (fun w' hw => ag rfl (ev rfl)) (fun _ _ _ h => h) HSD.out ?_
        simp only [Act.put, aa, ac, ae]
        refine aD 1 rfl (by kernel_rfl) (by kernel_rfl) (by kernel_rfl) rfl (fun w' hw => bk rfl (ev rfl)) (fun _ _ _ h => h) HSD.out ?_
        simp only [Act.put, aa, ac, ae]
        refine aD 2 rfl (by kernel_rfl) (by kernel_rfl) (by kernel_rfl) rfl (fun w' hw => am rfl (ev rfl) faHp0) (fun _ _ _ h => h) HSD.out ?_
        simp only [Act.put, aa, ac, ae]
        refine aD 3 rfl (by kernel_rfl) (by kernel_rfl) (by kernel_rfl) rfl (fun w' hw => au rfl (ev rfl) (ldHb (PHo.c0 (HJr.out.hul.below hw)))) (fun _ _ _ h => h) HSD.out ?_
        simp only [Act.put, aa, ac, ae]
        refine aD 4 rfl (by kernel_rfl) (by kernel_rfl) (by kernel_rfl) rfl (fun w' hw => am rfl (ev rfl) faSu1) (fun _ _ _ h => h) HSD.out ?_
        simp only [Act.put, aa, ac, ae]
        refine aD 5 rfl (by kernel_rfl) (by kernel_rfl) (by kernel_rfl) rfl (fun w' hw => au rfl (ev rfl) (bF ((aT (ao HSr.out hw)) 1 _ rfl))) (fun _ _ _ h => h) HSD.out ?_
        simp only [Act.put, aa, ac, ae]
        refine aD 6 rfl (by kernel_rfl) (by kernel_rfl) (by kernel_rfl) rfl (fun w' hw => ag rfl (ev rfl)) (fun _ _ _ h => h) HSD.out ?_
        simp only [Act.put, aa, ac, ae]
        refine held_either 7 11 rfl rfl (by kernel_rfl) rfl rfl (ap Tryz.call54 rfl (evc (ev rfl) (evc (ev rfl) (evc (ev rfl) evn)))) ?_ (aU rfl) HSB.out ?_
        · refine ((HJr.out.below HSD.out).read (m : Int) (i : Int)).mono ?_
          rintro e wA ⟨rfl, bA⟩
          rw [HXB.out, HEE.out]
          have HSA := Lib.hid (Below.trans HSD.out (bA.mono (Below.size HSD.out)))
          clear bA
          refine ⟨_, rfl, HSA.out, ?_⟩
          simp only [Act.put, aa, ac, ae]
          refine aD 8 rfl (by kernel_rfl) (by kernel_rfl) (by kernel_rfl) rfl (fun w' hw => ag rfl (ev rfl)) (fun _ _ _ h => h) HSA.out ?_
          simp only [Act.put, aa, ac, ae]
          refine aD 9 rfl (by kernel_rfl) (by kernel_rfl) (by kernel_rfl) rfl (fun w' hw => ax rfl (ev rfl) rfl) (fun _ _ _ h => h) HSA.out ?_
          simp only [Act.put, aa, ac, ae]
          refine aD 10 rfl (by kernel_rfl) (by kernel_rfl) (by kernel_rfl) rfl (fun w' hw => ax rfl (ev rfl) rfl) (fun _ _ _ h => h) HSA.out ?_
          simp only [Act.put, aa, ac, ae]
          have HSA2 := Lib.hid (HSA.out.alloc HSA.out.size (.cells (cel al).toArray 38))
          have HSA3 := Lib.hid (HSA.out.alloc HSA.out.size (.cells (cel xb).toArray 38))
          refine held_turn 11 rfl (by kernel_rfl) rfl (aU rfl) HSA2.out ?_
          simp only [Act.put, aa, ac, ae]
          refine held_nul 12 rfl (by kernel_rfl) rfl (df (c := xb) rfl (ev rfl) (ev rfl)) HSA3.out ?_
          simp only [Act.put]
          refine aD 13 rfl (by kernel_rfl) (by kernel_rfl) (by kernel_rfl) rfl (fun w' hw => aj rfl (ev rfl)) (fun _ _ _ h => h) HSA3.out ?_
          simp only [Act.put, aa, ac, ae]
          refine wpAnyH_done (by kernel_rfl) ?_ _
          have hz : (wA.alloc (.cells (cel xb).toArray 38)).heap[wA.heap.size]? = _ := heap_alloc_new wA (.cells (cel xb).toArray 38)
          have hy := HSA3.out
          have hge := HSA.out.size
          obtain ⟨bb, hbb⟩ : ∃ bb, wA.heap.size = bb := ⟨_, rfl⟩
          rw [hbb] at hz hge ⊢
          clear HSA2 HSA3
          generalize wA.alloc (.cells (cel xb).toArray 38) = wz at *
          obtain ⟨vb, hvb⟩ : ∃ vb, Value.pointer (some ⟨bb, 0, none⟩) = vb := ⟨_, rfl⟩
          rw [hvb]
          exact kk vb wz ⟨bb, hvb.symm, hz, hy, hge⟩
        · skip
          simp only [Act.put, aa, ac, ae]
          obtain ⟨wa, hwa⟩ : ∃ wa, wr.drew.alloc (.cells (cel al).toArray 38) = wa := ⟨_, rfl⟩
          have HSa := HSB
          have HQa := Lib.hid (heap_alloc_new wr.drew (.cells (cel al).toArray 38))
          obtain ⟨bb, hbb⟩ : ∃ bb, wr.drew.heap.size = bb := ⟨_, rfl⟩
          have HBL : Hid (wr.heap.size ≤ bb) := Lib.hid (Nat.le_of_eq hbb)
          rw [hwa] at HSa HQa
          rw [hbb] at HQa
          rw [hwa, hbb]
          clear hwa hbb
          refine dK 7 rfl (by kernel_rfl) rfl (ap Tryz.call54 rfl (evc (ev rfl) (evc (ev rfl) (evc (ev rfl) evn)))) ?_
          refine ((HJr.out.below HSa.out).read (m : Int) (i : Int)).mono ?_
          rintro e wA ⟨rfl, bA⟩
          rw [HXB.out, HEE.out]
          have HQB := Lib.hid (ao HQa.out bA)
          have HSb := Lib.hid (HSa.out.trans (bA.mono HSa.out.size))
          clear bA
          refine ⟨_, rfl, HSb.out, ?_⟩
          simp only [Act.put, aa, ac, ae]
          refine aD 8 rfl (by kernel_rfl) (by kernel_rfl) (by kernel_rfl) rfl (fun w' hw => ag rfl (ev rfl)) (fun _ _ _ h => h) HSb.out ?_
          simp only [Act.put, aa, ac, ae]
          refine aD 9 rfl (by kernel_rfl) (by kernel_rfl) (by kernel_rfl) rfl (fun w' hw => ax rfl (ev rfl) rfl) (fun _ _ _ h => h) HSb.out ?_
          simp only [Act.put, aa, ac, ae]
          refine aD 10 rfl (by kernel_rfl) (by kernel_rfl) (by kernel_rfl) rfl (fun w' hw => ax rfl (ev rfl) rfl) (fun _ _ _ h => h) HSb.out ?_
          simp only [Act.put, aa, ac, ae]
          have HSc := Lib.hid (below_setCells HSb.out HBL.out (o := 0) (cel xb))
          refine held_nul 12 rfl (by kernel_rfl) rfl (aP (c := xb) rfl (ev rfl) (ev rfl) (bU HQB.out)) HSc.out ?_
          simp only [Act.put]
          refine aD 13 rfl (by kernel_rfl) (by kernel_rfl) (by kernel_rfl) rfl (fun w' hw => aj rfl (ev rfl)) (fun _ _ _ h => h) HSc.out ?_
          simp only [Act.put, aa, ac, ae]
          refine wpAnyH_done (by kernel_rfl) ?_ _
          have hz : (wA.setCells bb 0 (cel xb)).heap[bb]? = _ := blk_laid HQB.out
          have hy := HSc.out
          clear HSc
          generalize wA.setCells bb 0 (cel xb) = wz at *
          obtain ⟨vb, hvb⟩ : ∃ vb, Value.pointer (some ⟨bb, 0, none⟩) = vb := ⟨_, rfl⟩
          rw [hvb]
          exact kk vb wz ⟨bb, hvb.symm, hz, hy, HBL.out⟩
      rintro _ wz ⟨g9, rfl, hz9, hy, hge⟩
      have HG9 := Lib.hid hz9
      have HBz := Lib.hid (HBr.out.trans (hy.mono HBr.out.size))
      have HSz := Lib.hid (ao HSr.out hy)
      have HAz : Hid (Ar2 wz b7 (rdK M m i 0) (rdK M m i 1)) := Lib.hid (ao HAr.out hy)
      have HNE : Hid (b5 ≠ b7) := Lib.hid (by have := HSZ.out; omega)
      clear hz9 hy hge HSB HSD
      by_cases h0 : ee = 0
      rotate_left 1
      · have H0 : Hid ((ee != 0) = true) := Lib.hid (bne_iff_ne.2 h0)
        have HFI : Hid (E = ee ∧ M2 = M) := Lib.hid (by
          rcases (show i = 0 ∨ i = 1 by have := HI.out; omega) with rfl | rfl
          · have := put_no0 (id := x.id) (en := en) (R := R) (M := M) (m := m) (by rw [show ((0 : Nat) : Int) = 0 from rfl] at HEE; rw [HEE.out]; exact h0)
            exact ⟨by rw [← HE.out, this.1]; exact HEE.out, by rw [← HM2.out, this.2]⟩
          · have := put_no1 (id := x.id) (en := en) (R := R) (M := M) (m := m) (HZr.out 0 (by omega)) (by rw [show ((1 : Nat) : Int) = 1 from rfl] at HEE; rw [HEE.out]; exact h0)
            exact ⟨by rw [← HE.out, this.1]; exact HEE.out, by rw [← HM2.out, this.2]⟩)
        clear h0
        go_upto_region 6 with fail
        refine wp_region_lit ?_
        refine af rfl (ag rfl (ev rfl)) ?_
        simp only [Act.put, aa, ac, ae]
        refine af (v := .bool true) rfl (aB true rfl (ev rfl) evk H0.out) ?_
        simp only [Act.put, aa, ac, ae]
        refine wpList_nil ?_
        go_upto_region 7 with fail
        refine wp_region_lit ?_
        refine af rfl (ag rfl (ev rfl)) ?_
        simp only [Act.put, aa, ac, ae]
        refine af rfl (aj rfl (ev rfl)) ?_
        simp only [Act.put, aa, ac, ae]
        refine wpList_nil ?_
        go_wp2_with fail
        go_ret
        exact ⟨by rw [HFI.out.1]; rfl, ⟨x.us, .inl rfl, by rw [HFI.out.2]; exact HJ.out.below HBz.out⟩, HJ.out.kept HBz.out⟩
      subst h0
      go_upto_region 6 with fail
      refine wp_region_lit ?_
      refine af rfl (ag rfl (ev rfl)) ?_
      simp only [Act.put, aa, ac, ae]
      refine af (v := .bool false) rfl (aB false rfl (ev rfl) evk rfl) ?_
      simp only [Act.put, aa, ac, ae]
      refine wpList_nil ?_
      have hset := HAz.out.set HI.out xb
      have hk0 : (if i = 0 then xb else rdK M m i 0) = rdK M m (i + 1) 0 := by
        rcases (show i = 0 ∨ i = 1 by have := HI.out; omega) with rfl | rfl
        · rw [if_pos rfl, ← HXB.out]; rfl
        · rfl
      have hk1 : (if i = 1 then xb else rdK M m i 1) = rdK M m (i + 1) 1 := by
        rcases (show i = 0 ∨ i = 1 by have := HI.out; omega) with rfl | rfl
        · rfl
        · rw [if_pos rfl, ← HXB.out]; rfl
      rw [hk0, hk1] at hset
      have HAs := Lib.hid hset
      have HSs := Lib.hid ((cW b7 (cel xb) (0 + i * 64) wz b5 HNE.out).trans HSz.out)
      have HBs := Lib.hid (below_setCells HBz.out HG7.out (o := 0 + i * 64) (cel xb))
      have HTH := Lib.hid (HAz.out.there HI.out)
      clear hset hk0 hk1
      go_upto_region 8 with fail
      refine wp_region_lit ?_
      refine af rfl (ag rfl (ev rfl)) ?_
      simp only [Act.put, aa, ac, ae]
      refine af rfl (aG (c := xb) rfl (ev rfl) (aT HG9.out)) ?_
      simp only [Act.put, aa, ac, ae]
      refine af rfl (cd rfl (ev rfl) (ev rfl) (ixA2 HI.out)) ?_
      simp only [Act.put, aa, ac, ae]
      refine av rfl (aP (c := xb) rfl (ev rfl) (ev rfl) HTH.out) ?_
      simp only [Act.put, aa, ac, ae]
      generalize wz.setCells b7 (0 + i * 64) (cel xb) = ws at *
      refine wpList_nil ?_
      go_upto_region 9 with fail
      refine wp_region_lit ?_
      refine af rfl (bu rfl (ev rfl) evk HIA.out) ?_
      simp only [Act.put, aa, ac, ae]
      refine af rfl (ag rfl (ev rfl)) ?_
      simp only [Act.put, aa, ac, ae]
      refine wpList_nil ?_
      go_wp2_with fail
      go_roundw
      case rel => exact ⟨i + 1, by go_num, by have := HI.out; omega, HBs.out, HSs.out, HAs.out, fun j hj => by
        by_cases e : j = i
        · subst e; exact HEE.out
        · exact HZr.out j (by omega)⟩
      case measure => have := HI.out; simp [intOf]; omega
    have h2 : i = 2 := by omega
    subst h2
    have HLT : Hid (decide (((2 : Nat) : Int) < 2) = false) := Lib.hid (decide_eq_false (by omega))
    obtain ⟨a0, ha0⟩ : ∃ a0, rdB6 M m 0 = a0 := ⟨_, rfl⟩
    obtain ⟨a1, ha1⟩ : ∃ a1, rdB6 M m 1 = a1 := ⟨_, rfl⟩
    have HAq : Hid (Ar2 wr b7 a0 a1) := Lib.hid (by rw [← ha0, ← ha1]; exact HAr.out)
    have HR0 : Hid (bO M m 0 = 0) := Lib.hid (HZr.out 0 (by omega))
    have HR1 : Hid (bO M m 1 = 0) := Lib.hid (HZr.out 1 (by omega))
    obtain ⟨n, hn⟩ : ∃ n, sloT a0 a1 = n := ⟨_, rfl⟩
    have HN := Lib.hid hn
    have HNN : Hid (sloT (rdB6 M m 0) (rdB6 M m 1) = n) := Lib.hid (by rw [ha0, ha1]; exact hn)
    clear ha0 ha1 hn hi hlt HAr HZr
    go_upto_region 3 with fail
    refine wp_region_lit ?_
    refine af (v := .bool false) rfl (bi false rfl (ev rfl) evk HLT.out) ?_
    simp only [Act.put, aa, ac, ae]
    refine wpList_nil ?_
    go_upto_region 10 with fail
    refine wp_region_lit ?_
    refine af rfl (ag rfl (ev rfl)) ?_
    simp only [Act.put, aa, ac, ae]
    refine af rfl (cn (c := ⟨x.id, (m : Int), R⟩) rfl (ev rfl) (aT HSr.out)) ?_
    simp only [Act.put, aa, ac, ae]
    refine ak rfl (ap Tryz.call86 rfl (evc (ev rfl) (evc (ev rfl) evn))) ?_
    refine (psput en ⟨x.id, (m : Int), R⟩ wr HJr.out.tab HEV.out HID.out).mono ?_
    rintro e w3 ⟨rfl, b3⟩
    rw [HSP.out, HSB'.out]
    have HB3 := Lib.hid (HBr.out.trans (b3.mono HBr.out.size))
    have HS3 := Lib.hid (ao HSr.out b3)
    have HA3 : Hid (Ar2 w3 b7 a0 a1) := Lib.hid (ao HAq.out b3)
    clear b3 HSr HAq
    refine ⟨_, rfl, ?_⟩
    simp only [Act.put, aa, ac, ae]
    refine af rfl (ag rfl (ev rfl)) ?_
    simp only [Act.put, aa, ac, ae]
    refine af rfl (ax rfl (ev rfl) rfl) ?_
    simp only [Act.put, aa, ac, ae]
    refine af rfl (ax rfl (ev rfl) rfl) ?_
    simp only [Act.put, aa, ac, ae]
    refine af rfl (aU rfl) ?_
    simp only [Act.put, aa, ac, ae]
    refine av rfl (df (c := sb) rfl (ev rfl) (ev rfl)) ?_
    simp only [Act.put, aa, ac, ae]
    have hb0 := HB3.out.alloc HB3.out.size (.cells (cel sb).toArray 38)
    have hb00 := (Below.refl w3.heap.size w3).alloc (Nat.le_refl _) (.cells (cel sb).toArray 38)
    have HG4 := Lib.hid (heap_alloc_new w3 (.cells (cel sb).toArray 38))
    have HS4 := Lib.hid (ao HS3.out hb00)
    have HA4 : Hid (Ar2 _ b7 a0 a1) := Lib.hid (ao HA3.out hb00)
    have HB4 := Lib.hid hb0
    obtain ⟨b11, hb11⟩ : ∃ b11, w3.heap.size = b11 := ⟨_, rfl⟩
    have HG11 : Hid (w.heap.size ≤ b11) := Lib.hid (by rw [← hb11]; exact HB3.out.size)
    rw [hb11] at HG4 ⊢
    clear hb11 hb0 hb00 HS3 HA3 HB3
    generalize w3.alloc (.cells (cel sb).toArray 38) = w4 at *
    refine af rfl (aj rfl (ev rfl)) ?_
    simp only [Act.put, aa, ac, ae]
    refine wpList_nil ?_
    go_upto_region 11 with fail
    refine wp_region_lit ?_
    refine af rfl (ag rfl (ev rfl)) ?_
    simp only [Act.put, aa, ac, ae]
    refine af (v := .bool false) rfl (aB false rfl (ev rfl) evk rfl) ?_
    simp only [Act.put, aa, ac, ae]
    refine wpList_nil ?_
    have HL4 : Hid (LayS p (some ⟨q, 0, none⟩) x b5 b7 b11 ⟨x.id, (m : Int), R⟩ a0 a1 sb (World.drew w4)) := Lib.hid ⟨(HJ.out.below HB4.out).hul, HS4.out, HA4.out, HG4.out⟩
    have HB4d : Hid (Below w.heap.size w (World.drew w4)) := Lib.hid (bd HB4.out)
    obtain ⟨we, hwe⟩ : ∃ we, wrE6 M m (n : Int) = we := ⟨_, rfl⟩
    have HWE := Lib.hid hwe
    clear HS4 HA4 HG4 hwe
    go_upto_region 13 with fail
    refine wp_region_held (S := LayS p (some ⟨q, 0, none⟩) x b5 b7 b11 ⟨x.id, (m : Int), R⟩ a0 a1 sb) (by kernel_rfl) ?_
    change wpAnyH _ _ _ _ _ 14 _ _ w4.drew
    refine aD 0 rfl (by kernel_rfl) (by kernel_rfl) (by kernel_rfl) rfl (fun w' hw => ag rfl (ev rfl)) (fun _ _ _ h => h) HL4.out ?_
    simp only [Act.put, aa, ac, ae]
    refine aD 1 rfl (by kernel_rfl) (by kernel_rfl) (by kernel_rfl) rfl (fun w' hw => bk rfl (ev rfl)) (fun _ _ _ h => h) HL4.out ?_
    simp only [Act.put, aa, ac, ae]
    refine aD 2 rfl (by kernel_rfl) (by kernel_rfl) (by kernel_rfl) rfl (fun w' hw => am rfl (ev rfl) faHp0) (fun _ _ _ h => h) HL4.out ?_
    simp only [Act.put, aa, ac, ae]
    refine aD 3 rfl (by kernel_rfl) (by kernel_rfl) (by kernel_rfl) rfl (fun w' hw => au rfl (ev rfl) (ldHb (PHo.c0 hw.1))) (fun _ _ _ h => h) HL4.out ?_
    simp only [Act.put, aa, ac, ae]
    refine aD 4 rfl (by kernel_rfl) (by kernel_rfl) (by kernel_rfl) rfl (fun w' hw => am rfl (ev rfl) faSu1) (fun _ _ _ h => h) HL4.out ?_
    simp only [Act.put, aa, ac, ae]
    refine aD 5 rfl (by kernel_rfl) (by kernel_rfl) (by kernel_rfl) rfl (fun w' hw => au rfl (ev rfl) (bF ((aT hw.2.1) 1 _ rfl))) (fun _ _ _ h => h) HL4.out ?_
    simp only [Act.put, aa, ac, ae]
    refine aD 6 rfl (by kernel_rfl) (by kernel_rfl) (by kernel_rfl) rfl (fun w' hw => cd rfl (ev rfl) evk ixA20) (fun _ _ _ h => h) HL4.out ?_
    simp only [Act.put, aa, ac, ae]
    refine aD 7 rfl (by kernel_rfl) (by kernel_rfl) (by kernel_rfl) rfl (fun w' hw => aG (c := a0) rfl (ev rfl) hw.2.2.1.r0) (fun _ _ _ h => h) HL4.out ?_
    simp only [Act.put, aa, ac, ae]
    refine aD 8 rfl (by kernel_rfl) (by kernel_rfl) (by kernel_rfl) rfl (fun w' hw => cd rfl (ev rfl) evk ixA21) (fun _ _ _ h => h) HL4.out ?_
    simp only [Act.put, aa, ac, ae]
    refine aD 9 rfl (by kernel_rfl) (by kernel_rfl) (by kernel_rfl) rfl (fun w' hw => aG (c := a1) rfl (ev rfl) hw.2.2.1.r1) (fun _ _ _ h => h) HL4.out ?_
    simp only [Act.put, aa, ac, ae]
    refine aD 11 rfl (by kernel_rfl) (by kernel_rfl) (by kernel_rfl) rfl (fun w' hw => aG (c := sb) rfl (ev rfl) (aT hw.2.2.2)) (fun _ _ _ h => h) HL4.out ?_
    simp only [Act.put, aa, ac, ae]
    refine dK 10 rfl (by kernel_rfl) rfl (ap Tryz.call87 rfl (evc (ev rfl) (evc (ev rfl) evn))) ?_
    refine (pslot_b a0 a1 n (World.drew w4) (HJ.out.below HB4d.out).tab HN.out).mono ?_
    rintro e w5 ⟨rfl, b5'⟩
    have HL5 := Lib.hid (HL4.out.below b5')
    have HB5 := Lib.hid (HB4d.out.trans (b5'.mono HB4d.out.size))
    have HJ5 := Lib.hid (HJ.out.up HB5.out)
    clear b5'
    refine ⟨_, rfl, HL5.out, ?_⟩
    simp only [Act.put, aa, ac, ae]
    refine dK 12 rfl (by kernel_rfl) rfl (ap Tryz.call22 rfl (evc (ev rfl) (evc (ev rfl) (evc (ev rfl) (evc (ev rfl) evn))))) ?_
    refine (HJ5.out.write (m : Int) (n : Int) sb (cj HRM.out (by omega))).mono ?_
    rintro e w6 ⟨rfl, j6, k6⟩
    rw [HWE.out]
    have HJ6 := Lib.hid j6
    have HK6 : Hid (bm K w w6) := Lib.hid ((HJ.out.kept HB5.out).trans (k6.less fun b e => .inl e))
    have HS6 := Lib.hid (k6.at_ (.inr ⟨HG5.out, aH HL5.out.2.1⟩) HL5.out.2.1)
    have HL6 : Hid (LayS p (some ⟨q, 0, none⟩) x b5 b7 b11 ⟨x.id, (m : Int), R⟩ a0 a1 sb w6) := Lib.hid ⟨j6.hul, HS6.out, k6.at_ (.inr ⟨HG7.out, aH HL5.out.2.2.1⟩) HL5.out.2.2.1, k6.at_ (.inr ⟨HG11.out, aH HL5.out.2.2.2⟩) HL5.out.2.2.2⟩
    clear j6 k6
    refine ⟨_, rfl, HL6.out, ?_⟩
    simp only [Act.put, aa, ac, ae]
    refine aD 13 rfl (by kernel_rfl) (by kernel_rfl) (by kernel_rfl) rfl (fun w' hw => aj rfl (ev rfl)) (fun _ _ _ h => h) HL6.out ?_
    simp only [Act.put, aa, ac, ae]
    refine wpAnyH_done (by kernel_rfl) ?_ _
    by_cases h0 : we = 0
    rotate_left 1
    · have H0 : Hid ((we != 0) = true) := Lib.hid (bne_iff_ne.2 h0)
      have hput := put_wr (id := x.id) (en := en) (R := R) HR0.out HR1.out HNN.out HSB'.out (by rw [HWE.out]; exact h0)
      have HFI : Hid (E = we ∧ M2 = wrS6 M m n sb) := Lib.hid ⟨by rw [← HE.out, hput.1, HWE.out], by rw [← HM2.out, hput.2]⟩
      clear h0 hput
      go_upto_region 14 with fail
      refine wp_region_lit ?_
      refine af rfl (ag rfl (ev rfl)) ?_
      simp only [Act.put, aa, ac, ae]
      refine af (v := .bool true) rfl (aB true rfl (ev rfl) evk H0.out) ?_
      simp only [Act.put, aa, ac, ae]
      refine wpList_nil ?_
      go_upto_region 15 with fail
      refine wp_region_lit ?_
      refine af rfl (ag rfl (ev rfl)) ?_
      simp only [Act.put, aa, ac, ae]
      refine af rfl (aj rfl (ev rfl)) ?_
      simp only [Act.put, aa, ac, ae]
      refine wpList_nil ?_
      go_wp2_with fail
      go_ret
      exact ⟨by rw [HFI.out.1]; rfl, ⟨x.us, .inl rfl, by rw [HFI.out.2]; exact HJ6.out.less fun b e => .inl e⟩, HK6.out⟩
    subst h0
    have hput := put_fl (id := x.id) (en := en) (R := R) HR0.out HR1.out HNN.out HSB'.out HWE.out
    have HFI : Hid (E = flE6 (wrS6 M m n sb) m ∧ M2 = flS6 (wrS6 M m n sb) m) := Lib.hid ⟨by rw [← HE.out, hput.1], by rw [← HM2.out, hput.2]⟩
    clear hput
    go_upto_region 14 with fail
    refine wp_region_lit ?_
    refine af rfl (ag rfl (ev rfl)) ?_
    simp only [Act.put, aa, ac, ae]
    refine af (v := .bool false) rfl (aB false rfl (ev rfl) evk rfl) ?_
    simp only [Act.put, aa, ac, ae]
    refine wpList_nil ?_
    obtain ⟨M3, hM3⟩ : ∃ M3, wrS6 M m n sb = M3 := ⟨_, rfl⟩
    have HRM3 : Hid (Room M3 1) := Lib.hid (by rw [← hM3]; exact room_wr HRM.out _ _ _)
    rw [hM3] at HFI HJ6
    clear hM3
    go_upto_region 16 with fail
    refine wp_region_lit ?_
    refine af rfl (ag rfl (ev rfl)) ?_
    simp only [Act.put, aa, ac, ae]
    refine af rfl (ag rfl (ev rfl)) ?_
    simp only [Act.put, aa, ac, ae]
    refine af rfl (bk rfl (ev rfl)) ?_
    simp only [Act.put, aa, ac, ae]
    refine af rfl (am rfl (ev rfl) faHp4) ?_
    simp only [Act.put, aa, ac, ae]
    refine av rfl (exec_putU rfl (ev rfl) (ev rfl) HJ6.out.hul.c24 (HJ6.out.hul.free_ 24)) ?_
    simp only [Act.put, aa, ac, ae]
    have ho := (Only.refl (fun b => b = p) w6).setCell (p := ⟨p, 24, none⟩) (.inl rfl) (.int .u64 (en : Int))
    have hset := HJ6.out.hul.set (phC_us _ x en)
    obtain ⟨hj7, hk7⟩ := HJ6.out.obj ho hset
    have HJ7 := Lib.hid hj7
    have HK7 : Hid (bm K w _) := Lib.hid (HK6.out.trans (hk7.less fun b e => .inl e))
    have HS7 := Lib.hid (hk7.at_ (.inr ⟨HG5.out, by have := aH HL5.out.2.1; exact this⟩) HS6.out)
    clear ho hset hj7 hk7
    generalize w6.setCell ⟨p, 24, none⟩ (.int .u64 (en : Int)) = w7 at *
    refine wpList_nil ?_
    go_upto_region 17 with fail
    refine wp_region_still_tail 6 (by kernel_rfl) (by kernel_rfl) ?_
    simp only [List.take_succ_cons, List.take_zero, List.drop_succ_cons, List.drop_zero]
    refine az rfl (ag rfl (ev rfl)) ?_
    simp only [Act.put, aa, ac, ae]
    refine az rfl (bk rfl (ev rfl)) ?_
    simp only [Act.put, aa, ac, ae]
    refine az rfl (am rfl (ev rfl) faHp0) ?_
    simp only [Act.put, aa, ac, ae]
    refine az rfl (au rfl (ev rfl) (ldHb (PHo.c0 HJ7.out.hul))) ?_
    simp only [Act.put, aa, ac, ae]
    refine az rfl (am rfl (ev rfl) faSu1) ?_
    simp only [Act.put, aa, ac, ae]
    refine az rfl (au rfl (ev rfl) (bF ((aT HS7.out) 1 _ rfl))) ?_
    simp only [Act.put, aa, ac, ae]
    refine wpStill_nil ?_
    change wpList _ _ _ _ _ (World.drew _)
    refine ak rfl (ap Tryz.call88 rfl (evc (ev rfl) (evc (ev rfl) evn))) ?_
    refine (HJ7.out.drew.flush (m : Int) HRM3.out).mono ?_
    rintro e w8 ⟨rfl, j8, k8⟩
    refine ⟨_, rfl, ?_⟩
    simp only [Act.put, aa, ac, ae]
    refine af rfl (aj rfl (ev rfl)) ?_
    simp only [Act.put, aa, ac, ae]
    refine wpList_nil ?_
    go_wp2_with fail
    go_ret
    exact ⟨by rw [HFI.out.1]; rfl, ⟨en, .inr rfl, by rw [HFI.out.2]; exact j8.less fun b e => .inl e⟩, HK7.out.trans (k8.less fun b e => .inl e)⟩
end
section
variable {ρ : Operand → Value} {o : Oper} {x y x1 x2 x3 : Operand} {w : World} {t : TypeId} {v v1 v2 v3 : Value} {f : FuncId}
theorem dk (hv : v.cells = #[v]) (ho : o.op = .box t x) (hx : ρ x = v) : (execOp ρ o).run Tryz.prog w = .ok (.value (.pointer (some ⟨w.heap.size, 0, none⟩))) (w.alloc (.cells #[v] t)) := by
  unfold execOp
  simp [ho, hx, Instr.box, newVar, newRow, hv]
theorem exec_alloc1 (hv : v.cells = #[v]) (h : (Tryz.prog.info? t).map (fun i => i.zero) = some (some v)) (ho : o.op = .alloc t) : (execOp ρ o).run Tryz.prog w = .ok (.value (.pointer (some ⟨w.heap.size, 0, none⟩))) (w.alloc (.cells #[v] t)) := by
  have hz := run_zeroT h w
  unfold execOp
  simp [ho, Instr.alloc, hz, newVar, newRow, hv]
theorem zeroU6 : (Tryz.prog.info? 34).map (fun i => i.zero) = some (some (.int .u64 0)) := by kernel_rfl
theorem zeroI6 : (Tryz.prog.info? 3).map (fun i => i.zero) = some (some (.int .i64 0)) := by kernel_rfl
theorem run_mkf (fn : Fn) (fs cs : Array Value) (w : World) : (Instr.makeFunc fn fs cs).run Tryz.prog w = .ok (.func fn fs cs) w := rfl
theorem exec_mkf2 (ho : o.op = .makeFunc (.func f) #[] #[x1, x2]) (h1 : ρ x1 = v1) (h2 : ρ x2 = v2) : (execOp ρ o).run Tryz.prog w = .ok (.value (.func (.func f) #[] #[v1, v2])) w := by
  unfold execOp
  simp [ho, h1, h2, run_mkf]
theorem exec_mkf3 (ho : o.op = .makeFunc (.func f) #[] #[x1, x2, x3]) (h1 : ρ x1 = v1) (h2 : ρ x2 = v2) (h3 : ρ x3 = v3) : (execOp ρ o).run Tryz.prog w = .ok (.value (.func (.func f) #[] #[v1, v2, v3])) w := by
  unfold execOp
  simp [ho, h1, h2, h3, run_mkf]
theorem zeroSu : (Tryz.prog.info? 128).map (fun i => i.zero) = some (some (.agg (.int .u64 0 :: .int .i64 0 :: aE bh).toArray)) := by kernel_rfl
theorem run_bldSp (id : Nat) (m : Int) (R : Ros) : (Instr.build 128 #[(0, .int .u64 (id : Int)), (1, .int .i64 m), (2, ros R)]).run Tryz.prog w = .ok (sup ⟨id, m, R⟩) w := by
  have hz := run_zeroT zeroSu w
  have h0 := cr (place := fun i => (#[(0, 1), (1, 1), (2, 21)] : Array (Nat × Nat))[i]?) (i := 0) (off := 0) (size := 1) (v := .int .u64 (id : Int)) (pre := []) (mid := [.int .u64 0]) (post := .int .i64 0 :: aE bh) (vs := [.int .u64 (id : Int)]) (rest := [(1, .int .i64 m), (2, ros R)]) rfl rfl rfl rfl rfl
  have h1 := cr (place := fun i => (#[(0, 1), (1, 1), (2, 21)] : Array (Nat × Nat))[i]?) (i := 1) (off := 1) (size := 1) (v := .int .i64 m) (pre := [.int .u64 (id : Int)]) (mid := [.int .i64 0]) (post := aE bh) (vs := [.int .i64 m]) (rest := [(2, ros R)]) rfl rfl rfl rfl rfl
  have h2 := cr (place := fun i => (#[(0, 1), (1, 1), (2, 21)] : Array (Nat × Nat))[i]?) (i := 2) (off := 2) (size := 21) (v := ros R) (pre := [.int .u64 (id : Int), .int .i64 m]) (mid := aE bh) (post := []) (vs := aE R) (rest := []) rfl rfl (aV R) rfl (aV bh)
  simp only [List.nil_append, List.append_nil, List.cons_append] at h0 h1 h2
  have h4 := h0.trans (h1.trans h2)
  have hz' : (zeroValue 128).run Tryz.prog w = .ok (.agg (.int .u64 0 :: .int .i64 0 :: aE bh).toArray) w := hz
  have hc : (Value.agg (.int .u64 0 :: .int .i64 0 :: aE bh).toArray).cells = (.int .u64 0 :: .int .i64 0 :: aE bh).toArray := rfl
  simp only [Instr.build, Sem.run_bind, hz', run_underlying Tryz.underlying128, Result.andThen_ok, hc]
  refine Eq.trans (congrArg (fun r => Result.andThen r _) (?h : _ = Result.ok #[(0, 1), (1, 1), (2, 21)] w)) ?_
  case h => kernel_rfl
  simp only [Result.andThen_ok]
  have h5 : Instr.fill (fun i => (#[(0, 1), (1, 1), (2, 21)] : Array (Nat × Nat))[i]?) (.int .u64 (id : Int) :: .int .i64 m :: aE R).toArray [] = some (.int .u64 (id : Int) :: .int .i64 m :: aE R).toArray := by rw [Instr.fill]
  rw [h4.trans h5]
  rfl
theorem exec_bldSp {id : Nat} {m : Int} {R : Ros} (ho : o.op = .build 128 #[(0, x1), (1, x2), (2, x3)]) (h1 : ρ x1 = .int .u64 (id : Int)) (h2 : ρ x2 = .int .i64 m) (h3 : ρ x3 = ros R) : (execOp ρ o).run Tryz.prog w = .ok (.value (sup ⟨id, m, R⟩)) w := by
  unfold execOp
  simp only [ho, h1, h2, h3, List.map_toArray, List.map_cons, List.map_nil, Sem.run_bind, run_bldSp, Result.andThen_ok, Sem.run_pure]
theorem faRo0 {b off : Nat} : (Instr.fieldAt 32 (.pointer (some ⟨b, off, none⟩)) 0).run Tryz.prog w = .ok (.pointer (some ⟨b, off, none⟩)) w := by kernel_rfl
theorem faRo1 {b off : Nat} : (Instr.fieldAt 32 (.pointer (some ⟨b, off, none⟩)) 1).run Tryz.prog w = .ok (.pointer (some ⟨b, off + 3, none⟩)) w := by kernel_rfl
theorem faGo0 {b off : Nat} : (Instr.fieldAt 29 (.pointer (some ⟨b, off, none⟩)) 0).run Tryz.prog w = .ok (.pointer (some ⟨b, off, none⟩)) w := by kernel_rfl
theorem ixSo {b off j : Nat} {w : World} (hj : j < 16) : (Instr.indexAt 30 (.pointer (some ⟨b, off, none⟩)) (.int .i64 (j : Int))).run Tryz.prog w = .ok (.pointer (some ⟨b, off + j, none⟩)) w := by
  have e : (0 ≤ (j : Int) ∧ (j : Int) < 16) := by omega
  simp [Instr.indexAt, Instr.sureAddr, asIntOf, run_underlying Tryz.underlying30, Tryz.sizeOf5, Addr.add_mid, e, hj]
end
theorem ros_m {w : World} {b off : Nat} {R : Ros} (h : w.rangeAt b off (aE R)) : w.cell? ⟨b, off, none⟩ = some (.int .i64 R.m) := h 0 _ rfl
theorem ros_sta {w : World} {b off j : Nat} {R : Ros} (h : w.rangeAt b off (aE R)) (hj : j < 16) : w.cell? ⟨b, off + 3 + j, none⟩ = some (.int .u8 (sta R j)) := by
  have h1 := dz (k := 3) (ds := [.int .i64 R.m, .int .i64 R.s, .int .i64 R.r]) (es := vals R.st.toList) (fs := [.int .i64 R.cur, .bool R.gone]) h rfl rfl
  exact h1 j _ (vals_at (by simpa using hj))
set_option maxHeartbeats 4000000 in
theorem hp_each {b off N : Nat} (s : Fu) (P : Nat → Ros → World → Prop) (Q : Int → World → Prop) (hN : N ≤ 16)
    (hR : ∀ {m R w}, P m R w → w.rangeAt b off (aE R) ∧ R.m = (N : Int))
    (hskip : ∀ {m R w}, m < N → sta R m = 1 → P m R w → P (m + 1) R w)
    (hdo : ∀ {m R w}, m < N → sta R m ≠ 1 → P m R w → Calls Tryz.prog s.f (.int .i64 (m : Int) :: s.cap).toArray w fun e w' => ∃ E : Int, e = .returned (.int .i64 E) ∧ ((E = 0 ∧ ∃ R', P (m + 1) R' w') ∨ (E ≠ 0 ∧ Q E w')))
    (hend : ∀ {R w}, P N R w → Q 0 w) {R : Ros} {w : World} (h : P 0 R w) :
    Calls Tryz.prog 84 #[.pointer (some ⟨b, off, none⟩), s.val] w fun e w' => ∃ E : Int, e = .returned (.int .i64 E) ∧ Q E w' := by
  have HP := Lib.hid h
  have HR := Lib.hid (hR h)
  have HN := Lib.hid hN
  obtain ⟨PP, hPP⟩ : ∃ PP, PP = P := ⟨_, rfl⟩
  clear h hN
  go_enter Tryz.func84, Tryz.ntmps84
  go_upto_region 1 with fail
  refine wp_region_lit ?_
  refine af rfl (ag rfl (ev rfl)) ?_
  simp only [Act.put, aa, ac, ae]
  refine af rfl (bk rfl (ev rfl)) ?_
  simp only [Act.put, aa, ac, ae]
  refine af rfl (am rfl (ev rfl) faRo0) ?_
  simp only [Act.put, aa, ac, ae]
  refine af rfl (am rfl (ev rfl) faGo0) ?_
  simp only [Act.put, aa, ac, ae]
  refine af rfl (au rfl (ev rfl) (bF (k := (N : Int)) (by rw [← HR.out.2]; exact ros_m HR.out.1))) ?_
  simp only [Act.put, aa, ac, ae]
  refine af rfl (ag rfl evk) ?_
  simp only [Act.put, aa, ac, ae]
  refine wpList_nil ?_
  go_wp2_with fail
  go_loopw [12] (fun z wr => ∃ (i : Nat) (Ri : Ros), z = .int .i64 i ∧ i ≤ N ∧ P i Ri wr) (fun z _ => N - (intOf z).toNat)
  case atStart => exact ⟨0, R, by go_num, Nat.zero_le _, HP.out⟩
  case round =>
    clear HP HR
    obtain ⟨i, Ri, rfl, hi, hp⟩ := hrel
    have HPr := Lib.hid hp
    have HRr := Lib.hid (hR hp)
    clear hp
    by_cases hlt : i < N
    · have HI := Lib.hid hlt
      have HI16 : Hid (i < 16) := Lib.hid (by have := HN.out; omega)
      have HLT : Hid (decide ((i : Int) < (N : Int)) = true) := Lib.hid (decide_eq_true (by omega))
      have HIA : Hid (IntKind.i64.wrap ((i : Int) + 1) = ((i + 1 : Nat) : Int)) := Lib.hid (by have := HI16.out; rw [dn ⟨by omega, by omega⟩]; omega)
      clear hi hlt
      go_upto_region 2 with fail
      refine wp_region_lit ?_
      refine af (v := .bool true) rfl (bi true rfl (ev rfl) (ev rfl) HLT.out) ?_
      simp only [Act.put, aa, ac, ae]
      refine wpList_nil ?_
      go_upto_region 3 with fail
      refine wp_region_lit ?_
      refine af rfl (ag rfl (ev rfl)) ?_
      simp only [Act.put, aa, ac, ae]
      refine af rfl (aj rfl (ev rfl)) ?_
      simp only [Act.put, aa, ac, ae]
      refine wpList_nil ?_
      by_cases hs : sta Ri i = 1
      · have HS : Hid ((sta Ri i == 1) = true) := Lib.hid (beq_iff_eq.2 hs)
        have HP1 := Lib.hid (hskip HI.out hs HPr.out)
        clear hs
        go_upto_region 4 with fail
        refine wp_region_lit ?_
        refine af rfl (ag rfl (ev rfl)) ?_
        simp only [Act.put, aa, ac, ae]
        refine af rfl (ag rfl (ev rfl)) ?_
        simp only [Act.put, aa, ac, ae]
        refine af rfl (bk rfl (ev rfl)) ?_
        simp only [Act.put, aa, ac, ae]
        refine af rfl (am rfl (ev rfl) faRo1) ?_
        simp only [Act.put, aa, ac, ae]
        refine af rfl (cd rfl (ev rfl) (ev rfl) (ixSo HI16.out)) ?_
        simp only [Act.put, aa, ac, ae]
        refine af rfl (au rfl (ev rfl) (ldU8 (ros_sta HRr.out.1 HI16.out))) ?_
        simp only [Act.put, aa, ac, ae]
        refine af (v := .bool true) rfl (ar true rfl (ev rfl) evk HS.out) ?_
        simp only [Act.put, aa, ac, ae]
        refine wpList_nil ?_
        go_upto_region 8 with fail
        refine wp_region_lit ?_
        refine af rfl (bu rfl (ev rfl) evk HIA.out) ?_
        simp only [Act.put, aa, ac, ae]
        refine af rfl (ag rfl (ev rfl)) ?_
        simp only [Act.put, aa, ac, ae]
        refine wpList_nil ?_
        go_wp2_with fail
        go_roundw
        case rel => exact ⟨i + 1, Ri, by go_num, HI.out, HP1.out⟩
        case measure => have := HI.out; simp [intOf]; omega
      have HS : Hid ((sta Ri i == 1) = false) := Lib.hid (beq_eq_false_iff_ne.2 hs)
      have HD := Lib.hid (hdo HI.out hs HPr.out)
      clear hs
      go_upto_region 4 with fail
      refine wp_region_lit ?_
      refine af rfl (ag rfl (ev rfl)) ?_
      simp only [Act.put, aa, ac, ae]
      refine af rfl (ag rfl (ev rfl)) ?_
      simp only [Act.put, aa, ac, ae]
      refine af rfl (bk rfl (ev rfl)) ?_
      simp only [Act.put, aa, ac, ae]
      refine af rfl (am rfl (ev rfl) faRo1) ?_
      simp only [Act.put, aa, ac, ae]
      refine af rfl (cd rfl (ev rfl) (ev rfl) (ixSo HI16.out)) ?_
      simp only [Act.put, aa, ac, ae]
      refine af rfl (au rfl (ev rfl) (ldU8 (ros_sta HRr.out.1 HI16.out))) ?_
      simp only [Act.put, aa, ac, ae]
      refine af (v := .bool false) rfl (ar false rfl (ev rfl) evk HS.out) ?_
      simp only [Act.put, aa, ac, ae]
      refine wpList_nil ?_
      go_upto_region 5 with fail
      refine wp_region_lit ?_
      refine af rfl (ag rfl (ev rfl)) ?_
      simp only [Act.put, aa, ac, ae]
      refine af rfl (ag rfl (ev rfl)) ?_
      simp only [Act.put, aa, ac, ae]
      refine ak rfl (exec_callU1 (s := s) (v := .int .i64 (i : Int)) rfl (ev rfl) (ev rfl)) ?_
      refine (HD.out).mono ?_
      rintro e w2 ⟨E, rfl, hE⟩
      refine ⟨_, rfl, ?_⟩
      simp only [Act.put, aa, ac, ae]
      refine af rfl (aj rfl (ev rfl)) ?_
      simp only [Act.put, aa, ac, ae]
      refine wpList_nil ?_
      by_cases h0 : E = 0
      · subst h0
        have hE1 : ∃ R', P (i + 1) R' w2 := by
          rcases hE with ⟨_, h⟩ | ⟨h, _⟩
          · exact h
          · exact absurd rfl h
        obtain ⟨R2, hE2⟩ := hE1
        have HE2 := Lib.hid hE2
        clear hE hE2
        go_upto_region 6 with fail
        refine wp_region_lit ?_
        refine af rfl (ag rfl (ev rfl)) ?_
        simp only [Act.put, aa, ac, ae]
        refine af (v := .bool false) rfl (aB false rfl (ev rfl) evk rfl) ?_
        simp only [Act.put, aa, ac, ae]
        refine wpList_nil ?_
        go_upto_region 8 with fail
        refine wp_region_lit ?_
        refine af rfl (bu rfl (ev rfl) evk HIA.out) ?_
        simp only [Act.put, aa, ac, ae]
        refine af rfl (ag rfl (ev rfl)) ?_
        simp only [Act.put, aa, ac, ae]
        refine wpList_nil ?_
        go_wp2_with fail
        go_roundw
        case rel => exact ⟨i + 1, R2, by go_num, HI.out, HE2.out⟩
        case measure => have := HI.out; simp [intOf]; omega
      have H0 : Hid ((E != 0) = true) := Lib.hid (bne_iff_ne.2 h0)
      have HE2 : Hid (Q E w2) := Lib.hid (by
        rcases hE with ⟨h, _⟩ | ⟨_, h⟩
        · exact absurd h h0
        · exact h)
      clear hE h0
      go_upto_region 6 with fail
      refine wp_region_lit ?_
      refine af rfl (ag rfl (ev rfl)) ?_
      simp only [Act.put, aa, ac, ae]
      refine af (v := .bool true) rfl (aB true rfl (ev rfl) evk H0.out) ?_
      simp only [Act.put, aa, ac, ae]
      refine wpList_nil ?_
      go_upto_region 7 with fail
      refine wp_region_lit ?_
      refine af rfl (ag rfl (ev rfl)) ?_
      simp only [Act.put, aa, ac, ae]
      refine af rfl (aj rfl (ev rfl)) ?_
      simp only [Act.put, aa, ac, ae]
      refine wpList_nil ?_
      go_wp2_with fail
      go_ret
      exact ⟨E, rfl, HE2.out⟩
    have hin : i = N := by omega
    subst hin
    have HLT : Hid (decide ((i : Int) < (i : Int)) = false) := Lib.hid (decide_eq_false (by omega))
    have HQ := Lib.hid (hend HPr.out)
    clear hi hlt
    go_upto_region 2 with fail
    refine wp_region_lit ?_
    refine af (v := .bool false) rfl (bi false rfl (ev rfl) (ev rfl) HLT.out) ?_
    simp only [Act.put, aa, ac, ae]
    refine wpList_nil ?_
    go_upto_region 9 with fail
    refine wp_region_lit ?_
    refine af rfl (aj rfl evk) ?_
    simp only [Act.put, aa, ac, ae]
    refine wpList_nil ?_
    go_wp2_with fail
    go_ret
    exact ⟨0, rfl, HQ.out⟩
structure SvL (w0 : World) (H K : Nat → Prop) (ws : World) (p q b2 b3 b5 : Nat) (x : HpS) (R : Ros) (en : Nat) (M : BenS) (w : World) : Prop where
  j : ∃ us, us ≤ en ∧ HJ w0 H (fun b => K b ∨ b = b2 ∨ b = b3 ∨ b = b5) w p q M { x with us := us }
  h2 : w.heap[b2]? = some (.cells #[.pointer (some ⟨p, 0, none⟩)] 23 (0, 0))
  h3 : bf w b3 R
  h5 : w.heap[b5]? = some (.cells #[.int .u64 (en : Int)] 34 (0, 0))
  k : bm K ws w
  g : w0.heap.size ≤ b2 ∧ w0.heap.size ≤ b3 ∧ w0.heap.size ≤ b5
  d : b2 ≠ b3 ∧ b2 ≠ b5 ∧ b3 ≠ b5
  n : ∀ b, K b → b ≠ b2 ∧ b ≠ b3 ∧ b ≠ b5
section
variable {w0 ws w w' : World} {H K : Nat → Prop} {p q b2 b3 b5 en : Nat} {x : HpS} {R : Ros} {M : BenS}
theorem SvL.below (h : SvL w0 H K ws p q b2 b3 b5 x R en M w) (hb : Below w.heap.size w w') : SvL w0 H K ws p q b2 b3 b5 x R en M w' := by
  obtain ⟨us, h0, h1⟩ := h.j
  exact ⟨⟨us, h0, h1.below hb⟩, ao h.h2 hb, ao h.h3 hb, ao h.h5 hb, h.k.trans ((h1.kept hb).less fun b e => .inl e), h.g, h.d, h.n⟩
theorem SvL.drew (h : SvL w0 H K ws p q b2 b3 b5 x R en M w) : SvL w0 H K ws p q b2 b3 b5 x R en M w.drew := h.below (bd (Below.refl _ _))
theorem SvL.turn {M' : BenS} {us : Nat} (h : SvL w0 H K ws p q b2 b3 b5 x R en M w) (hu : us ≤ en) (j : HJ w0 H (fun b => K b ∨ b = b2 ∨ b = b3 ∨ b = b5) w' p q M' { x with us := us }) (kk : bm (fun b => K b ∨ b = b2 ∨ b = b3 ∨ b = b5) w w') : SvL w0 H K ws p q b2 b3 b5 x R en M' w' :=
  ⟨⟨us, hu, j⟩, kk.at_ (.inr (.inl rfl)) h.h2, kk.at_ (.inr (.inr (.inl rfl))) h.h3, kk.at_ (.inr (.inr (.inr rfl))) h.h5, h.k.trans (kk.less fun b e => .inl e), h.g, h.d, h.n⟩
theorem SvL.putR (h : SvL w0 H K ws p q b2 b3 b5 x R en M w) (y : Ros) : SvL w0 H K ws p q b2 b3 b5 x y en M (putW w b3 y) := by
  obtain ⟨us, h0, h1⟩ := h.j
  have ho : Only (fun b => b = b3) w (putW w b3 y) := (Only.refl (fun b => b = b3) w).setCells (.inl rfl) _ _
  exact ⟨⟨us, h0, h1.mine (.inr (.inr (.inl rfl))) h.g.2.1 ho⟩, ho.keep h.h2 h.d.1, putW_at h.h3, ho.keep h.h5 (fun e => h.d.2.2 e.symm), h.k.trans (bm.of_only ho fun b e => ⟨(h.n b e).2.1, h1.lt (.inl e)⟩), h.g, h.d, h.n⟩
theorem SvL.putE {em : Nat} (h : SvL w0 H K ws p q b2 b3 b5 x R en M w) (he : en ≤ em) : SvL w0 H K ws p q b2 b3 b5 x R em M (w.setCell ⟨b5, 0, none⟩ (.int .u64 (em : Int))) := by
  obtain ⟨us, h0, h1⟩ := h.j
  have ho : Only (fun b => b = b5) w (w.setCell ⟨b5, 0, none⟩ (.int .u64 (em : Int))) := (Only.refl (fun b => b = b5) w).setCell (p := ⟨b5, 0, none⟩) (.inl rfl) _
  exact ⟨⟨us, by omega, h1.mine (.inr (.inr (.inr rfl))) h.g.2.2 ho⟩, ho.keep h.h2 h.d.2.1, ho.keep h.h3 h.d.2.2, heap_setCell_same w b5 0 _ _ _ h.h5, h.k.trans (bm.of_only ho fun b e => ⟨(h.n b e).2.2, h1.lt (.inl e)⟩), h.g, h.d, h.n⟩
set_option maxHeartbeats 4000000 in
theorem hp_save1 {m : Nat} (hr : Room M 2) (hev : 1 ≤ en ∧ en ≤ 4611686018427387904) (hid : x.id ≠ 0 ∧ x.id < 18446744073709551616) (hf : aI R = true) (hm : m < R.m.toNat) (h : SvL w0 H K ws p q b2 b3 b5 x R en M w) : Calls Tryz.prog 82 #[.int .i64 (m : Int), .pointer (some ⟨b2, 0, none⟩), .pointer (some ⟨b5, 0, none⟩), .pointer (some ⟨b3, 0, none⟩)] w fun e w' =>
    e = .returned (.int .i64 (cz x.id en R M m)) ∧ SvL w0 H K ws p q b2 b3 b5 x (if cz x.id en R M m = 9 then bl R (m : Int) else R) en (cJ x.id en R M m) w' := by
  obtain ⟨E, hE⟩ : ∃ E, cz x.id en R M m = E := ⟨_, rfl⟩
  obtain ⟨M2, hM2⟩ : ∃ M2, cJ x.id en R M m = M2 := ⟨_, rfl⟩
  rw [hE, hM2]
  obtain ⟨us, hus, hj⟩ := h.drew.j
  have hlay := hp_lay hr hev (x := { x with us := us }) hid hf hm hj
  have hlay : Calls Tryz.prog 83 #[.pointer (some ⟨p, 0, none⟩), .int .u64 (en : Int), sup ⟨x.id, (m : Int), R⟩] w.drew fun e w' => e = .returned (.int .i64 E) ∧ SvL w0 H K ws p q b2 b3 b5 x R en M2 w' :=
    hlay.mono fun e w' ⟨e1, ⟨us', e2, e3⟩, e4⟩ => ⟨by rw [e1]; show Ending.returned (.int .i64 (cz x.id en R M m)) = _; rw [hE], h.drew.turn (us := us') (by rcases e2 with e2 | e2 <;> (rw [e2]; first | exact hus | exact Nat.le_refl _)) (by rw [← hM2]; exact e3) e4⟩
  have HLAY := Lib.hid hlay
  have HJ := Lib.hid hj
  have HL := Lib.hid h.drew
  obtain ⟨y, hy⟩ : ∃ y, bl R (m : Int) = y := ⟨_, rfl⟩
  rw [hy]
  obtain ⟨z, hz⟩ : ∃ z, (if E = 9 then y else R) = z := ⟨_, rfl⟩
  rw [hz]
  have HZ := Lib.hid hz
  have HY := Lib.hid hy
  clear hz
  clear hr hev hid hf hm h hE hM2 hus hj hlay hy
  go_enter Tryz.func82, Tryz.ntmps82
  go_upto_region 1 with fail
  refine wp_region_still_tail 9 (by kernel_rfl) (by kernel_rfl) ?_
  simp only [List.take_succ_cons, List.take_zero, List.drop_succ_cons, List.drop_zero]
  refine az rfl (au rfl (ev rfl) (ldHp ((aT HL.out.h2) 0 _ rfl))) ?_
  simp only [Act.put, aa, ac, ae]
  refine az rfl (au rfl (ev rfl) (ldU64 ((aT HL.out.h5) 0 _ rfl))) ?_
  simp only [Act.put, aa, ac, ae]
  refine az rfl (au rfl (ev rfl) (ldHp ((aT HL.out.h2) 0 _ rfl))) ?_
  simp only [Act.put, aa, ac, ae]
  refine az rfl (bk rfl (ev rfl)) ?_
  simp only [Act.put, aa, ac, ae]
  refine az rfl (am rfl (ev rfl) faHp1) ?_
  simp only [Act.put, aa, ac, ae]
  refine az rfl (au rfl (ev rfl) (ldU64 (PHo.c1 HJ.out.hul))) ?_
  simp only [Act.put, aa, ac, ae]
  refine az rfl (ag rfl (ev rfl)) ?_
  simp only [Act.put, aa, ac, ae]
  refine az rfl (aQ rfl (ev rfl) (aT HL.out.h3)) ?_
  simp only [Act.put, aa, ac, ae]
  refine az rfl (exec_bldSp rfl (ev rfl) (ev rfl) (ev rfl)) ?_
  simp only [Act.put, aa, ac, ae]
  refine wpStill_nil ?_
  change wpList _ _ _ _ _ (World.drew _)
  refine ak rfl (ap Tryz.call83 rfl (evc (ev rfl) (evc (ev rfl) (evc (ev rfl) evn)))) ?_
  refine (HLAY.out).mono ?_
  rintro e w2 ⟨rfl, l2⟩
  have HL2 := Lib.hid l2
  clear l2
  refine ⟨_, rfl, ?_⟩
  simp only [Act.put, aa, ac, ae]
  refine af rfl (aj rfl (ev rfl)) ?_
  simp only [Act.put, aa, ac, ae]
  refine wpList_nil ?_
  by_cases h9 : E = 9
  rotate_left 1
  · have H9 : Hid ((E == 9) = false) := Lib.hid (beq_eq_false_iff_ne.2 h9)
    have HZZ : Hid (z = R) := Lib.hid (by rw [← HZ.out, if_neg h9])
    clear h9
    go_upto_region 2 with fail
    refine wp_region_lit ?_
    refine af rfl (ag rfl (ev rfl)) ?_
    simp only [Act.put, aa, ac, ae]
    refine af (v := .bool false) rfl (ar false rfl (ev rfl) evk H9.out) ?_
    simp only [Act.put, aa, ac, ae]
    refine wpList_nil ?_
    go_upto_region 4 with fail
    refine wp_region_lit ?_
    refine af rfl (ag rfl (ev rfl)) ?_
    simp only [Act.put, aa, ac, ae]
    refine af rfl (aj rfl (ev rfl)) ?_
    simp only [Act.put, aa, ac, ae]
    refine wpList_nil ?_
    go_wp2_with fail
    go_ret
    exact ⟨rfl, by rw [HZZ.out]; exact HL2.out⟩
  subst h9
  have HZZ : Hid (z = y) := Lib.hid (by rw [← HZ.out, if_pos rfl])
  go_upto_region 2 with fail
  refine wp_region_lit ?_
  refine af rfl (ag rfl (ev rfl)) ?_
  simp only [Act.put, aa, ac, ae]
  refine af (v := .bool true) rfl (ar true rfl (ev rfl) evk rfl) ?_
  simp only [Act.put, aa, ac, ae]
  refine wpList_nil ?_
  obtain ⟨lb, hlb⟩ : ∃ lb, losB R (m : Int) = lb := ⟨_, rfl⟩
  have HLB := Lib.hid hlb
  clear hlb
  go_upto_region 3 with fail
  refine wp_region_lit ?_
  refine af rfl (aQ rfl (ev rfl) HL2.out.h3.range) ?_
  simp only [Act.put, aa, ac, ae]
  refine af rfl (ag rfl (ev rfl)) ?_
  simp only [Act.put, aa, ac, ae]
  refine ak rfl (ap Tryz.call78 rfl (evc (ev rfl) (evc (ev rfl) evn))) ?_
  refine (plose_v w2 HY.out HLB.out).mono ?_
  rintro e w3 ⟨rfl, b3'⟩
  have HL3 := Lib.hid (HL2.out.below b3')
  clear b3'
  refine ⟨_, rfl, ?_⟩
  simp only [Act.put, aa, ac, ae]
  refine af rfl (ag rfl (ev rfl)) ?_
  simp only [Act.put, aa, ac, ae]
  refine af rfl (ax rfl (ev rfl) rfl) ?_
  simp only [Act.put, aa, ac, ae]
  refine af rfl (ax rfl (ev rfl) rfl) ?_
  simp only [Act.put, aa, ac, ae]
  refine av rfl (cu rfl (ev rfl) (ev rfl) HL3.out.h3) ?_
  simp only [Act.put, aa, ac, ae]
  have HL4 := Lib.hid (HL3.out.putR y)
  generalize putW w3 b3 y = w4 at *
  refine wpList_nil ?_
  go_upto_region 4 with fail
  refine wp_region_lit ?_
  refine af rfl (ag rfl (ev rfl)) ?_
  simp only [Act.put, aa, ac, ae]
  refine af rfl (aj rfl (ev rfl)) ?_
  simp only [Act.put, aa, ac, ae]
  refine wpList_nil ?_
  go_wp2_with fail
  go_ret
  exact ⟨rfl, by rw [HZZ.out]; exact HL4.out⟩
end
end Go.Proofs.YtheponmdbmloaaaGreatDoor
