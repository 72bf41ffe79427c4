/-
  PlanParity's walk.
-/
import Derived.Test.YtplanbjjfaihbaaPnL
import Derived.Test.YtplanbjjfaihbaaPnW
namespace Go.Proofs.Ytplanbjjfaihbaa
open Go.RowKit
set_option linter.unusedVariables false
set_option linter.unusedSimpArgs false
set_option maxRecDepth 100000

theorem cel_lay (w : World) (c : Blk) : ∃ w2 q, w.alloc (.cells (cel c).toArray 34) = w2 ∧ w.heap.size = q ∧ CelB w2 q c ∧ Below w.heap.size w w2 := ⟨_, _, rfl, rfl, CelB.new w c, (Below.refl _ _).alloc (Nat.le_refl _) _⟩
theorem pparity_v {x : Blk} {e0 : Int} (z : Int) (A A1 A2 : Option Addr) (n c n1 c1 n2 c2 : Nat) (l : List Bool) (a b : List Blk) (p : Blk) (w : World) (hx : parB z l a b p = x) (he : parE z l a b = e0) (hl : RdE BoE w w.heap.size A n l) (ha : RdB w w.heap.size A1 n1 a) (hb : RdB w w.heap.size A2 n2 b) (hn : n ≤ maxLen) :
    Calls Try.prog 12 #[.int .u8 z, .slice A n c, .slice A1 n1 c1, .slice A2 n2 c2, blk p] w fun e w' => e = .returned (.tuple #[blk x, .int .i64 e0]) ∧ Below w.heap.size w w' := by
  subst hx he
  exact pparity z A A1 A2 n c n1 c1 n2 c2 w.heap.size l a b p w hl ha hb (Nat.le_refl _) hn
theorem rparity_v {x : Blk} {e0 : Int} (z : Int) (A A1 A2 : Option Addr) (n c n1 c1 n2 c2 : Nat) (l : List Bool) (a b : List Blk) (p : Blk) (w : World) (hx : parB z l a b p = x) (he : parE z l a b = e0) (hl : RdE BoE w w.heap.size A n l) (ha : RdB w w.heap.size A1 n1 a) (hb : RdB w w.heap.size A2 n2 b) (hn : n ≤ maxLen) :
    Calls Try.prog 13 #[.int .u8 z, .slice A n c, .slice A1 n1 c1, .slice A2 n2 c2, blk p] w fun e w' => e = .returned (.tuple #[blk x, .int .i64 e0]) ∧ Below w.heap.size w w' := by
  subst hx he
  exact rparity z A A1 A2 n c n1 c1 n2 c2 w.heap.size l a b p w hl ha hb (Nat.le_refl _) hn
theorem Upto.rdb {w w' : World} {B n : Nat} {A : Option Addr} {l : List Blk} (h : Upto B w w') (hl : RdB w B A n l) : RdB w' w'.heap.size A n l := h.rd (E := BlkE) hl
set_option maxHeartbeats 2000000 in
theorem wplanParity (z : Int) (A A1 A2 : Option Addr) (n c n1 c1 n2 c2 : Nat) (l : List Bool) (a b : List Blk) (p : Blk) (w : World) (hl : RdE BoE w w.heap.size A n l) (ha : RdB w w.heap.size A1 n1 a) (hbb : RdB w w.heap.size A2 n2 b) (hn : n ≤ maxLen) :
    Calls Try.prog 4 #[.int .u8 z, .slice A n c, .slice A1 n1 c1, .slice A2 n2 c2, blk p] w fun e w' => e = .returned (.bool true) ∧ Below w.heap.size w w' := by
  have HW := Lib.hid (Upto.refl w)
  have HL := Lib.hid hl
  have HA := Lib.hid ha
  have HB := Lib.hid hbb
  have HN := Lib.hid hn
  obtain ⟨x, hx⟩ : ∃ x, parB z l a b p = x := ⟨_, rfl⟩
  obtain ⟨e0, he⟩ : ∃ x, parE z l a b = x := ⟨_, rfl⟩
  have HX := Lib.hid hx
  have HE := Lib.hid he
  obtain ⟨w1, q1, hw_, hq_, hp, hb⟩ := cel_lay w p
  have HWn := Lib.hid (HW.out.to hb)
  clear HW
  have HW := HWn
  clear HWn
  have C1 := Lib.hid hp
  have HWE := Lib.hid hw_
  have HQE := Lib.hid hq_
  clear hl ha hbb hn hx he hw_ hq_ hp hb
  go_enter Try.func4, Try.ntmps4
  go_upto_region 1 with (first | (refine wpList_val rfl (exec_box rfl rfl) ?_) | fail)
  rw [HWE.out, HQE.out]
  refine wp_region_lit ?_
  refine wpList_valn rfl (exec_mv rfl (ev rfl)) ?_
  simp only [Act.put, List.setIfInBounds_toArray, List.set_cons_succ, List.set_cons_zero]
  refine wpList_valn rfl (exec_mv rfl (ev rfl)) ?_
  simp only [Act.put, List.setIfInBounds_toArray, List.set_cons_succ, List.set_cons_zero]
  refine wpList_valn rfl (exec_mv rfl (ev rfl)) ?_
  simp only [Act.put, List.setIfInBounds_toArray, List.set_cons_succ, List.set_cons_zero]
  refine wpList_valn rfl (exec_mv rfl (ev rfl)) ?_
  simp only [Act.put, List.setIfInBounds_toArray, List.set_cons_succ, List.set_cons_zero]
  refine wpList_valn rfl (exec_load rfl (ev rfl) C1.out.rng) ?_
  simp only [Act.put, List.setIfInBounds_toArray, List.set_cons_succ, List.set_cons_zero]
  refine wpList_call rfl (exec_cl Try.call12 rfl (evc (ev rfl) (evc (ev rfl) (evc (ev rfl) (evc (ev rfl) (evc (ev rfl) evn)))))) ?_
  refine (pparity_v z A A1 A2 n c n1 c1 n2 c2 l a b p w1 HX.out HE.out (HW.out.rd HL.out) (HW.out.rdb HA.out) (HW.out.rdb HB.out) HN.out).mono ?_
  rintro e w2 ⟨rfl, hb⟩
  have HWn := Lib.hid (HW.out.to hb)
  clear HW
  have HW := HWn
  clear HWn
  have C1n := Lib.hid (C1.out.below hb)
  clear C1
  have C1 := C1n
  clear C1n
  clear hb
  refine ⟨_, rfl, ?_⟩
  simp only [Act.put, List.setIfInBounds_toArray, List.set_cons_succ, List.set_cons_zero]
  refine wpList_valn rfl (exec_mv rfl (ev rfl)) ?_
  simp only [Act.put, List.setIfInBounds_toArray, List.set_cons_succ, List.set_cons_zero]
  refine wpList_valn rfl (exec_ext rfl (ev rfl) rfl) ?_
  simp only [Act.put, List.setIfInBounds_toArray, List.set_cons_succ, List.set_cons_zero]
  refine wpList_valn rfl (exec_ext rfl (ev rfl) rfl) ?_
  simp only [Act.put, List.setIfInBounds_toArray, List.set_cons_succ, List.set_cons_zero]
  refine wpList_valn rfl (exec_alloc rfl) ?_
  simp only [Act.put, List.setIfInBounds_toArray, List.set_cons_succ, List.set_cons_zero]
  refine wpList_nuln rfl (exec_fill rfl (ev rfl) (ev rfl)) ?_
  simp only [Act.put, List.setIfInBounds_toArray, List.set_cons_succ, List.set_cons_zero]
  obtain ⟨w3, r1, hw_, hq_, hp, hb⟩ := cel_lay w2 x
  rw [hw_, hq_]
  have HWn := Lib.hid (HW.out.to hb)
  clear HW
  have HW := HWn
  clear HWn
  have C1n := Lib.hid (C1.out.below hb)
  clear C1
  have C1 := C1n
  clear C1n
  have C2 := Lib.hid hp
  clear hw_ hq_ hp hb
  refine wpList_valn rfl (exec_as rfl (ev rfl)) ?_
  simp only [Act.put, List.setIfInBounds_toArray, List.set_cons_succ, List.set_cons_zero]
  refine wpList_nil ?_
  go_upto_region 2 with fail
  refine wp_region_lit ?_
  refine wpList_valn rfl (exec_mv rfl (ev rfl)) ?_
  simp only [Act.put, List.setIfInBounds_toArray, List.set_cons_succ, List.set_cons_zero]
  refine wpList_valn rfl (exec_mv rfl (ev rfl)) ?_
  simp only [Act.put, List.setIfInBounds_toArray, List.set_cons_succ, List.set_cons_zero]
  refine wpList_valn rfl (exec_mv rfl (ev rfl)) ?_
  simp only [Act.put, List.setIfInBounds_toArray, List.set_cons_succ, List.set_cons_zero]
  refine wpList_valn rfl (exec_mv rfl (ev rfl)) ?_
  simp only [Act.put, List.setIfInBounds_toArray, List.set_cons_succ, List.set_cons_zero]
  refine wpList_valn rfl (exec_load rfl (ev rfl) C1.out.rng) ?_
  simp only [Act.put, List.setIfInBounds_toArray, List.set_cons_succ, List.set_cons_zero]
  refine wpList_call rfl (exec_cl Try.call13 rfl (evc (ev rfl) (evc (ev rfl) (evc (ev rfl) (evc (ev rfl) (evc (ev rfl) evn)))))) ?_
  refine (rparity_v z A A1 A2 n c n1 c1 n2 c2 l a b p w3 HX.out HE.out (HW.out.rd HL.out) (HW.out.rdb HA.out) (HW.out.rdb HB.out) HN.out).mono ?_
  rintro e w4 ⟨rfl, hb⟩
  have HWn := Lib.hid (HW.out.to hb)
  clear HW
  have HW := HWn
  clear HWn
  have C1n := Lib.hid (C1.out.below hb)
  clear C1
  have C1 := C1n
  clear C1n
  have C2n := Lib.hid (C2.out.below hb)
  clear C2
  have C2 := C2n
  clear C2n
  clear hb
  refine ⟨_, rfl, ?_⟩
  simp only [Act.put, List.setIfInBounds_toArray, List.set_cons_succ, List.set_cons_zero]
  refine wpList_valn rfl (exec_mv rfl (ev rfl)) ?_
  simp only [Act.put, List.setIfInBounds_toArray, List.set_cons_succ, List.set_cons_zero]
  refine wpList_valn rfl (exec_ext rfl (ev rfl) rfl) ?_
  simp only [Act.put, List.setIfInBounds_toArray, List.set_cons_succ, List.set_cons_zero]
  refine wpList_valn rfl (exec_ext rfl (ev rfl) rfl) ?_
  simp only [Act.put, List.setIfInBounds_toArray, List.set_cons_succ, List.set_cons_zero]
  refine wpList_valn rfl (exec_alloc rfl) ?_
  simp only [Act.put, List.setIfInBounds_toArray, List.set_cons_succ, List.set_cons_zero]
  refine wpList_nuln rfl (exec_fill rfl (ev rfl) (ev rfl)) ?_
  simp only [Act.put, List.setIfInBounds_toArray, List.set_cons_succ, List.set_cons_zero]
  obtain ⟨w5, r2, hw_, hq_, hp, hb⟩ := cel_lay w4 x
  rw [hw_, hq_]
  have HWn := Lib.hid (HW.out.to hb)
  clear HW
  have HW := HWn
  clear HWn
  have C1n := Lib.hid (C1.out.below hb)
  clear C1
  have C1 := C1n
  clear C1n
  have C2n := Lib.hid (C2.out.below hb)
  clear C2
  have C2 := C2n
  clear C2n
  have C3 := Lib.hid hp
  clear hw_ hq_ hp hb
  refine wpList_valn rfl (exec_as rfl (ev rfl)) ?_
  simp only [Act.put, List.setIfInBounds_toArray, List.set_cons_succ, List.set_cons_zero]
  refine wpList_nil ?_
  go_upto_region 3 with fail
  refine wp_region_lit ?_
  refine wpList_valn rfl (exec_load rfl (ev rfl) C2.out.rng) ?_
  simp only [Act.put, List.setIfInBounds_toArray, List.set_cons_succ, List.set_cons_zero]
  refine wpList_valn rfl (exec_load rfl (ev rfl) C3.out.rng) ?_
  simp only [Act.put, List.setIfInBounds_toArray, List.set_cons_succ, List.set_cons_zero]
  refine wpList_valn (v := .bool true) rfl (exec_eqlB true rfl (ev rfl) (ev rfl) (decide_eq_true rfl)) ?_
  simp only [Act.put, List.setIfInBounds_toArray, List.set_cons_succ, List.set_cons_zero]
  refine wpList_valn (v := .bool true) rfl (exec_mv rfl (ev rfl)) ?_
  simp only [Act.put, List.setIfInBounds_toArray, List.set_cons_succ, List.set_cons_zero]
  refine wpList_val (wanted_of rfl rfl rfl rfl) (exec_mv rfl (ev rfl)) ?_
  simp only [Act.put, List.setIfInBounds_toArray, List.set_cons_succ, List.set_cons_zero]
  refine wpList_val (wanted_of rfl rfl rfl rfl) (exec_mv rfl (ev rfl)) ?_
  simp only [Act.put, List.setIfInBounds_toArray, List.set_cons_succ, List.set_cons_zero]
  refine wpList_val (v := .bool true) (wanted_of rfl rfl rfl rfl) (exec_eqInt true rfl (ev rfl) (ev rfl) (beq_self_eq_true _)) ?_
  simp only [Act.put, List.setIfInBounds_toArray, List.set_cons_succ, List.set_cons_zero]
  refine wpList_valn (v := .bool true) rfl (exec_pt rfl (ev rfl) (ev rfl)) ?_
  simp only [Act.put, List.setIfInBounds_toArray, List.set_cons_succ, List.set_cons_zero]
  refine wpList_valn (v := .bool true) rfl (exec_mv rfl (ev rfl)) ?_
  simp only [Act.put, List.setIfInBounds_toArray, List.set_cons_succ, List.set_cons_zero]
  refine wpList_call (wanted_of rfl rfl rfl rfl) (exec_cl Try.call11 rfl evn) ?_
  refine (nlives w5).mono ?_
  rintro e w6 ⟨rfl, hb⟩
  have HWn := Lib.hid (HW.out.to hb)
  clear HW
  have HW := HWn
  clear HWn
  have C1n := Lib.hid (C1.out.below hb)
  clear C1
  have C1 := C1n
  clear C1n
  have C2n := Lib.hid (C2.out.below hb)
  clear C2
  have C2 := C2n
  clear C2n
  have C3n := Lib.hid (C3.out.below hb)
  clear C3
  have C3 := C3n
  clear C3n
  clear hb
  refine ⟨_, rfl, ?_⟩
  simp only [Act.put, List.setIfInBounds_toArray, List.set_cons_succ, List.set_cons_zero]
  refine wpList_valn (v := .bool true) rfl (exec_pt rfl (ev rfl) (ev rfl)) ?_
  simp only [Act.put, List.setIfInBounds_toArray, List.set_cons_succ, List.set_cons_zero]
  refine wpList_valn (v := .bool true) rfl (exec_as rfl (ev rfl)) ?_
  simp only [Act.put, List.setIfInBounds_toArray, List.set_cons_succ, List.set_cons_zero]
  refine wpList_nil ?_
  go_wp2_with fail
  go_ret
  exact ⟨rfl, HW.out.1⟩
end Go.Proofs.Ytplanbjjfaihbaa
