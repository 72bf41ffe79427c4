/-
  Plans in memory, side by side with what came in; ashlarlaw16.lives: true.
-/
import Derived.Test.YtplanbjjfaihbaaPnV
namespace Go.Proofs.Ytplanbjjfaihbaa
open Go.RowKit
set_option linter.unusedVariables false
set_option linter.unusedSimpArgs false
set_option maxRecDepth 100000


/-- What was laid from world w on; nothing of w turned. -/
def Upto (B : Nat) (w w' : World) : Prop := Below B w w' ∧ B ≤ w'.heap.size
section
variable {w w' w1 w2 : World} {B b k n m c : Nat} {A : Option Addr} {z : Int} {r : List Int}
theorem Upto.refl (w : World) : Upto w.heap.size w w := ⟨Below.refl _ _, Nat.le_refl _⟩
theorem Upto.to (h : Upto B w w1) (hb : Below w1.heap.size w1 w2) : Upto B w w2 := ⟨h.1.trans (hb.mono h.2), Nat.le_trans h.2 hb.size⟩
theorem Upto.rd {α : Type} {E : Elt α} {l : List α} (h : Upto B w w') (hl : RdE E w B A n l) : RdE E w' w'.heap.size A n l := (hl.below h.1).more h.2
theorem RdE.headP {α : Type} {E : Elt α} {l : List α} (h : RdE E w B A n l) (hk : k ≤ n) : RdE E w B A k (l.take k) :=
  ⟨by rw [List.length_take, h.1]; omega, fun j hj => by
    obtain ⟨b, off, e, hb, hc⟩ := h.2 j (by omega)
    refine ⟨b, off, e, hb, ?_⟩
    rwa [show (l.take k).getD j E.d = l.getD j E.d from by rw [List.getD, List.getD, List.getElem?_take_of_lt hj]]⟩
/-- A plan in memory: its block, and what it reads. -/
def PlR (w : World) (b : Nat) (z : Int) (A : Option Addr) (n c : Nat) (r : List Int) : Prop := PlAt w b z A n c ∧ RdE IntE w w.heap.size A n r
theorem PlR.below (h : PlR w b z A n c r) (hb : Below w.heap.size w w') : PlR w' b z A n c r := ⟨h.1.below hb, h.2.step hb⟩
theorem PlR.rng (h : PlR w b z A n c r) : w.rangeAt b 0 (plC z (.slice A n c)) := rng_at h.1
theorem pl_lay {B0 : Nat} (hm : MadeE IntE w B0 (.slice A n c) r) : ∃ w2 q, w.alloc (.cells (plC z (.slice A n c)).toArray 25) = w2 ∧ w.heap.size = q ∧ PlR w2 q z A n c r ∧ Below w.heap.size w w2 ∧ MadeE IntE w2 B0 (.slice A n c) r := by
  have hb := (Below.refl w.heap.size w).alloc (Nat.le_refl _) (.cells (plC z (.slice A n c)).toArray 25)
  exact ⟨_, _, rfl, rfl, ⟨heap_alloc_new w _, (hm.below hb).rd⟩, hb, hm.below hb⟩
end
section
variable {ρ : Operand → Value} {o : Oper} {x y : Operand} {w : World} {z y' : Int} {A : Option Addr} {n c b : Nat}
theorem exec_fillPl (ho : o.op = .store 25 x y) (hx : ρ x = .pointer (some ⟨w.heap.size, 0, none⟩)) (hy : ρ y = .agg (plC z (.slice A n c)).toArray) : (execOp ρ o).run Try.prog (w.alloc (.cells (plC 0 (.slice none 0 0)).toArray 25)) = .ok .skip (w.alloc (.cells (plC z (.slice A n c)).toArray 25)) :=
  exec_fillT (cs := (plC z (.slice A n c)).toArray) (by kernel_rfl) rfl (by simp [plC]; exact ⟨rfl, rfl⟩) ho hx hy
theorem exec_loadPl {r : List Int} (ho : o.op = .load 25 x) (hx : ρ x = .pointer (some ⟨b, 0, none⟩)) (h : PlR w b z A n c r) : (execOp ρ o).run Try.prog w = .ok (.value (.agg (plC z (.slice A n c)).toArray)) w :=
  exec_loadT (cs := plC z (.slice A n c)) Try.underlying25 rfl (by kernel_rfl) ho hx h.rng
theorem run_mk2I {a b : Int} : (Instr.buildSlice 23 2 #[(0, .int .i64 a), (1, .int .i64 b)]).run Try.prog w = .ok (.slice (some ⟨w.heap.size, 0, none⟩) 2 2) (w.alloc (.cells #[.int .i64 a, .int .i64 b] 3)) := by kernel_rfl
theorem exec_mk2I {a b : Int} (ho : o.op = .buildSlice 23 2 #[(0, x), (1, y)]) (hx : ρ x = .int .i64 a) (hy : ρ y = .int .i64 b) : (execOp ρ o).run Try.prog w = .ok (.value (.slice (some ⟨w.heap.size, 0, none⟩) 2 2)) (w.alloc (.cells #[.int .i64 a, .int .i64 b] 3)) := by
  unfold execOp
  simp only [ho, hx, hy, List.map_toArray, List.map_cons, List.map_nil, Sem.run_bind, run_mk2I, Result.andThen_ok, Sem.run_pure]
end
theorem pplan_v {z e0 : Int} {r : List Int} (A B' : Option Addr) (n c m c' : Nat) (l k : List Bool) (par : Bool) (lost : Int) (w : World) (hz : plW l k par lost = z) (he : plE l k lost = e0) (hr : plR l k par lost = r) (hl : RdE BoE w w.heap.size A n l) (hk : RdE BoE w w.heap.size B' m k) (hn : n ≤ maxLen ∧ m ≤ maxLen) :
    Calls Try.prog 8 #[.slice A n c, .slice B' m c', .bool par, .int .i64 lost] w fun e w' => ∃ A1 c1, e = .returned (.tuple #[.agg (plC z (.slice A1 r.length c1)).toArray, .int .i64 e0]) ∧ MadeE IntE w' w.heap.size (.slice A1 r.length c1) r ∧ Below w.heap.size w w' := by
  refine (pplan A B' n c m c' w.heap.size w.heap.size l k par lost w.heap.size w (Lib.hid rfl) hl hk ⟨Nat.le_refl _, Nat.le_refl _⟩ hn).mono ?_
  rintro e w' ⟨v, rfl, hm, hb⟩
  rw [hr] at hm
  obtain ⟨A1, c1, rfl, _, _, _⟩ := hm.open_ rfl
  exact ⟨A1, c1, by rw [hz, he], hm, hb⟩
theorem rplan_v {z e0 : Int} {r : List Int} (A B' : Option Addr) (n c m c' : Nat) (l k : List Bool) (par : Bool) (lost : Int) (w : World) (hz : plW l k par lost = z) (he : plE l k lost = e0) (hr : plR l k par lost = r) (hl : RdE BoE w w.heap.size A n l) (hk : RdE BoE w w.heap.size B' m k) (hn : n ≤ maxLen ∧ m ≤ maxLen) :
    Calls Try.prog 9 #[.slice A n c, .slice B' m c', .bool par, .int .i64 lost] w fun e w' => ∃ A1 c1, e = .returned (.tuple #[.agg (plC z (.slice A1 r.length c1)).toArray, .int .i64 e0]) ∧ MadeE IntE w' w.heap.size (.slice A1 r.length c1) r ∧ Below w.heap.size w w' := by
  refine (rplan A B' n c m c' w.heap.size w.heap.size l k par lost w.heap.size w (Lib.hid rfl) hl hk ⟨Nat.le_refl _, Nat.le_refl _⟩ hn).mono ?_
  rintro e w' ⟨v, rfl, hm, hb⟩
  rw [hr] at hm
  obtain ⟨A1, c1, rfl, _, _, _⟩ := hm.open_ rfl
  exact ⟨A1, c1, by rw [hz, he], hm, hb⟩
theorem rsame_v {t : Bool} {A B : Option Addr} {n m c d : Nat} {z y : Int} {a b : List Int} (w : World) (ht : decide (z = y ∧ a = b) = t) (ha : RdE IntE w w.heap.size A n a) (hb : RdE IntE w w.heap.size B m b) (hn : n ≤ 100000) :
    Calls Try.prog 10 #[.agg (plC z (.slice A n c)).toArray, .agg (plC y (.slice B m d)).toArray] w fun e w' => e = .returned (.bool t) ∧ Below w.heap.size w w' := by
  subst ht
  exact rsame A B n m c d w.heap.size w.heap.size z y a b w ha hb ⟨Nat.le_refl _, Nat.le_refl _⟩ hn
theorem plR_len (l k : List Bool) (par : Bool) (lost : Int) : (plR l k par lost).length ≤ 100 := by
  unfold plR
  split
  · rename_i hq
    have h := of_decide_eq_true hq
    have h1 := redN_len (w := l) (k := k) (o := false) l.length
    have h2 := redN_len (w := l) (k := k) (o := true) l.length
    split
    · simp
    · split
      · simp
      · split
        · unfold redR redL; split
          · simp
          · omega
        · unfold delL redL; split
          · simp
          · split
            · omega
            · rw [List.length_append, List.length_singleton]; omega
  · simp
theorem run_mk0Q {w : World} : (Instr.makeSlice 22 (.int .i64 4) (.int .i64 4)).run Try.prog w = .ok (.slice (some ⟨w.heap.size, 0, none⟩) 4 4) (w.alloc (.cells #[.bool false, .bool false, .bool false, .bool false] 4)) := by kernel_rfl
theorem run_mkQ3 {w : World} : (Instr.buildSlice 22 3 #[(0, .bool true), (1, .bool false), (2, .bool false)]).run Try.prog w = .ok (.slice (some ⟨w.heap.size, 0, none⟩) 3 3) (w.alloc (.cells #[.bool true, .bool false, .bool false] 4)) := by kernel_rfl
theorem exec_mkQ3 {ρ : Operand → Value} {o : Oper} {w : World} {x0 x1 x2 : Operand} (ho : o.op = .buildSlice 22 3 #[(0, x0), (1, x1), (2, x2)]) (h0 : ρ x0 = .bool true) (h1 : ρ x1 = .bool false) (h2 : ρ x2 = .bool false) : (execOp ρ o).run Try.prog w = .ok (.value (.slice (some ⟨w.heap.size, 0, none⟩) 3 3)) (w.alloc (.cells #[.bool true, .bool false, .bool false] 4)) := by
  unfold execOp
  simp only [ho, h0, h1, h2, List.map_toArray, List.map_cons, List.map_nil, Sem.run_bind, run_mkQ3, Result.andThen_ok, Sem.run_pure]
theorem run_mkQ4 {w : World} : (Instr.buildSlice 22 4 #[(0, .bool true), (1, .bool false), (2, .bool false), (3, .bool false)]).run Try.prog w = .ok (.slice (some ⟨w.heap.size, 0, none⟩) 4 4) (w.alloc (.cells #[.bool true, .bool false, .bool false, .bool false] 4)) := by kernel_rfl
theorem exec_mkQ4 {ρ : Operand → Value} {o : Oper} {w : World} {x0 x1 x2 x3 : Operand} (ho : o.op = .buildSlice 22 4 #[(0, x0), (1, x1), (2, x2), (3, x3)]) (h0 : ρ x0 = .bool true) (h1 : ρ x1 = .bool false) (h2 : ρ x2 = .bool false) (h3 : ρ x3 = .bool false) : (execOp ρ o).run Try.prog w = .ok (.value (.slice (some ⟨w.heap.size, 0, none⟩) 4 4)) (w.alloc (.cells #[.bool true, .bool false, .bool false, .bool false] 4)) := by
  unfold execOp
  simp only [ho, h0, h1, h2, h3, List.map_toArray, List.map_cons, List.map_nil, Sem.run_bind, run_mkQ4, Result.andThen_ok, Sem.run_pure]
theorem run_mkQ2 {w : World} : (Instr.buildSlice 22 2 #[(0, .bool true), (1, .bool true)]).run Try.prog w = .ok (.slice (some ⟨w.heap.size, 0, none⟩) 2 2) (w.alloc (.cells #[.bool true, .bool true] 4)) := by kernel_rfl
theorem exec_mkQ2 {ρ : Operand → Value} {o : Oper} {w : World} {x0 x1 : Operand} (ho : o.op = .buildSlice 22 2 #[(0, x0), (1, x1)]) (h0 : ρ x0 = .bool true) (h1 : ρ x1 = .bool true) : (execOp ρ o).run Try.prog w = .ok (.value (.slice (some ⟨w.heap.size, 0, none⟩) 2 2)) (w.alloc (.cells #[.bool true, .bool true] 4)) := by
  unfold execOp
  simp only [ho, h0, h1, List.map_toArray, List.map_cons, List.map_nil, Sem.run_bind, run_mkQ2, Result.andThen_ok, Sem.run_pure]
theorem run_mkQ5 {w : World} : (Instr.buildSlice 22 2 #[(0, .bool true), (1, .bool false)]).run Try.prog w = .ok (.slice (some ⟨w.heap.size, 0, none⟩) 2 2) (w.alloc (.cells #[.bool true, .bool false] 4)) := by kernel_rfl
theorem exec_mkQ5 {ρ : Operand → Value} {o : Oper} {w : World} {x0 x1 : Operand} (ho : o.op = .buildSlice 22 2 #[(0, x0), (1, x1)]) (h0 : ρ x0 = .bool true) (h1 : ρ x1 = .bool false) : (execOp ρ o).run Try.prog w = .ok (.value (.slice (some ⟨w.heap.size, 0, none⟩) 2 2)) (w.alloc (.cells #[.bool true, .bool false] 4)) := by
  unfold execOp
  simp only [ho, h0, h1, List.map_toArray, List.map_cons, List.map_nil, Sem.run_bind, run_mkQ5, Result.andThen_ok, Sem.run_pure]
theorem exec_mk0Q {ρ : Operand → Value} {o : Oper} {w : World} {x y : Operand} (ho : o.op = .makeSlice 22 x y) (hx : ρ x = .int .i64 4) (hy : ρ y = .int .i64 4) : (execOp ρ o).run Try.prog w = .ok (.value (.slice (some ⟨w.heap.size, 0, none⟩) 4 4)) (w.alloc (.cells #[.bool false, .bool false, .bool false, .bool false] 4)) := by
  unfold execOp
  simp only [ho, hx, hy, Sem.run_bind, run_mk0Q, Result.andThen_ok, Sem.run_pure]
set_option maxHeartbeats 4000000 in
theorem nlives (w : World) : Calls Try.prog 11 #[] w fun e w' => e = .returned (.bool true) ∧ Below w.heap.size w w' := by
  have HW := Lib.hid (Upto.refl w)
  have hb0 := (Below.refl w.heap.size w).alloc (Nat.le_refl _) (.cells #[.bool false, .bool false, .bool false, .bool false] 4)
  have hr0 := rdE_new (E := BoE) (l := [false, false, false, false]) w #[.bool false, .bool false, .bool false, .bool false] 4 rfl
  have hs0 : (w.alloc (.cells #[.bool false, .bool false, .bool false, .bool false] 4)).heap.size = w.heap.size + 1 := World.size_alloc ..
  rw [← hs0] at hr0
  go_enter Try.func11, Try.ntmps11
  go_upto_region 1 with fail
  refine wp_region_lit ?_
  refine wpList_valn rfl (exec_mk0Q rfl evk evk) ?_
  simp only [Act.put, List.setIfInBounds_toArray, List.set_cons_succ, List.set_cons_zero]
  refine wpList_valn rfl (exec_as rfl (ev rfl)) ?_
  simp only [Act.put, List.setIfInBounds_toArray, List.set_cons_succ, List.set_cons_zero]
  refine wpList_nil ?_
  obtain ⟨q0, hq0⟩ : ∃ q, w.heap.size = q := ⟨_, rfl⟩
  obtain ⟨w1, hw0⟩ : ∃ x, w.alloc (.cells #[.bool false, .bool false, .bool false, .bool false] 4) = x := ⟨_, rfl⟩
  rw [hw0] at hb0 hr0
  rw [hw0, hq0]
  rw [hq0] at hr0
  have HR := Lib.hid hr0
  have HWn := Lib.hid (HW.out.to hb0)
  clear HW
  have HW := HWn
  clear HWn
  clear hb0 hr0 hs0 hq0 hw0
  go_upto_region 2 with fail
  refine wp_region_lit ?_
  refine wpList_valn rfl (exec_mkQ3 rfl evk evk evk) ?_
  simp only [Act.put, List.setIfInBounds_toArray, List.set_cons_succ, List.set_cons_zero]
  obtain ⟨w2, hwa⟩ : ∃ x, w1.alloc (.cells #[.bool true, .bool false, .bool false] 4) = x := ⟨_, rfl⟩
  obtain ⟨g2, hga⟩ : ∃ q, w1.heap.size = q := ⟨_, rfl⟩
  have hba : Below w1.heap.size w1 w2 := by rw [← hwa]; exact (Below.refl _ _).alloc (Nat.le_refl _) _
  have hra : RdE BoE w2 w2.heap.size (some ⟨g2, 0, none⟩) 3 [true, false, false] := by rw [← hwa, ← hga, World.size_alloc]; exact rdE_new (E := BoE) (l := [true, false, false]) w1 #[.bool true, .bool false, .bool false] 4 rfl
  rw [hwa, hga]
  have HWn := Lib.hid (HW.out.to hba)
  clear HW
  have HW := HWn
  clear HWn
  have HRn := Lib.hid (HR.out.step hba)
  clear HR
  have HR := HRn
  clear HRn
  have HA := Lib.hid hra
  clear hwa hga hba hra
  refine wpList_valn rfl (exec_mv rfl (ev rfl)) ?_
  simp only [Act.put, List.setIfInBounds_toArray, List.set_cons_succ, List.set_cons_zero]
  refine wpList_valn rfl (exec_headE (E := BoE) (k := 3) rfl (ev rfl) evk (by omega)) ?_
  simp only [Act.put, List.setIfInBounds_toArray, List.set_cons_succ, List.set_cons_zero]
  refine wpList_call rfl (exec_cl Try.call8 rfl (evc (ev rfl) (evc (ev rfl) (evc evk (evc evk evn))))) ?_
  refine (pplan_v (some ⟨g2, 0, none⟩) (some ⟨q0, 0, none⟩) 3 3 3 4 [true, false, false] [false, false, false] false (-1) w2 (z := 3) (e0 := 0) (r := [1, 2]) (by decide) (by decide) (by decide) HA.out (HR.out.headP (k := 3) (by decide)) ⟨by unfold maxLen; omega, by unfold maxLen; omega⟩).mono ?_
  rintro e w3 ⟨A1', c1', rfl, hm, hb⟩
  have HWn := Lib.hid (HW.out.to hb)
  clear HW
  have HW := HWn
  clear HWn
  have HRn := Lib.hid (HR.out.step hb)
  clear HR
  have HR := HRn
  clear HRn
  have HMx := Lib.hid hm
  clear hm hb
  refine ⟨_, rfl, ?_⟩
  simp only [Act.put, List.setIfInBounds_toArray, List.set_cons_succ, List.set_cons_zero]
  refine wpList_valn rfl (exec_mv rfl (ev rfl)) ?_
  simp only [Act.put, List.setIfInBounds_toArray, List.set_cons_succ, List.set_cons_zero]
  refine wpList_valn rfl (exec_ext rfl (ev rfl) rfl) ?_
  simp only [Act.put, List.setIfInBounds_toArray, List.set_cons_succ, List.set_cons_zero]
  refine wpList_valn rfl (exec_ext rfl (ev rfl) rfl) ?_
  simp only [Act.put, List.setIfInBounds_toArray, List.set_cons_succ, List.set_cons_zero]
  refine wpList_valn rfl (exec_allocT zinfoPl rfl) ?_
  simp only [Act.put, List.setIfInBounds_toArray, List.set_cons_succ, List.set_cons_zero]
  refine wpList_nuln rfl (exec_fillPl rfl (ev rfl) (ev rfl)) ?_
  simp only [Act.put, List.setIfInBounds_toArray, List.set_cons_succ, List.set_cons_zero]
  obtain ⟨w4, q1, hw_, hq_, hp, hb, hmm⟩ := pl_lay HMx.out
  rw [hw_, hq_]
  have HWn := Lib.hid (HW.out.to hb)
  clear HW
  have HW := HWn
  clear HWn
  have HRn := Lib.hid (HR.out.step hb)
  clear HR
  have HR := HRn
  clear HRn
  have P1 := Lib.hid hp
  clear hw_ hq_ hp hb hmm HMx
  refine wpList_valn rfl (exec_as rfl (ev rfl)) ?_
  simp only [Act.put, List.setIfInBounds_toArray, List.set_cons_succ, List.set_cons_zero]
  refine wpList_nil ?_
  clear HA
  go_upto_region 3 with fail
  refine wp_region_lit ?_
  refine wpList_valn rfl (exec_mkQ4 rfl evk evk evk evk) ?_
  simp only [Act.put, List.setIfInBounds_toArray, List.set_cons_succ, List.set_cons_zero]
  obtain ⟨w5, hwa⟩ : ∃ x, w4.alloc (.cells #[.bool true, .bool false, .bool false, .bool false] 4) = x := ⟨_, rfl⟩
  obtain ⟨g3, hga⟩ : ∃ q, w4.heap.size = q := ⟨_, rfl⟩
  have hba : Below w4.heap.size w4 w5 := by rw [← hwa]; exact (Below.refl _ _).alloc (Nat.le_refl _) _
  have hra : RdE BoE w5 w5.heap.size (some ⟨g3, 0, none⟩) 4 [true, false, false, false] := by rw [← hwa, ← hga, World.size_alloc]; exact rdE_new (E := BoE) (l := [true, false, false, false]) w4 #[.bool true, .bool false, .bool false, .bool false] 4 rfl
  rw [hwa, hga]
  have HWn := Lib.hid (HW.out.to hba)
  clear HW
  have HW := HWn
  clear HWn
  have P1n := Lib.hid (P1.out.below hba)
  clear P1
  have P1 := P1n
  clear P1n
  have HRn := Lib.hid (HR.out.step hba)
  clear HR
  have HR := HRn
  clear HRn
  have HA := Lib.hid hra
  clear hwa hga hba hra
  refine wpList_valn rfl (exec_mv rfl (ev rfl)) ?_
  simp only [Act.put, List.setIfInBounds_toArray, List.set_cons_succ, List.set_cons_zero]
  refine wpList_call rfl (exec_cl Try.call8 rfl (evc (ev rfl) (evc (ev rfl) (evc evk (evc evk evn))))) ?_
  refine (pplan_v (some ⟨g3, 0, none⟩) (some ⟨q0, 0, none⟩) 4 4 4 4 [true, false, false, false] [false, false, false, false] false (-1) w5 (z := 4) (e0 := 0) (r := [0, 4]) (by decide) (by decide) (by decide) HA.out HR.out ⟨by unfold maxLen; omega, by unfold maxLen; omega⟩).mono ?_
  rintro e w6 ⟨A2', c2', rfl, hm, hb⟩
  have HWn := Lib.hid (HW.out.to hb)
  clear HW
  have HW := HWn
  clear HWn
  have P1n := Lib.hid (P1.out.below hb)
  clear P1
  have P1 := P1n
  clear P1n
  have HRn := Lib.hid (HR.out.step hb)
  clear HR
  have HR := HRn
  clear HRn
  have HMx := Lib.hid hm
  clear hm hb
  refine ⟨_, rfl, ?_⟩
  simp only [Act.put, List.setIfInBounds_toArray, List.set_cons_succ, List.set_cons_zero]
  refine wpList_valn rfl (exec_mv rfl (ev rfl)) ?_
  simp only [Act.put, List.setIfInBounds_toArray, List.set_cons_succ, List.set_cons_zero]
  refine wpList_valn rfl (exec_ext rfl (ev rfl) rfl) ?_
  simp only [Act.put, List.setIfInBounds_toArray, List.set_cons_succ, List.set_cons_zero]
  refine wpList_valn rfl (exec_ext rfl (ev rfl) rfl) ?_
  simp only [Act.put, List.setIfInBounds_toArray, List.set_cons_succ, List.set_cons_zero]
  refine wpList_valn rfl (exec_allocT zinfoPl rfl) ?_
  simp only [Act.put, List.setIfInBounds_toArray, List.set_cons_succ, List.set_cons_zero]
  refine wpList_nuln rfl (exec_fillPl rfl (ev rfl) (ev rfl)) ?_
  simp only [Act.put, List.setIfInBounds_toArray, List.set_cons_succ, List.set_cons_zero]
  obtain ⟨w7, q2, hw_, hq_, hp, hb, hmm⟩ := pl_lay HMx.out
  rw [hw_, hq_]
  have HWn := Lib.hid (HW.out.to hb)
  clear HW
  have HW := HWn
  clear HWn
  have P1n := Lib.hid (P1.out.below hb)
  clear P1
  have P1 := P1n
  clear P1n
  have HRn := Lib.hid (HR.out.step hb)
  clear HR
  have HR := HRn
  clear HRn
  have P2 := Lib.hid hp
  clear hw_ hq_ hp hb hmm HMx
  refine wpList_valn rfl (exec_as rfl (ev rfl)) ?_
  simp only [Act.put, List.setIfInBounds_toArray, List.set_cons_succ, List.set_cons_zero]
  refine wpList_nil ?_
  clear HA
  go_upto_region 4 with fail
  refine wp_region_lit ?_
  refine wpList_valn rfl (exec_mkQ2 rfl evk evk) ?_
  simp only [Act.put, List.setIfInBounds_toArray, List.set_cons_succ, List.set_cons_zero]
  obtain ⟨w8, hwa⟩ : ∃ x, w7.alloc (.cells #[.bool true, .bool true] 4) = x := ⟨_, rfl⟩
  obtain ⟨g4, hga⟩ : ∃ q, w7.heap.size = q := ⟨_, rfl⟩
  have hba : Below w7.heap.size w7 w8 := by rw [← hwa]; exact (Below.refl _ _).alloc (Nat.le_refl _) _
  have hra : RdE BoE w8 w8.heap.size (some ⟨g4, 0, none⟩) 2 [true, true] := by rw [← hwa, ← hga, World.size_alloc]; exact rdE_new (E := BoE) (l := [true, true]) w7 #[.bool true, .bool true] 4 rfl
  rw [hwa, hga]
  have HWn := Lib.hid (HW.out.to hba)
  clear HW
  have HW := HWn
  clear HWn
  have P1n := Lib.hid (P1.out.below hba)
  clear P1
  have P1 := P1n
  clear P1n
  have P2n := Lib.hid (P2.out.below hba)
  clear P2
  have P2 := P2n
  clear P2n
  have HRn := Lib.hid (HR.out.step hba)
  clear HR
  have HR := HRn
  clear HRn
  have HA := Lib.hid hra
  clear hwa hga hba hra
  refine wpList_valn rfl (exec_mv rfl (ev rfl)) ?_
  simp only [Act.put, List.setIfInBounds_toArray, List.set_cons_succ, List.set_cons_zero]
  refine wpList_valn rfl (exec_headE (E := BoE) (k := 2) rfl (ev rfl) evk (by omega)) ?_
  simp only [Act.put, List.setIfInBounds_toArray, List.set_cons_succ, List.set_cons_zero]
  refine wpList_call rfl (exec_cl Try.call8 rfl (evc (ev rfl) (evc (ev rfl) (evc evk (evc evk evn))))) ?_
  refine (pplan_v (some ⟨g4, 0, none⟩) (some ⟨q0, 0, none⟩) 2 2 2 4 [true, true] [false, false] false (-1) w8 (z := 2) (e0 := 0) (r := []) (by decide) (by decide) (by decide) HA.out (HR.out.headP (k := 2) (by decide)) ⟨by unfold maxLen; omega, by unfold maxLen; omega⟩).mono ?_
  rintro e w9 ⟨A3', c3', rfl, hm, hb⟩
  have HWn := Lib.hid (HW.out.to hb)
  clear HW
  have HW := HWn
  clear HWn
  have P1n := Lib.hid (P1.out.below hb)
  clear P1
  have P1 := P1n
  clear P1n
  have P2n := Lib.hid (P2.out.below hb)
  clear P2
  have P2 := P2n
  clear P2n
  have HRn := Lib.hid (HR.out.step hb)
  clear HR
  have HR := HRn
  clear HRn
  have HMx := Lib.hid hm
  clear hm hb
  refine ⟨_, rfl, ?_⟩
  simp only [Act.put, List.setIfInBounds_toArray, List.set_cons_succ, List.set_cons_zero]
  refine wpList_valn rfl (exec_mv rfl (ev rfl)) ?_
  simp only [Act.put, List.setIfInBounds_toArray, List.set_cons_succ, List.set_cons_zero]
  refine wpList_valn rfl (exec_ext rfl (ev rfl) rfl) ?_
  simp only [Act.put, List.setIfInBounds_toArray, List.set_cons_succ, List.set_cons_zero]
  refine wpList_valn rfl (exec_ext rfl (ev rfl) rfl) ?_
  simp only [Act.put, List.setIfInBounds_toArray, List.set_cons_succ, List.set_cons_zero]
  refine wpList_valn rfl (exec_allocT zinfoPl rfl) ?_
  simp only [Act.put, List.setIfInBounds_toArray, List.set_cons_succ, List.set_cons_zero]
  refine wpList_nuln rfl (exec_fillPl rfl (ev rfl) (ev rfl)) ?_
  simp only [Act.put, List.setIfInBounds_toArray, List.set_cons_succ, List.set_cons_zero]
  obtain ⟨w10, q3, hw_, hq_, hp, hb, hmm⟩ := pl_lay HMx.out
  rw [hw_, hq_]
  have HWn := Lib.hid (HW.out.to hb)
  clear HW
  have HW := HWn
  clear HWn
  have P1n := Lib.hid (P1.out.below hb)
  clear P1
  have P1 := P1n
  clear P1n
  have P2n := Lib.hid (P2.out.below hb)
  clear P2
  have P2 := P2n
  clear P2n
  have HRn := Lib.hid (HR.out.step hb)
  clear HR
  have HR := HRn
  clear HRn
  have P3 := Lib.hid hp
  clear hw_ hq_ hp hb hmm HMx
  refine wpList_valn rfl (exec_as rfl (ev rfl)) ?_
  simp only [Act.put, List.setIfInBounds_toArray, List.set_cons_succ, List.set_cons_zero]
  refine wpList_nil ?_
  clear HA
  go_upto_region 5 with fail
  refine wp_region_lit ?_
  refine wpList_valn rfl (exec_mkQ5 rfl evk evk) ?_
  simp only [Act.put, List.setIfInBounds_toArray, List.set_cons_succ, List.set_cons_zero]
  obtain ⟨w11, hwa⟩ : ∃ x, w10.alloc (.cells #[.bool true, .bool false] 4) = x := ⟨_, rfl⟩
  obtain ⟨g5, hga⟩ : ∃ q, w10.heap.size = q := ⟨_, rfl⟩
  have hba : Below w10.heap.size w10 w11 := by rw [← hwa]; exact (Below.refl _ _).alloc (Nat.le_refl _) _
  have hra : RdE BoE w11 w11.heap.size (some ⟨g5, 0, none⟩) 2 [true, false] := by rw [← hwa, ← hga, World.size_alloc]; exact rdE_new (E := BoE) (l := [true, false]) w10 #[.bool true, .bool false] 4 rfl
  rw [hwa, hga]
  have HWn := Lib.hid (HW.out.to hba)
  clear HW
  have HW := HWn
  clear HWn
  have P1n := Lib.hid (P1.out.below hba)
  clear P1
  have P1 := P1n
  clear P1n
  have P2n := Lib.hid (P2.out.below hba)
  clear P2
  have P2 := P2n
  clear P2n
  have P3n := Lib.hid (P3.out.below hba)
  clear P3
  have P3 := P3n
  clear P3n
  have HRn := Lib.hid (HR.out.step hba)
  clear HR
  have HR := HRn
  clear HRn
  have HA := Lib.hid hra
  clear hwa hga hba hra
  refine wpList_valn rfl (exec_mv rfl (ev rfl)) ?_
  simp only [Act.put, List.setIfInBounds_toArray, List.set_cons_succ, List.set_cons_zero]
  refine wpList_valn rfl (exec_headE (E := BoE) (k := 2) rfl (ev rfl) evk (by omega)) ?_
  simp only [Act.put, List.setIfInBounds_toArray, List.set_cons_succ, List.set_cons_zero]
  refine wpList_call rfl (exec_cl Try.call8 rfl (evc (ev rfl) (evc (ev rfl) (evc evk (evc evk evn))))) ?_
  refine (pplan_v (some ⟨g5, 0, none⟩) (some ⟨q0, 0, none⟩) 2 2 2 4 [true, false] [false, false] false 2 w11 (z := 1) (e0 := 0) (r := []) (by decide) (by decide) (by decide) HA.out (HR.out.headP (k := 2) (by decide)) ⟨by unfold maxLen; omega, by unfold maxLen; omega⟩).mono ?_
  rintro e w12 ⟨A4', c4', rfl, hm, hb⟩
  have HWn := Lib.hid (HW.out.to hb)
  clear HW
  have HW := HWn
  clear HWn
  have P1n := Lib.hid (P1.out.below hb)
  clear P1
  have P1 := P1n
  clear P1n
  have P2n := Lib.hid (P2.out.below hb)
  clear P2
  have P2 := P2n
  clear P2n
  have P3n := Lib.hid (P3.out.below hb)
  clear P3
  have P3 := P3n
  clear P3n
  have HRn := Lib.hid (HR.out.step hb)
  clear HR
  have HR := HRn
  clear HRn
  have HMx := Lib.hid hm
  clear hm hb
  refine ⟨_, rfl, ?_⟩
  simp only [Act.put, List.setIfInBounds_toArray, List.set_cons_succ, List.set_cons_zero]
  refine wpList_valn rfl (exec_mv rfl (ev rfl)) ?_
  simp only [Act.put, List.setIfInBounds_toArray, List.set_cons_succ, List.set_cons_zero]
  refine wpList_valn rfl (exec_ext rfl (ev rfl) rfl) ?_
  simp only [Act.put, List.setIfInBounds_toArray, List.set_cons_succ, List.set_cons_zero]
  refine wpList_valn rfl (exec_ext rfl (ev rfl) rfl) ?_
  simp only [Act.put, List.setIfInBounds_toArray, List.set_cons_succ, List.set_cons_zero]
  refine wpList_valn rfl (exec_allocT zinfoPl rfl) ?_
  simp only [Act.put, List.setIfInBounds_toArray, List.set_cons_succ, List.set_cons_zero]
  refine wpList_nuln rfl (exec_fillPl rfl (ev rfl) (ev rfl)) ?_
  simp only [Act.put, List.setIfInBounds_toArray, List.set_cons_succ, List.set_cons_zero]
  obtain ⟨w13, q4, hw_, hq_, hp, hb, hmm⟩ := pl_lay HMx.out
  rw [hw_, hq_]
  have HWn := Lib.hid (HW.out.to hb)
  clear HW
  have HW := HWn
  clear HWn
  have P1n := Lib.hid (P1.out.below hb)
  clear P1
  have P1 := P1n
  clear P1n
  have P2n := Lib.hid (P2.out.below hb)
  clear P2
  have P2 := P2n
  clear P2n
  have P3n := Lib.hid (P3.out.below hb)
  clear P3
  have P3 := P3n
  clear P3n
  have HRn := Lib.hid (HR.out.step hb)
  clear HR
  have HR := HRn
  clear HRn
  have P4 := Lib.hid hp
  clear hw_ hq_ hp hb hmm HMx
  refine wpList_valn rfl (exec_as rfl (ev rfl)) ?_
  simp only [Act.put, List.setIfInBounds_toArray, List.set_cons_succ, List.set_cons_zero]
  refine wpList_nil ?_
  clear HA
  go_upto_region 6 with fail
  refine wp_region_lit ?_
  refine wpList_valn rfl (exec_mv rfl (ev rfl)) ?_
  simp only [Act.put, List.setIfInBounds_toArray, List.set_cons_succ, List.set_cons_zero]
  refine wpList_valn rfl (exec_mv rfl (ev rfl)) ?_
  simp only [Act.put, List.setIfInBounds_toArray, List.set_cons_succ, List.set_cons_zero]
  refine wpList_call rfl (exec_cl Try.call8 rfl (evc (ev rfl) (evc (ev rfl) (evc evk (evc evk evn))))) ?_
  refine (pplan_v (some ⟨q0, 0, none⟩) (some ⟨q0, 0, none⟩) 4 4 4 4 [false, false, false, false] [false, false, false, false] false (-1) w13 (z := 0) (e0 := 2) (r := []) (by decide) (by decide) (by decide) HR.out HR.out ⟨by unfold maxLen; omega, by unfold maxLen; omega⟩).mono ?_
  rintro e w14 ⟨A5', c5', rfl, hm, hb⟩
  have HWn := Lib.hid (HW.out.to hb)
  clear HW
  have HW := HWn
  clear HWn
  have P1n := Lib.hid (P1.out.below hb)
  clear P1
  have P1 := P1n
  clear P1n
  have P2n := Lib.hid (P2.out.below hb)
  clear P2
  have P2 := P2n
  clear P2n
  have P3n := Lib.hid (P3.out.below hb)
  clear P3
  have P3 := P3n
  clear P3n
  have P4n := Lib.hid (P4.out.below hb)
  clear P4
  have P4 := P4n
  clear P4n
  have HRn := Lib.hid (HR.out.step hb)
  clear HR
  have HR := HRn
  clear HRn
  have HMx := Lib.hid hm
  clear hm hb
  refine ⟨_, rfl, ?_⟩
  simp only [Act.put, List.setIfInBounds_toArray, List.set_cons_succ, List.set_cons_zero]
  refine wpList_valn rfl (exec_mv rfl (ev rfl)) ?_
  simp only [Act.put, List.setIfInBounds_toArray, List.set_cons_succ, List.set_cons_zero]
  refine wpList_valn rfl (exec_ext rfl (ev rfl) rfl) ?_
  simp only [Act.put, List.setIfInBounds_toArray, List.set_cons_succ, List.set_cons_zero]
  refine wpList_valn rfl (exec_ext rfl (ev rfl) rfl) ?_
  simp only [Act.put, List.setIfInBounds_toArray, List.set_cons_succ, List.set_cons_zero]
  refine wpList_valn rfl (exec_allocT zinfoPl rfl) ?_
  simp only [Act.put, List.setIfInBounds_toArray, List.set_cons_succ, List.set_cons_zero]
  refine wpList_nuln rfl (exec_fillPl rfl (ev rfl) (ev rfl)) ?_
  simp only [Act.put, List.setIfInBounds_toArray, List.set_cons_succ, List.set_cons_zero]
  obtain ⟨w15, q5, hw_, hq_, hp, hb, hmm⟩ := pl_lay HMx.out
  rw [hw_, hq_]
  have HWn := Lib.hid (HW.out.to hb)
  clear HW
  have HW := HWn
  clear HWn
  have P1n := Lib.hid (P1.out.below hb)
  clear P1
  have P1 := P1n
  clear P1n
  have P2n := Lib.hid (P2.out.below hb)
  clear P2
  have P2 := P2n
  clear P2n
  have P3n := Lib.hid (P3.out.below hb)
  clear P3
  have P3 := P3n
  clear P3n
  have P4n := Lib.hid (P4.out.below hb)
  clear P4
  have P4 := P4n
  clear P4n
  have HRn := Lib.hid (HR.out.step hb)
  clear HR
  have HR := HRn
  clear HRn
  have P5 := Lib.hid hp
  clear hw_ hq_ hp hb hmm HMx
  refine wpList_valn rfl (exec_as rfl (ev rfl)) ?_
  simp only [Act.put, List.setIfInBounds_toArray, List.set_cons_succ, List.set_cons_zero]
  refine wpList_nil ?_
  go_upto_region 7 with fail
  refine wp_region_lit ?_
  refine wpList_valn rfl (exec_mv rfl (ev rfl)) ?_
  simp only [Act.put, List.setIfInBounds_toArray, List.set_cons_succ, List.set_cons_zero]
  refine wpList_valn (v := .bool true) rfl (exec_eqInt true rfl (ev rfl) evk (by decide)) ?_
  simp only [Act.put, List.setIfInBounds_toArray, List.set_cons_succ, List.set_cons_zero]
  refine wpList_valn (v := .bool true) rfl (exec_mv rfl (ev rfl)) ?_
  simp only [Act.put, List.setIfInBounds_toArray, List.set_cons_succ, List.set_cons_zero]
  refine wpList_val (wanted_of rfl rfl rfl rfl) (exec_loadPl rfl (ev rfl) P1.out) ?_
  simp only [Act.put, List.setIfInBounds_toArray, List.set_cons_succ, List.set_cons_zero]
  refine wpList_val (wanted_of rfl rfl rfl rfl) (exec_mk2I rfl evk evk) ?_
  simp only [Act.put, List.setIfInBounds_toArray, List.set_cons_succ, List.set_cons_zero]
  obtain ⟨w16, hwa⟩ : ∃ x, w15.alloc (.cells #[.int .i64 1, .int .i64 2] 3) = x := ⟨_, rfl⟩
  obtain ⟨g10, hga⟩ : ∃ q, w15.heap.size = q := ⟨_, rfl⟩
  have hba : Below w15.heap.size w15 w16 := by rw [← hwa]; exact (Below.refl _ _).alloc (Nat.le_refl _) _
  have hra : RdE IntE w16 w16.heap.size (some ⟨g10, 0, none⟩) 2 [1, 2] := by rw [← hwa, ← hga, World.size_alloc]; exact rdE_new (E := IntE) (l := [1, 2]) w15 #[.int .i64 1, .int .i64 2] 3 rfl
  rw [hwa, hga]
  have HWn := Lib.hid (HW.out.to hba)
  clear HW
  have HW := HWn
  clear HWn
  have P1n := Lib.hid (P1.out.below hba)
  clear P1
  have P1 := P1n
  clear P1n
  have P2n := Lib.hid (P2.out.below hba)
  clear P2
  have P2 := P2n
  clear P2n
  have P3n := Lib.hid (P3.out.below hba)
  clear P3
  have P3 := P3n
  clear P3n
  have P4n := Lib.hid (P4.out.below hba)
  clear P4
  have P4 := P4n
  clear P4n
  have P5n := Lib.hid (P5.out.below hba)
  clear P5
  have P5 := P5n
  clear P5n
  have HRn := Lib.hid (HR.out.step hba)
  clear HR
  have HR := HRn
  clear HRn
  have HA := Lib.hid hra
  clear hwa hga hba hra
  refine wpList_val (wanted_of rfl rfl rfl rfl) (exec_bldP2 rfl evk (ev rfl)) ?_
  simp only [Act.put, List.setIfInBounds_toArray, List.set_cons_succ, List.set_cons_zero]
  refine wpList_call (wanted_of rfl rfl rfl rfl) (exec_cl Try.call10 rfl (evc (ev rfl) (evc (ev rfl) evn))) ?_
  refine (rsame_v w16 (t := true) (by decide) P1.out.2 HA.out (by decide)).mono ?_
  rintro e w17 ⟨rfl, hb⟩
  have HWn := Lib.hid (HW.out.to hb)
  clear HW
  have HW := HWn
  clear HWn
  have P1n := Lib.hid (P1.out.below hb)
  clear P1
  have P1 := P1n
  clear P1n
  have P2n := Lib.hid (P2.out.below hb)
  clear P2
  have P2 := P2n
  clear P2n
  have P3n := Lib.hid (P3.out.below hb)
  clear P3
  have P3 := P3n
  clear P3n
  have P4n := Lib.hid (P4.out.below hb)
  clear P4
  have P4 := P4n
  clear P4n
  have P5n := Lib.hid (P5.out.below hb)
  clear P5
  have P5 := P5n
  clear P5n
  have HRn := Lib.hid (HR.out.step hb)
  clear HR
  have HR := HRn
  clear HRn
  clear hb HA
  refine ⟨_, rfl, ?_⟩
  simp only [Act.put, List.setIfInBounds_toArray, List.set_cons_succ, List.set_cons_zero]
  refine wpList_valn (v := .bool true) rfl (exec_pt rfl (ev rfl) (ev rfl)) ?_
  simp only [Act.put, List.setIfInBounds_toArray, List.set_cons_succ, List.set_cons_zero]
  refine wpList_valn (v := .bool true) rfl (exec_mv rfl (ev rfl)) ?_
  simp only [Act.put, List.setIfInBounds_toArray, List.set_cons_succ, List.set_cons_zero]
  refine wpList_val (wanted_of rfl rfl rfl rfl) (exec_mv rfl (ev rfl)) ?_
  simp only [Act.put, List.setIfInBounds_toArray, List.set_cons_succ, List.set_cons_zero]
  refine wpList_val (v := .bool true) (wanted_of rfl rfl rfl rfl) (exec_eqInt true rfl (ev rfl) evk (by decide)) ?_
  simp only [Act.put, List.setIfInBounds_toArray, List.set_cons_succ, List.set_cons_zero]
  refine wpList_valn (v := .bool true) rfl (exec_pt rfl (ev rfl) (ev rfl)) ?_
  simp only [Act.put, List.setIfInBounds_toArray, List.set_cons_succ, List.set_cons_zero]
  refine wpList_valn (v := .bool true) rfl (exec_mv rfl (ev rfl)) ?_
  simp only [Act.put, List.setIfInBounds_toArray, List.set_cons_succ, List.set_cons_zero]
  refine wpList_val (wanted_of rfl rfl rfl rfl) (exec_loadPl rfl (ev rfl) P2.out) ?_
  simp only [Act.put, List.setIfInBounds_toArray, List.set_cons_succ, List.set_cons_zero]
  refine wpList_val (wanted_of rfl rfl rfl rfl) (exec_mk2I rfl evk evk) ?_
  simp only [Act.put, List.setIfInBounds_toArray, List.set_cons_succ, List.set_cons_zero]
  obtain ⟨w18, hwa⟩ : ∃ x, w17.alloc (.cells #[.int .i64 0, .int .i64 4] 3) = x := ⟨_, rfl⟩
  obtain ⟨g11, hga⟩ : ∃ q, w17.heap.size = q := ⟨_, rfl⟩
  have hba : Below w17.heap.size w17 w18 := by rw [← hwa]; exact (Below.refl _ _).alloc (Nat.le_refl _) _
  have hra : RdE IntE w18 w18.heap.size (some ⟨g11, 0, none⟩) 2 [0, 4] := by rw [← hwa, ← hga, World.size_alloc]; exact rdE_new (E := IntE) (l := [0, 4]) w17 #[.int .i64 0, .int .i64 4] 3 rfl
  rw [hwa, hga]
  have HWn := Lib.hid (HW.out.to hba)
  clear HW
  have HW := HWn
  clear HWn
  have P1n := Lib.hid (P1.out.below hba)
  clear P1
  have P1 := P1n
  clear P1n
  have P2n := Lib.hid (P2.out.below hba)
  clear P2
  have P2 := P2n
  clear P2n
  have P3n := Lib.hid (P3.out.below hba)
  clear P3
  have P3 := P3n
  clear P3n
  have P4n := Lib.hid (P4.out.below hba)
  clear P4
  have P4 := P4n
  clear P4n
  have P5n := Lib.hid (P5.out.below hba)
  clear P5
  have P5 := P5n
  clear P5n
  have HRn := Lib.hid (HR.out.step hba)
  clear HR
  have HR := HRn
  clear HRn
  have HA := Lib.hid hra
  clear hwa hga hba hra
  refine wpList_val (wanted_of rfl rfl rfl rfl) (exec_bldP2 rfl evk (ev rfl)) ?_
  simp only [Act.put, List.setIfInBounds_toArray, List.set_cons_succ, List.set_cons_zero]
  refine wpList_call (wanted_of rfl rfl rfl rfl) (exec_cl Try.call10 rfl (evc (ev rfl) (evc (ev rfl) evn))) ?_
  refine (rsame_v w18 (t := true) (by decide) P2.out.2 HA.out (by decide)).mono ?_
  rintro e w19 ⟨rfl, hb⟩
  have HWn := Lib.hid (HW.out.to hb)
  clear HW
  have HW := HWn
  clear HWn
  have P1n := Lib.hid (P1.out.below hb)
  clear P1
  have P1 := P1n
  clear P1n
  have P2n := Lib.hid (P2.out.below hb)
  clear P2
  have P2 := P2n
  clear P2n
  have P3n := Lib.hid (P3.out.below hb)
  clear P3
  have P3 := P3n
  clear P3n
  have P4n := Lib.hid (P4.out.below hb)
  clear P4
  have P4 := P4n
  clear P4n
  have P5n := Lib.hid (P5.out.below hb)
  clear P5
  have P5 := P5n
  clear P5n
  have HRn := Lib.hid (HR.out.step hb)
  clear HR
  have HR := HRn
  clear HRn
  clear hb HA
  refine ⟨_, rfl, ?_⟩
  simp only [Act.put, List.setIfInBounds_toArray, List.set_cons_succ, List.set_cons_zero]
  refine wpList_valn (v := .bool true) rfl (exec_pt rfl (ev rfl) (ev rfl)) ?_
  simp only [Act.put, List.setIfInBounds_toArray, List.set_cons_succ, List.set_cons_zero]
  refine wpList_valn (v := .bool true) rfl (exec_mv rfl (ev rfl)) ?_
  simp only [Act.put, List.setIfInBounds_toArray, List.set_cons_succ, List.set_cons_zero]
  refine wpList_val (wanted_of rfl rfl rfl rfl) (exec_mv rfl (ev rfl)) ?_
  simp only [Act.put, List.setIfInBounds_toArray, List.set_cons_succ, List.set_cons_zero]
  refine wpList_val (v := .bool true) (wanted_of rfl rfl rfl rfl) (exec_eqInt true rfl (ev rfl) evk (by decide)) ?_
  simp only [Act.put, List.setIfInBounds_toArray, List.set_cons_succ, List.set_cons_zero]
  refine wpList_valn (v := .bool true) rfl (exec_pt rfl (ev rfl) (ev rfl)) ?_
  simp only [Act.put, List.setIfInBounds_toArray, List.set_cons_succ, List.set_cons_zero]
  refine wpList_valn (v := .bool true) rfl (exec_mv rfl (ev rfl)) ?_
  simp only [Act.put, List.setIfInBounds_toArray, List.set_cons_succ, List.set_cons_zero]
  refine wpList_val (wanted_of rfl rfl rfl rfl) (exec_faddr rfl (ev rfl) faPn0) ?_
  simp only [Act.put, List.setIfInBounds_toArray, List.set_cons_succ, List.set_cons_zero]
  refine wpList_val (wanted_of rfl rfl rfl rfl) (exec_ld rfl (ev rfl) (ldU8 P3.out.1.c0)) ?_
  simp only [Act.put, List.setIfInBounds_toArray, List.set_cons_succ, List.set_cons_zero]
  refine wpList_val (v := .bool true) (wanted_of rfl rfl rfl rfl) (exec_eqInt true rfl (ev rfl) evk (by decide)) ?_
  simp only [Act.put, List.setIfInBounds_toArray, List.set_cons_succ, List.set_cons_zero]
  refine wpList_valn (v := .bool true) rfl (exec_pt rfl (ev rfl) (ev rfl)) ?_
  simp only [Act.put, List.setIfInBounds_toArray, List.set_cons_succ, List.set_cons_zero]
  refine wpList_valn (v := .bool true) rfl (exec_mv rfl (ev rfl)) ?_
  simp only [Act.put, List.setIfInBounds_toArray, List.set_cons_succ, List.set_cons_zero]
  refine wpList_val (wanted_of rfl rfl rfl rfl) (exec_mv rfl (ev rfl)) ?_
  simp only [Act.put, List.setIfInBounds_toArray, List.set_cons_succ, List.set_cons_zero]
  refine wpList_val (v := .bool true) (wanted_of rfl rfl rfl rfl) (exec_eqInt true rfl (ev rfl) evk (by decide)) ?_
  simp only [Act.put, List.setIfInBounds_toArray, List.set_cons_succ, List.set_cons_zero]
  refine wpList_valn (v := .bool true) rfl (exec_pt rfl (ev rfl) (ev rfl)) ?_
  simp only [Act.put, List.setIfInBounds_toArray, List.set_cons_succ, List.set_cons_zero]
  refine wpList_valn (v := .bool true) rfl (exec_mv rfl (ev rfl)) ?_
  simp only [Act.put, List.setIfInBounds_toArray, List.set_cons_succ, List.set_cons_zero]
  refine wpList_val (wanted_of rfl rfl rfl rfl) (exec_faddr rfl (ev rfl) faPn0) ?_
  simp only [Act.put, List.setIfInBounds_toArray, List.set_cons_succ, List.set_cons_zero]
  refine wpList_val (wanted_of rfl rfl rfl rfl) (exec_ld rfl (ev rfl) (ldU8 P4.out.1.c0)) ?_
  simp only [Act.put, List.setIfInBounds_toArray, List.set_cons_succ, List.set_cons_zero]
  refine wpList_val (v := .bool true) (wanted_of rfl rfl rfl rfl) (exec_eqInt true rfl (ev rfl) evk (by decide)) ?_
  simp only [Act.put, List.setIfInBounds_toArray, List.set_cons_succ, List.set_cons_zero]
  refine wpList_valn (v := .bool true) rfl (exec_pt rfl (ev rfl) (ev rfl)) ?_
  simp only [Act.put, List.setIfInBounds_toArray, List.set_cons_succ, List.set_cons_zero]
  refine wpList_valn (v := .bool true) rfl (exec_mv rfl (ev rfl)) ?_
  simp only [Act.put, List.setIfInBounds_toArray, List.set_cons_succ, List.set_cons_zero]
  refine wpList_val (wanted_of rfl rfl rfl rfl) (exec_mv rfl (ev rfl)) ?_
  simp only [Act.put, List.setIfInBounds_toArray, List.set_cons_succ, List.set_cons_zero]
  refine wpList_val (v := .bool true) (wanted_of rfl rfl rfl rfl) (exec_eqInt true rfl (ev rfl) evk (by decide)) ?_
  simp only [Act.put, List.setIfInBounds_toArray, List.set_cons_succ, List.set_cons_zero]
  refine wpList_valn (v := .bool true) rfl (exec_pt rfl (ev rfl) (ev rfl)) ?_
  simp only [Act.put, List.setIfInBounds_toArray, List.set_cons_succ, List.set_cons_zero]
  refine wpList_valn (v := .bool true) rfl (exec_as rfl (ev rfl)) ?_
  simp only [Act.put, List.setIfInBounds_toArray, List.set_cons_succ, List.set_cons_zero]
  refine wpList_nil ?_
  go_wp2_with fail
  go_ret
  exact ⟨rfl, HW.out.1⟩
end Go.Proofs.Ytplanbjjfaihbaa
