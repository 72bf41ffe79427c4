import Derived.Test.YtheponmdbmloaaaGreatDoorFsap
import Derived.Test.YtheponmdbmloaaaGreatDoorFsaq
import Derived.Test.YtheponmdbmloaaaGreatDoorFsam
import Derived.Test.YtheponmdbmloaaaGreatDoorFsar
import Derived.Test.YtheponmdbmloaaaGreatDoorFsab
import Derived.Test.YtheponmdbmloaaaGreatDoorFsZ
namespace Go.Proofs.YtheponmdbmloaaaGreatDoor
open Go.RowKit
set_option linter.unusedVariables false
set_option linter.unusedSimpArgs false
set_option maxRecDepth 100000
section
variable {ρ : Operand → Value} {o : Oper} {a : Act} {x y z : Operand} {w : World} {s : Fu} {v u : Value}
theorem exec_callU2 {ats : Array TypeId} (ho : o.op = .call { callee := .value x, args := #[y, z], argTypes := ats }) (hx : a.eval x = s.val) (hy : a.eval y = v) (hz : a.eval z = u) : (execOp a.eval o).run Tryz.prog w = .ok (.enter s.f (v :: u :: s.cap).toArray) w := by
  unfold Fu.val at hx
  unfold execOp
  simp [ho, resolve, Deferred.ofValue, invoke, hx, hy, hz, s.ok]
theorem exec_bldPlF {s m : Int} (ho : o.op = .build 43 #[(0, x), (1, y)]) (hx : ρ x = .int .i64 s) (hy : ρ y = .int .i64 m) : (execOp ρ o).run Tryz.prog w = .ok (.value (.agg #[.int .i64 s, .int .i64 m])) w := by
  have h : (Instr.build 43 #[(0, .int .i64 s), (1, .int .i64 m)]).run Tryz.prog w = .ok (.agg #[.int .i64 s, .int .i64 m]) w := by kernel_rfl
  unfold execOp
  simp [ho, hx, hy, h, Result.andThen]
theorem exec_bldZB (ho : o.op = .build 38 #[]) : (execOp ρ o).run Tryz.prog w = .ok (.value (blk al)) w := by
  have h : (Instr.build 38 #[]).run Tryz.prog w = .ok (blk al) w := by kernel_rfl
  unfold execOp
  simp [ho, h, Result.andThen]
theorem fldRo0 (R : Ros) : (Instr.field 32 (ros R) 0).run Tryz.prog w = .ok (geo R) w := by
  have := partR_0 w R
  unfold Instr.field
  simp only [Sem.run_bind, run_underlying Tryz.underlying32, Result.andThen_ok]
  exact this
theorem faPmF0 {b : Nat} : (Instr.fieldAt 43 (.pointer (some ⟨b, 0, none⟩)) 0).run Tryz.prog w = .ok (.pointer (some ⟨b, 0, none⟩)) w := by kernel_rfl
theorem faPmF1 {b : Nat} : (Instr.fieldAt 43 (.pointer (some ⟨b, 0, none⟩)) 1).run Tryz.prog w = .ok (.pointer (some ⟨b, 1, none⟩)) w := by kernel_rfl
theorem fldGe0 (R : Ros) : (Instr.field 29 (geo R) 0).run Tryz.prog w = .ok (.int .i64 R.m) w := by kernel_rfl
end
theorem fp_named (e n : Int) (w : World) : Calls Tryz.prog 25 #[.int .i64 e, .int .i64 n] w fun x w' => x = .returned (.int .i64 (if e = 7 then n else e)) ∧ w = w' := by
  by_cases h7 : e = 7
  · subst h7
    go_enter Tryz.func25, Tryz.ntmps25
    go_upto_region 1 with fail
    refine wp_region_lit ?_
    refine af rfl (ag rfl (ev rfl)) ?_
    simp only [Act.put, aa, ac, ae]
    refine af (v := .bool true) rfl (ar true rfl (ev rfl) evk rfl) ?_
    simp only [Act.put, aa, ac, ae]
    refine wpList_nil ?_
    go_upto_region 2 with fail
    refine wp_region_lit ?_
    refine af rfl (ag rfl (ev rfl)) ?_
    simp only [Act.put, aa, ac, ae]
    refine af rfl (aj rfl (ev rfl)) ?_
    simp only [Act.put, aa, ac, ae]
    refine wpList_nil ?_
    go_wp2_with fail
    go_ret
    exact ⟨rfl, rfl⟩
  have H7 : Hid ((e == 7) = false) := Lib.hid (beq_eq_false_iff_ne.2 h7)
  rw [if_neg h7]
  clear h7
  go_enter Tryz.func25, Tryz.ntmps25
  go_upto_region 1 with fail
  refine wp_region_lit ?_
  refine af rfl (ag rfl (ev rfl)) ?_
  simp only [Act.put, aa, ac, ae]
  refine af (v := .bool false) rfl (ar false rfl (ev rfl) evk H7.out) ?_
  simp only [Act.put, aa, ac, ae]
  refine wpList_nil ?_
  go_upto_region 3 with fail
  refine wp_region_lit ?_
  refine af rfl (ag rfl (ev rfl)) ?_
  simp only [Act.put, aa, ac, ae]
  refine af rfl (aj rfl (ev rfl)) ?_
  simp only [Act.put, aa, ac, ae]
  refine wpList_nil ?_
  go_wp2_with fail
  go_ret
  exact ⟨rfl, rfl⟩
theorem fp_zero (b : Blk) (w : World) : Calls Tryz.prog 26 #[blk b] w fun e w' => e = .returned (.bool (decide (b = al))) ∧ Below w.heap.size w w' := by
  have HB := Lib.hid ((Below.refl w.heap.size w).alloc (Nat.le_refl _) (.cells (cel b).toArray 38))
  obtain ⟨t, ht⟩ : ∃ t, decide (b = al) = t := ⟨_, rfl⟩
  have HT := Lib.hid ht
  rw [ht]
  clear ht
  have HX := Lib.hid (heap_alloc_new w (.cells (cel b).toArray 38))
  go_enter Tryz.func26, Tryz.ntmps26
  go_upto_region 0 with fail
  refine wp_region_lit ?_
  refine af rfl (bH (c := b) rfl (ev rfl)) ?_
  simp only [Act.put, aa, ac, ae]
  generalize w.alloc (.cells (cel b).toArray 38) = w1 at *
  refine af (v := .bool false) rfl (aj rfl evk) ?_
  simp only [Act.put, aa, ac, ae]
  refine wpList_nil ?_
  go_upto_region 1 with fail
  refine wp_region_lit ?_
  refine af rfl (aG (c := b) rfl (ev rfl) (aT HX.out)) ?_
  simp only [Act.put, aa, ac, ae]
  refine af rfl (exec_bldZB rfl) ?_
  simp only [Act.put, aa, ac, ae]
  refine af rfl (exec_eqlB t rfl (ev rfl) (ev rfl) HT.out) ?_
  simp only [Act.put, aa, ac, ae]
  refine af rfl (aj rfl (ev rfl)) ?_
  simp only [Act.put, aa, ac, ae]
  refine wpList_nil ?_
  go_wp2_with fail
  go_ret
  exact ⟨rfl, HB.out⟩
structure RwL (C : HulI) (w0 : World) (H K : Nat → Prop) (w : World) (q p : Nat) (rd : HuS → Int → Int × Blk × HuS) (P : HuS → Int → Prop) (sk : Int) (N : Nat) (X : Int × List Blk × HuS) (i : Nat) (l : List Blk) (h : HuS) (v : Value) (wr : World) : Prop where
  m : aK BlkE wr w.heap.size v l
  j : FJ C w0 H (fun b => K b ∨ v.ownBlock = some b) wr q p h
  k : bm K w wr
  le : w0.heap.size ≤ w.heap.size ∧ w.heap.size ≤ wr.heap.size
  lt : ∀ b, K b → b < w.heap.size
  n : l.length ≤ i
  x : rwK rd sk (N - i) i h l = X
  g : rwP rd P sk (N - i) i h
section
variable {C : HulI} {w0 w wr w' : World} {H K : Nat → Prop} {q p N i : Nat} {rd : HuS → Int → Int × Blk × HuS} {P : HuS → Int → Prop} {sk s : Int} {X : Int × List Blk × HuS} {l l2 : List Blk} {h h' : HuS} {v v2 : Value}
theorem keptF {B : Nat} {E : Elt Blk} (h : aK E w B v l) (hk : ∀ b, v.ownBlock = some b → w'.heap[b]? = w.heap[b]?) : aK E w' B v l := by
  refine ⟨h.1, ?_⟩
  rcases h.2 with hn | ⟨g, cap, cur, rfl, hbg, hg, rest⟩
  · exact .inl hn
  · exact .inr ⟨g, cap, cur, rfl, hbg, (hk g rfl).trans hg, rest⟩
theorem FJ.app {B : Nat} (j : FJ C w0 H (fun b => K b ∨ v.ownBlock = some b) w q p h) (hm : aK BlkE w B v l) (hB : w0.heap.size ≤ B) (hg : w.grownBy w' v.ownBlock) (hm2 : aK BlkE w' B v2 l2) (ho : ∀ x, v2.ownBlock = some x → v.ownBlock = some x ∨ w.heap.size ≤ x) : FJ C w0 H (fun b => K b ∨ v2.ownBlock = some b) w' q p h := by
  obtain ⟨G, h1, h2, h3, h4, h5⟩ := j
  have hs := hg.size
  refine ⟨G, C.only h1 ((Only.refl (fun b => v.ownBlock = some b) w).grown hg fun k e => .inl e) fun b hb e => (h4 b (.inr e)).1 hb, h2.grown hg fun k e => .inr (Nat.le_trans hB (hm.lt_own k e)), h3, fun b e => ?_, h5⟩
  rcases e with e | e
  · obtain ⟨g1, g2⟩ := h4 b (.inl e)
    exact ⟨g1, by omega⟩
  · rcases ho b e with e2 | e2
    · obtain ⟨g1, g2⟩ := h4 b (.inr e2)
      exact ⟨g1, by omega⟩
    · exact ⟨fun hg => by have := C.lt h1 b hg; omega, hm2.own_lt b e⟩
theorem RwL.skip (a : RwL C w0 H K w q p rd P sk N X i l h v wr) (hi : i < N) (e : (i : Int) = sk) : RwL C w0 H K w q p rd P sk N X (i + 1) l h v wr := by
  have x := a.x
  have g := a.g
  rw [show N - i = (N - (i + 1)) + 1 by omega, rwK, if_pos e] at x
  rw [show N - i = (N - (i + 1)) + 1 by omega, rwP, if_pos e] at g
  exact ⟨a.m, a.j, a.k, a.le, a.lt, Nat.le_succ_of_le a.n, x, g⟩
theorem RwL.go (a : RwL C w0 H K w q p rd P sk N X i l h v wr) (hi : i < N) (e : (i : Int) ≠ sk) : P h i ∧ ((rd h i).1 = 0 → rwK rd sk (N - (i + 1)) (i + 1) (rd h i).2.2 (l ++ [(rd h i).2.1]) = X ∧ rwP rd P sk (N - (i + 1)) (i + 1) (rd h i).2.2) ∧ ((rd h i).1 ≠ 0 → X = ((rd h i).1, [], (rd h i).2.2)) := by
  have x := a.x
  have g := a.g
  rw [show N - i = (N - (i + 1)) + 1 by omega, rwK, if_neg e] at x
  rw [show N - i = (N - (i + 1)) + 1 by omega, rwP, if_neg e] at g
  refine ⟨g.1, fun e0 => ⟨?_, g.2 e0⟩, fun e0 => ?_⟩
  · rw [if_pos e0] at x; exact x
  · rw [if_neg e0] at x; exact x.symm
theorem RwL.end_ (a : RwL C w0 H K w q p rd P sk N X N l h v wr) : X = (0, l, h) := by
  have x := a.x
  rw [Nat.sub_self, rwK] at x
  exact x.symm
theorem RwL.rest (a : RwL C w0 H K w q p rd P sk N X i l h v wr) (j : FJ C w0 H (fun b => K b ∨ v.ownBlock = some b) w' q p h') (kk : bm (fun b => K b ∨ v.ownBlock = some b) wr w') (hs : wr.heap.size ≤ w'.heap.size) : aK BlkE w' w.heap.size v l ∧ FJ C w0 H (fun b => K b ∨ v.ownBlock = some b) w' q p h' ∧ bm K w w' ∧ (w0.heap.size ≤ w.heap.size ∧ w.heap.size ≤ w'.heap.size) :=
  ⟨keptF a.m fun b e => kk b (.inr e), j, a.k.trans (kk.less fun b e => .inl e), a.le.1, Nat.le_trans a.le.2 hs⟩
theorem RwL.more {b : Blk} {w2 w3 : World} (a : RwL C w0 H K w q p rd P sk N X i l h v wr) (j : FJ C w0 H (fun b => K b ∨ v.ownBlock = some b) w2 q p h') (kk : bm (fun b => K b ∨ v.ownBlock = some b) wr w2) (hs : wr.heap.size ≤ w2.heap.size) (hm : aK BlkE w2 w.heap.size v l → aK BlkE w3 w.heap.size v2 (l ++ [b])) (hg : w2.grownBy w3 v.ownBlock) (ho : ∀ x, v2.ownBlock = some x → v.ownBlock = some x ∨ w2.heap.size ≤ x)
    (x : rwK rd sk (N - (i + 1)) (i + 1) h' (l ++ [b]) = X) (g : rwP rd P sk (N - (i + 1)) (i + 1) h') : RwL C w0 H K w q p rd P sk N X (i + 1) (l ++ [b]) h' v2 w3 := by
  obtain ⟨m2, j2, k2, l1, l2⟩ := a.rest j kk hs
  have m3 := hm m2
  refine ⟨m3, j2.app m2 l1 hg m3 ho, k2.trans fun b e => hg.block b (by have := a.lt b e; omega) (fun e2 => ?_), ⟨l1, Nat.le_trans l2 hg.size⟩, a.lt, by rw [List.length_append]; have := a.n; show _ + 1 ≤ _; omega, x, g⟩
  have := m2.lt_own b (by rw [← e2])
  have := a.lt b e
  omega
set_option maxHeartbeats 8000000 in
theorem fp_row (f : Fu) (hc : ∀ (K' : Nat → Prop) (w1 : World) (h1 : HuS) (m : Int), FJ C w0 H K' w1 q p h1 → P h1 m → Calls Tryz.prog f.f (.pointer (some ⟨p, 0, none⟩) :: .agg #[.int .i64 s, .int .i64 m] :: f.cap).toArray w1 fun e w' => e = .returned (.tuple #[blk (rd h1 m).2.1, .int .i64 (rd h1 m).1]) ∧ FJ C w0 H K' w' q p (rd h1 m).2.2 ∧ bm K' w1 w' ∧ w1.heap.size ≤ w'.heap.size)
    (j : FJ C w0 H K w q p h) (hp : rwP rd P sk h.R.m.toNat 0 h) (hX : rwK rd sk h.R.m.toNat 0 h [] = X) : Calls Tryz.prog 23 #[.pointer (some ⟨p, 0, none⟩), .int .i64 s, .int .i64 sk, f.val] w fun e w' => ∃ v, e = .returned (.tuple #[v, .int .i64 X.1]) ∧ aK BlkE w' w.heap.size v X.2.1 ∧ FJ C w0 H (fun b => K b ∨ v.ownBlock = some b) w' q p X.2.2 ∧ bm K w w' ∧ w.heap.size ≤ w'.heap.size := by
  obtain ⟨hf, hid⟩ := j.is
  obtain ⟨N, hN⟩ : ∃ N, h.R.m.toNat = N := ⟨_, rfl⟩
  obtain ⟨hm1, hm2, _⟩ := cX (cv hf).1
  have hRm : h.R.m = (N : Int) := by omega
  have hN16 : N ≤ 16 := by omega
  rw [hN] at hp hX
  have HC := Lib.hid hc
  have HJ := Lib.hid j
  have HX := Lib.hid hX
  have HPP := Lib.hid hp
  have HRM := Lib.hid hRm
  have HN := Lib.hid hN16
  have HID : Hid (((h.id : Int) == 0) = false) := Lib.hid (beq_eq_false_iff_ne.2 (by omega))
  obtain ⟨NN, hNN⟩ : ∃ NN, NN = N := ⟨_, rfl⟩
  clear hc j hX hp hf hid hm1 hm2 hRm hN16 hN hNN
  go_enter Tryz.func23, Tryz.ntmps23
  go_upto_region 1 with fail
  refine wp_region_lit ?_
  refine af rfl (ag rfl (ev rfl)) ?_
  simp only [Act.put, aa, ac, ae]
  refine ak rfl (ap Tryz.call51 rfl (evc (ev rfl) evn)) ?_
  refine (HJ.out.id_).mono ?_
  rintro e w1 ⟨rfl, b1⟩
  have HJ1 := Lib.hid (HJ.out.below b1)
  have HB1 := Lib.hid b1
  clear b1
  refine ⟨_, rfl, ?_⟩
  simp only [Act.put, aa, ac, ae]
  refine af (v := .bool false) rfl (ar false rfl (ev rfl) evk HID.out) ?_
  simp only [Act.put, aa, ac, ae]
  refine wpList_nil ?_
  go_upto_region 3 with fail
  refine wp_region_lit ?_
  refine af rfl (aj rfl evk) ?_
  simp only [Act.put, aa, ac, ae]
  refine wpList_nil ?_
  go_upto_region 4 with fail
  refine wp_region_lit ?_
  refine af rfl (ag rfl (ev rfl)) ?_
  simp only [Act.put, aa, ac, ae]
  refine ak rfl (ap Tryz.call52 rfl (evc (ev rfl) evn)) ?_
  refine (HJ1.out.roster).mono ?_
  rintro e w2 ⟨rfl, b2⟩
  have HJ2 := Lib.hid (HJ1.out.below b2)
  have HB2 := Lib.hid (HB1.out.trans (b2.mono HB1.out.size))
  clear b2
  refine ⟨_, rfl, ?_⟩
  simp only [Act.put, aa, ac, ae]
  refine af rfl (exec_field rfl (ev rfl) (fldRo0 h.R)) ?_
  simp only [Act.put, aa, ac, ae]
  refine af rfl (exec_field rfl (ev rfl) (fldGe0 h.R)) ?_
  simp only [Act.put, aa, ac, ae]
  refine af rfl (ag rfl evk) ?_
  simp only [Act.put, aa, ac, ae]
  refine wpList_nil ?_
  have HR0 : Hid (RwL C w0 H K w q p rd P sk N X 0 [] h (.slice none 0 0) w2) := Lib.hid ⟨aK.nil _ _, HJ2.out.guard (Below.refl _ _) (fun b e => by rcases e with e | e; exact .inl e; simp [Value.ownBlock] at e), HJ.out.kept HB2.out, ⟨HJ.out.size, HB2.out.size⟩, fun b e => HJ.out.lt e, Nat.le_refl _, HX.out, HPP.out⟩
  rw [HRM.out]
  clear HX HPP HJ1 HJ2 HB1 HB2
  go_wp2_with fail
  go_loopw [10, 21] (fun v z wr => ∃ (i : Nat) (l : List Blk) (hi : HuS), z = .int .i64 i ∧ i ≤ N ∧ RwL C w0 H K w q p rd P sk N X i l hi v wr) (fun _ z _ => N - (intOf z).toNat)
  case atStart => exact ⟨0, [], h, by go_num, Nat.zero_le _, HR0.out⟩
  case round =>
    clear HR0
    obtain ⟨i, l, hi, rfl, hin, hr⟩ := hrel
    have HR := Lib.hid hr
    clear hr
    by_cases hlt : i < N
    · have HI := Lib.hid hlt
      have HLT : Hid (decide ((i : Int) < (N : Int)) = true) := Lib.hid (decide_eq_true (by omega))
      have HIA : Hid (IntKind.i64.wrap ((i : Int) + 1) = ((i + 1 : Nat) : Int)) := Lib.hid (by have := HN.out; rw [dn ⟨by omega, by omega⟩]; omega)
      clear hin hlt
      go_upto_region 5 with fail
      refine wp_region_lit ?_
      refine af (v := .bool true) rfl (bi true rfl (ev rfl) (ev rfl) HLT.out) ?_
      simp only [Act.put, aa, ac, ae]
      refine wpList_nil ?_
      go_upto_region 6 with fail
      refine wp_region_lit ?_
      refine af rfl (ag rfl (ev rfl)) ?_
      simp only [Act.put, aa, ac, ae]
      refine af rfl (aj rfl (ev rfl)) ?_
      simp only [Act.put, aa, ac, ae]
      refine wpList_nil ?_
      by_cases hs : (i : Int) = sk
      · have HS : Hid (((i : Int) == sk) = true) := Lib.hid (beq_iff_eq.2 hs)
        have HR2 := Lib.hid (HR.out.skip HI.out hs)
        clear hs
        go_upto_region 7 with fail
        refine wp_region_lit ?_
        refine af rfl (ag rfl (ev rfl)) ?_
        simp only [Act.put, aa, ac, ae]
        refine af rfl (ag rfl (ev rfl)) ?_
        simp only [Act.put, aa, ac, ae]
        refine af (v := .bool true) rfl (ar true rfl (ev rfl) (ev rfl) HS.out) ?_
        simp only [Act.put, aa, ac, ae]
        refine wpList_nil ?_
        go_upto_region 12 with fail
        refine wp_region_lit ?_
        refine af rfl (bu rfl (ev rfl) evk HIA.out) ?_
        simp only [Act.put, aa, ac, ae]
        refine af rfl (ag rfl (ev rfl)) ?_
        simp only [Act.put, aa, ac, ae]
        refine wpList_nil ?_
        go_wp2_with fail
        go_roundw
        case rel => exact ⟨i + 1, l, hi, by go_num, HI.out, HR2.out⟩
        case measure => have := HI.out; simp [intOf]; omega
      have HS : Hid (((i : Int) == sk) = false) := Lib.hid (beq_eq_false_iff_ne.2 hs)
      obtain ⟨g1, g2, g3⟩ := HR.out.go HI.out hs
      obtain ⟨Y, hY⟩ : ∃ Y, rd hi (i : Int) = Y := ⟨_, rfl⟩
      have HCL := Lib.hid (HC.out _ _ _ _ HR.out.j g1)
      rw [hY] at g2 g3 HCL
      obtain ⟨E, yb, hy⟩ := Y
      have HG2 : Hid (E = 0 → rwK rd sk (N - (i + 1)) (i + 1) hy (l ++ [yb]) = X ∧ rwP rd P sk (N - (i + 1)) (i + 1) hy) := Lib.hid g2
      have HG3 : Hid (E ≠ 0 → X = (E, [], hy)) := Lib.hid g3
      clear hs g1 g2 g3 hY
      go_upto_region 7 with fail
      refine wp_region_lit ?_
      refine af rfl (ag rfl (ev rfl)) ?_
      simp only [Act.put, aa, ac, ae]
      refine af rfl (ag rfl (ev rfl)) ?_
      simp only [Act.put, aa, ac, ae]
      refine af (v := .bool false) rfl (ar false rfl (ev rfl) (ev rfl) HS.out) ?_
      simp only [Act.put, aa, ac, ae]
      refine wpList_nil ?_
      go_upto_region 8 with fail
      refine wp_region_lit ?_
      refine af rfl (ag rfl (ev rfl)) ?_
      simp only [Act.put, aa, ac, ae]
      refine af rfl (ag rfl (ev rfl)) ?_
      simp only [Act.put, aa, ac, ae]
      refine af rfl (ag rfl (ev rfl)) ?_
      simp only [Act.put, aa, ac, ae]
      refine af rfl (ag rfl (ev rfl)) ?_
      simp only [Act.put, aa, ac, ae]
      refine af rfl (exec_bldPlF rfl (ev rfl) (ev rfl)) ?_
      simp only [Act.put, aa, ac, ae]
      refine ak rfl (exec_callU2 (s := f) rfl (ev rfl) (ev rfl) (ev rfl)) ?_
      refine (HCL.out).mono ?_
      rintro e w3 ⟨rfl, j3, k3, s3⟩
      have HJ3 := Lib.hid j3
      have HK3 := Lib.hid k3
      have HS3 : Hid (wr.heap.size ≤ w3.heap.size) := Lib.hid s3
      clear j3 k3 s3
      refine ⟨_, rfl, ?_⟩
      simp only [Act.put, aa, ac, ae]
      refine af rfl (ag rfl (ev rfl)) ?_
      simp only [Act.put, aa, ac, ae]
      refine af rfl (ax rfl (ev rfl) rfl) ?_
      simp only [Act.put, aa, ac, ae]
      refine af rfl (ax rfl (ev rfl) rfl) ?_
      simp only [Act.put, aa, ac, ae]
      refine af rfl (aU rfl) ?_
      simp only [Act.put, aa, ac, ae]
      refine av rfl (df (c := yb) rfl (ev rfl) (ev rfl)) ?_
      simp only [Act.put, aa, ac, ae]
      have hbx := (Below.refl w3.heap.size w3).alloc (Nat.le_refl _) (.cells (cel yb).toArray 38)
      have HY4 := Lib.hid (heap_alloc_new w3 (.cells (cel yb).toArray 38))
      have HJ4 := Lib.hid (HJ3.out.below hbx)
      have HK4 := Lib.hid (HK3.out.trans (HJ3.out.kept hbx))
      have HS4 := Lib.hid (Nat.le_trans HS3.out hbx.size)
      clear hbx
      obtain ⟨by_, hby⟩ : ∃ by_, w3.heap.size = by_ := ⟨_, rfl⟩
      rw [hby] at HY4 ⊢
      clear hby
      generalize w3.alloc (.cells (cel yb).toArray 38) = w4 at *
      refine af rfl (aj rfl (ev rfl)) ?_
      simp only [Act.put, aa, ac, ae]
      refine wpList_nil ?_
      by_cases h0 : E = 0
      · subst h0
        obtain ⟨gx, gp⟩ := HG2.out rfl
        have HGX := Lib.hid gx
        have HGP := Lib.hid gp
        have hb5 := (Below.refl w4.heap.size w4).alloc (Nat.le_refl _) (.cells (cel yb).toArray 38)
        have hsz : (w4.alloc (.cells (cel yb).toArray 38)).heap.size = w4.heap.size + 1 := World.size_alloc ..
        have HJ5 := Lib.hid (HJ4.out.below hb5)
        have HK5 := Lib.hid (HK4.out.trans (HJ4.out.kept hb5))
        have HS5 := Lib.hid (Nat.le_trans HS4.out hb5.size)
        have hm5 := (HR.out.rest HJ5.out HK5.out HS5.out).1
        have hl5 := (HR.out.rest HJ5.out HK5.out HS5.out).2.2.2.2
        obtain ⟨v2, w5, hrun, hm2, hg2, ho2⟩ := run_appE_own BlkE (w4.alloc (.cells (cel yb).toArray 38)) 22 w.heap.size (w4.heap.size + 1) 1 1 u10 l [yb] (some ⟨w4.heap.size, 0, none⟩) hm5 (rdE_new (E := BlkE) (l := [yb]) w4 (cel yb).toArray 38 (by simp [bK]; rfl)) hl5 (by have := HR.out.n; have := HI.out; have := HN.out; omega)
        have HRUN := Lib.hid hrun
        have HR2 : Hid (RwL C w0 H K w q p rd P sk N X (i + 1) (l ++ [yb]) hy v2 w5) := Lib.hid (HR.out.more HJ5.out HK5.out HS5.out (fun _ => hm2) hg2 ho2 HGX.out HGP.out)
        clear gx gp hb5 hsz hm5 hl5 hrun hm2 hg2 ho2
        go_upto_region 9 with fail
        refine wp_region_lit ?_
        refine af rfl (ag rfl (ev rfl)) ?_
        simp only [Act.put, aa, ac, ae]
        refine af (v := .bool false) rfl (aB false rfl (ev rfl) evk rfl) ?_
        simp only [Act.put, aa, ac, ae]
        refine wpList_nil ?_
        go_upto_region 11 with fail
        refine wp_region_lit ?_
        refine af rfl (ag rfl (ev rfl)) ?_
        simp only [Act.put, aa, ac, ae]
        refine af rfl (aG (c := yb) rfl (ev rfl) (aT HY4.out)) ?_
        simp only [Act.put, aa, ac, ae]
        refine af rfl (dO (E := BlkE) (a := yb) rfl (ev rfl) (by simp [blk, Value.cells]; rfl) (by decide)) ?_
        simp only [Act.put, aa, ac, ae]
        refine af rfl (exec_appE (E := BlkE) rfl (ev rfl) (ev rfl) HRUN.out) ?_
        simp only [Act.put, aa, ac, ae]
        refine af rfl (aj rfl (ev rfl)) ?_
        simp only [Act.put, aa, ac, ae]
        refine wpList_nil ?_
        go_upto_region 12 with fail
        refine wp_region_lit ?_
        refine af rfl (bu rfl (ev rfl) evk HIA.out) ?_
        simp only [Act.put, aa, ac, ae]
        refine af rfl (ag rfl (ev rfl)) ?_
        simp only [Act.put, aa, ac, ae]
        refine wpList_nil ?_
        go_wp2_with fail
        go_roundw
        case rel => exact ⟨i + 1, l ++ [yb], hy, by go_num, HI.out, HR2.out⟩
        case measure => have := HI.out; simp [intOf]; omega
      have H0 : Hid ((E != 0) = true) := Lib.hid (bne_iff_ne.2 h0)
      have HXX := Lib.hid (HG3.out h0)
      have HFR := Lib.hid (HR.out.rest HJ4.out HK4.out HS4.out)
      clear h0
      go_upto_region 9 with fail
      refine wp_region_lit ?_
      refine af rfl (ag rfl (ev rfl)) ?_
      simp only [Act.put, aa, ac, ae]
      refine af (v := .bool true) rfl (aB true rfl (ev rfl) evk H0.out) ?_
      simp only [Act.put, aa, ac, ae]
      refine wpList_nil ?_
      go_upto_region 10 with fail
      refine wp_region_lit ?_
      refine af rfl (ag rfl (ev rfl)) ?_
      simp only [Act.put, aa, ac, ae]
      refine af rfl (aj rfl evk) ?_
      simp only [Act.put, aa, ac, ae]
      refine af rfl (aj rfl (ev rfl)) ?_
      simp only [Act.put, aa, ac, ae]
      refine wpList_nil ?_
      go_wp2_with fail
      go_ret2
      rw [HXX.out]
      exact ⟨.slice none 0 0, rfl, aK.nil _ _, HFR.out.2.1.guard (Below.refl _ _) (fun b e => by rcases e with e | e; exact .inl (.inl e); simp [Value.ownBlock] at e), HFR.out.2.2.1, HFR.out.2.2.2.2⟩
    have hin' : i = N := by omega
    subst hin'
    have HLT : Hid (decide ((i : Int) < (i : Int)) = false) := Lib.hid (decide_eq_false (by omega))
    have HXX := Lib.hid HR.out.end_
    clear hin hlt
    go_upto_region 5 with fail
    refine wp_region_lit ?_
    refine af (v := .bool false) rfl (bi false rfl (ev rfl) (ev rfl) HLT.out) ?_
    simp only [Act.put, aa, ac, ae]
    refine wpList_nil ?_
    go_upto_region 13 with fail
    refine wp_region_lit ?_
    refine af rfl (ag rfl (ev rfl)) ?_
    simp only [Act.put, aa, ac, ae]
    refine af rfl (aj rfl (ev rfl)) ?_
    simp only [Act.put, aa, ac, ae]
    refine af rfl (aj rfl evk) ?_
    simp only [Act.put, aa, ac, ae]
    refine wpList_nil ?_
    go_wp2_with fail
    go_ret2
    rw [HXX.out]
    exact ⟨u10, rfl, HR.out.m, HR.out.j, HR.out.k, HR.out.le.2⟩
def rdFu : Fu := ⟨24, [], Tryz.call24⟩
theorem fp_rowR (s : Int) (j : FJ C w0 H K w q p h) (hp : rwP (hrT s) (hrQ s) sk h.R.m.toNat 0 h) (hX : rwK (hrT s) sk h.R.m.toNat 0 h [] = X) : Calls Tryz.prog 23 #[.pointer (some ⟨p, 0, none⟩), .int .i64 s, .int .i64 sk, .func (.func 24) #[] #[]] w fun e w' => ∃ v, e = .returned (.tuple #[v, .int .i64 X.1]) ∧ aK BlkE w' w.heap.size v X.2.1 ∧ FJ C w0 H (fun b => K b ∨ v.ownBlock = some b) w' q p X.2.2 ∧ bm K w w' ∧ w.heap.size ≤ w'.heap.size :=
  fp_row (s := s) (rd := hrT s) (P := hrQ s) rdFu (fun _ _ _ m j hq => j.read s m hq.1 hq.2) j hp hX
theorem fold_made {B : Nat} (hm : aK BlkE w B v l) (hl : l.length ≤ 16) : Calls Tryz.prog 27 #[v] w fun e w' => e = .returned (blk (fold l)) ∧ Below w.heap.size w w' := by
  obtain ⟨A, c, rfl, h1, h2⟩ := hm.form
  exact fold_any A l.length c w.heap.size l w ⟨hm.rd.1, hm.rd.2⟩ (Nat.le_refl _) (by omega)
theorem rw_len {rd : HuS → Int → Int × Blk × HuS} : ∀ (k i : Nat) (h : HuS) (l : List Blk), (rwK rd sk k i h l).2.1.length ≤ l.length + k
  | 0, i, h, l => Nat.le_refl _
  | k + 1, i, h, l => by
    rw [rwK]
    split
    · have := rw_len (rd := rd) k (i + 1) h l; omega
    · split
      · have := rw_len (rd := rd) k (i + 1) (rd h i).2.2 (l ++ [(rd h i).2.1]); rw [List.length_append] at this; simp only [List.length_cons, List.length_nil] at this; omega
      · exact Nat.zero_le _
set_option maxHeartbeats 8000000 in
theorem fp_cell (s m : Int) (j : FJ C w0 H K w q p h) (hp : ftcP h s m) : Calls Tryz.prog 13 #[.pointer (some ⟨p, 0, none⟩), .agg #[.int .i64 s, .int .i64 m]] w fun e w' => e = .returned (.tuple #[blk (ftcF h s m).2.1, .int .i64 (ftcF h s m).1]) ∧ FJ C w0 H K w' q p (ftcF h s m).2.2 ∧ bm K w w' ∧ w.heap.size ≤ w'.heap.size := by
  obtain ⟨hr, hk, h7⟩ := hp
  have hfin := j.is
  have hmm := hrd_m (s := s) (m := m) hfin.1 hr
  have hm16 := fine_m hfin.1
  obtain ⟨E, hE⟩ : ∃ E, cg h s m = E := ⟨_, rfl⟩
  obtain ⟨yb, hyb⟩ : ∃ yb, hrdB h s m = yb := ⟨_, rfl⟩
  obtain ⟨h2, hh2⟩ : ∃ h2, hrdS h s m = h2 := ⟨_, rfl⟩
  rw [hE, hh2] at h7
  rw [hh2] at hmm
  have HRD := Lib.hid (fun (K' : Nat → Prop) (w1 : World) (j1 : FJ C w0 H K' w1 q p h) => hE ▸ hyb ▸ hh2 ▸ j1.read s m hr hk)
  obtain ⟨Z, hZ⟩ : ∃ Z, ftcF h s m = Z := ⟨_, rfl⟩
  rw [hZ]
  have HF : Hid (Z = if E = 7 then ftK s m 16 h2.R.m.toNat 0 h2 al else (E, yb, h2)) := Lib.hid (by rw [← hZ]; unfold ftcF; rw [hE, hyb, hh2, hmm])
  have H7 : Hid (E = 7 → ftP s m h2.R.m.toNat 0 h2) := Lib.hid fun e => by rw [hmm]; exact h7 e
  have HM16 : Hid (h2.R.m.toNat ≤ 16) := Lib.hid (by rw [hmm]; exact hm16)
  have HJ := Lib.hid j
  clear hr hk h7 hfin hmm hm16 hE hyb hh2 j hZ
  go_enter Tryz.func13, Tryz.ntmps13
  go_upto_region 0 with fail
  refine wp_region_lit ?_
  refine af rfl (bZ (cs := ([.int .i64 s, .int .i64 m] : List Value)) rfl (ev rfl)) ?_
  simp only [Act.put, aa, ac, ae]
  have hb0 := (Below.refl w.heap.size w).alloc (Nat.le_refl _) (.cells ([.int .i64 s, .int .i64 m] : List Value).toArray 43)
  have HL1 := Lib.hid (heap_alloc_new w (.cells ([.int .i64 s, .int .i64 m] : List Value).toArray 43))
  have HB1 := Lib.hid (hb0)
  obtain ⟨b3, hb3⟩ : ∃ b3, w.heap.size = b3 := ⟨_, rfl⟩
  have HGb3 : Hid (w.heap.size ≤ b3) := Lib.hid (by rw [← hb3]; exact Nat.le_refl _)
  have HLb3 : Hid (b3 < (w.alloc (.cells ([.int .i64 s, .int .i64 m] : List Value).toArray 43)).heap.size) := Lib.hid (by rw [World.size_alloc]; omega)
  rw [hb3] at HL1 ⊢
  clear hb3 hb0
  generalize w.alloc (.cells ([.int .i64 s, .int .i64 m] : List Value).toArray 43) = w1 at *
  refine af rfl (aU rfl) ?_
  simp only [Act.put, aa, ac, ae]
  have hb0 := (Below.refl w1.heap.size w1).alloc (Nat.le_refl _) (.cells (cel al).toArray 38)
  have HQ2 := Lib.hid (heap_alloc_new w1 (.cells (cel al).toArray 38))
  have HL2 := Lib.hid (ao HL1.out hb0)
  have HB2 := Lib.hid (HB1.out.trans (hb0.mono HB1.out.size))
  obtain ⟨b4, hb4⟩ : ∃ b4, w1.heap.size = b4 := ⟨_, rfl⟩
  have HGb4 : Hid (w.heap.size ≤ b4) := Lib.hid (by rw [← hb4]; exact HB1.out.size)
  have HLb4 : Hid (b4 < (w1.alloc (.cells (cel al).toArray 38)).heap.size) := Lib.hid (by rw [World.size_alloc]; omega)
  rw [hb4] at HQ2 ⊢
  clear hb4 hb0
  generalize w1.alloc (.cells (cel al).toArray 38) = w2 at *
  refine af rfl (aj rfl evk) ?_
  simp only [Act.put, aa, ac, ae]
  refine wpList_nil ?_
  have HJ2 : Hid (FJ C w0 H (fun b => K b ∨ b = b3 ∨ b = b4) w2 q p h) := Lib.hid (HJ.out.guard HB2.out fun b e => by
    have h3 := aH HL2.out
    have h4 := aH HQ2.out
    have g3 := HGb3.out
    have g4 := HGb4.out
    rcases e with e | e | e
    · exact .inl e
    · exact .inr ⟨by omega, by omega⟩
    · exact .inr ⟨by omega, by omega⟩)
  have HN34 : Hid (b3 ≠ b4) := Lib.hid (by
    intro e
    subst e
    have h3 := HL2.out
    rw [HQ2.out] at h3
    injection h3 with h3
    injection h3 with _ h3
    exact absurd h3 (by decide))
  have HKK := Lib.hid (HJ.out.kept HB2.out)
  go_upto_region 1 with fail
  refine wp_region_lit ?_
  refine af rfl (ag rfl (ev rfl)) ?_
  simp only [Act.put, aa, ac, ae]
  refine af rfl (bP (cs := ([.int .i64 s, .int .i64 m] : List Value)) Tryz.underlying43 rfl (by kernel_rfl) rfl (ev rfl) (aT HL2.out)) ?_
  simp only [Act.put, aa, ac, ae]
  refine ak rfl (ap Tryz.call24 rfl (evc (ev rfl) (evc (ev rfl) evn))) ?_
  refine (HRD.out _ w2 HJ2.out).mono ?_
  rintro e w3 ⟨rfl, j3, k3, s3⟩
  have HJ3 := Lib.hid j3
  have HK3 := Lib.hid (HKK.out.trans (k3.less fun b e => .inl e))
  have HS3 : Hid (w.heap.size ≤ w3.heap.size) := Lib.hid (Nat.le_trans HB2.out.size s3)
  have HL3 := Lib.hid (k3.at_ (.inr (.inl rfl)) HL2.out)
  have HQ3 := Lib.hid (k3.at_ (.inr (.inr rfl)) HQ2.out)
  clear j3 k3 s3
  refine ⟨_, rfl, ?_⟩
  simp only [Act.put, aa, ac, ae]
  refine af rfl (ag rfl (ev rfl)) ?_
  simp only [Act.put, aa, ac, ae]
  refine af rfl (ax rfl (ev rfl) rfl) ?_
  simp only [Act.put, aa, ac, ae]
  refine af rfl (ax rfl (ev rfl) rfl) ?_
  simp only [Act.put, aa, ac, ae]
  refine af rfl (aU rfl) ?_
  simp only [Act.put, aa, ac, ae]
  refine av rfl (df (c := yb) rfl (ev rfl) (ev rfl)) ?_
  simp only [Act.put, aa, ac, ae]
  have hb0 := (Below.refl w3.heap.size w3).alloc (Nat.le_refl _) (.cells (cel yb).toArray 38)
  have HX4 := Lib.hid (heap_alloc_new w3 (.cells (cel yb).toArray 38))
  have HL4 := Lib.hid (ao HL3.out hb0)
  have HQ4 := Lib.hid (ao HQ3.out hb0)
  have HJ4 := Lib.hid (HJ3.out.below hb0)
  have HK4 := Lib.hid (HK3.out.trans ((HJ3.out.kept hb0).less fun b e => .inl e))
  have HS4 := Lib.hid (Nat.le_trans HS3.out hb0.size)
  obtain ⟨b6, hb6⟩ : ∃ b6, w3.heap.size = b6 := ⟨_, rfl⟩
  rw [hb6] at HX4 ⊢
  clear hb6 hb0
  generalize w3.alloc (.cells (cel yb).toArray 38) = w4 at *
  refine af rfl (aj rfl (ev rfl)) ?_
  simp only [Act.put, aa, ac, ae]
  refine wpList_nil ?_
  by_cases h7 : E = 7
  rotate_left 1
  · have HH7 : Hid ((E != 7) = true) := Lib.hid (bne_iff_ne.2 h7)
    have hz := HF.out
    rw [if_neg h7] at hz
    clear HF
    subst hz
    clear h7
    go_upto_region 2 with fail
    refine wp_region_lit ?_
    refine af rfl (ag rfl (ev rfl)) ?_
    simp only [Act.put, aa, ac, ae]
    refine af (v := .bool true) rfl (aB true rfl (ev rfl) evk HH7.out) ?_
    simp only [Act.put, aa, ac, ae]
    refine wpList_nil ?_
    go_upto_region 3 with fail
    refine wp_region_lit ?_
    refine af rfl (aG (c := yb) rfl (ev rfl) (aT HX4.out)) ?_
    simp only [Act.put, aa, ac, ae]
    refine af rfl (ag rfl (ev rfl)) ?_
    simp only [Act.put, aa, ac, ae]
    refine av rfl (aP (c := yb) rfl (ev rfl) (ev rfl) (bU HQ4.out)) ?_
    simp only [Act.put, aa, ac, ae]
    refine af rfl (aj rfl (ev rfl)) ?_
    simp only [Act.put, aa, ac, ae]
    refine wpList_nil ?_
    go_wp2_with fail
    refine bodyPost_ret (ch rfl _ _ _ rfl (World.rangeAt_setCells_same _ _ _ _ (by rw [aw]; exact bU HQ4.out))) rfl ⟨rfl, ?_⟩
    have ho : Only (fun b => b = b4) w4 (w4.setCells b4 0 (cel yb)) := (Only.refl (fun b => b = b4) w4).setCells (b := b4) (.inl rfl) (cel yb) 0
    refine ⟨(HJ4.out.mine (.inr (.inr rfl)) (Nat.le_trans HJ.out.size HGb4.out) ho).less fun b e => .inl e, HK4.out.trans (bm.of_only ho fun b e => ⟨by have := HJ.out.lt e; have := HGb4.out; omega, by have := HJ.out.lt e; have := HS4.out; omega⟩), Nat.le_trans HS4.out ho.size⟩
  subst h7
  obtain ⟨X, hX⟩ : ∃ X, rwK (hrT s) m h2.R.m.toNat 0 h2 [] = X := ⟨_, rfl⟩
  have hft := ft_rw (s := s) (sk := m) (no := 16) h2.R.m.toNat 0 h2 []
  have hfz : fold [] = al := rfl
  rw [hfz, hX] at hft
  have HF2 : Hid (Z = (if X.1 = 7 then 16 else X.1, if X.1 = 0 then fold X.2.1 else al, X.2.2)) := Lib.hid (by rw [HF.out, if_pos rfl, hft])
  have hxl := rw_len (rd := hrT s) (sk := m) h2.R.m.toNat 0 h2 []
  rw [hX] at hxl
  have HXL : Hid (X.2.1.length ≤ 16) := Lib.hid (Nat.le_trans hxl (by simpa using HM16.out))
  have HRW := Lib.hid (fp_rowR s HJ4.out (ftp_rw _ _ _ (H7.out rfl)) hX)
  clear HF
  obtain ⟨e5, l5, h5⟩ := X
  simp only at hxl
  clear hX hft hfz hxl
  go_upto_region 2 with fail
  refine wp_region_lit ?_
  refine af rfl (ag rfl (ev rfl)) ?_
  simp only [Act.put, aa, ac, ae]
  refine af (v := .bool false) rfl (aB false rfl (ev rfl) evk rfl) ?_
  simp only [Act.put, aa, ac, ae]
  refine wpList_nil ?_
  go_upto_region 4 with fail
  refine wp_region_lit ?_
  refine af rfl (ag rfl (ev rfl)) ?_
  simp only [Act.put, aa, ac, ae]
  refine af rfl (am rfl (ev rfl) faPmF0) ?_
  simp only [Act.put, aa, ac, ae]
  refine af rfl (au rfl (ev rfl) (bF (k := s) ((aT HL4.out) 0 _ rfl))) ?_
  simp only [Act.put, aa, ac, ae]
  refine af rfl (am rfl (ev rfl) faPmF1) ?_
  simp only [Act.put, aa, ac, ae]
  refine af rfl (au rfl (ev rfl) (bF (k := m) ((aT HL4.out) 1 _ rfl))) ?_
  simp only [Act.put, aa, ac, ae]
  refine ak rfl (ap Tryz.call23 rfl (evc (ev rfl) (evc (ev rfl) (evc (ev rfl) (evc rfl evn))))) ?_
  refine (HRW.out).mono ?_
  rintro e w5 ⟨v5, rfl, m5, j5, k5, s5⟩
  have HV5 := Lib.hid m5
  have HJ5 := Lib.hid j5
  have HK5 := Lib.hid (HK4.out.trans (k5.less fun b e => .inl e))
  have HS5 := Lib.hid (Nat.le_trans HS4.out s5)
  have HQ5 := Lib.hid (k5.at_ (.inr (.inr rfl)) HQ4.out)
  clear m5 j5 k5 s5
  refine ⟨_, rfl, ?_⟩
  simp only [Act.put, aa, ac, ae]
  refine af rfl (ag rfl (ev rfl)) ?_
  simp only [Act.put, aa, ac, ae]
  refine af rfl (ax rfl (ev rfl) rfl) ?_
  simp only [Act.put, aa, ac, ae]
  refine af rfl (ax rfl (ev rfl) rfl) ?_
  simp only [Act.put, aa, ac, ae]
  refine af rfl (aj rfl (ev rfl)) ?_
  simp only [Act.put, aa, ac, ae]
  refine af rfl (aj rfl (ev rfl)) ?_
  simp only [Act.put, aa, ac, ae]
  refine wpList_nil ?_
  by_cases h0 : e5 = 0
  rotate_left 1
  · have H0 : Hid ((e5 != 0) = true) := Lib.hid (bne_iff_ne.2 h0)
    obtain ⟨en, hen⟩ : ∃ en, (if e5 = 7 then 16 else e5) = en := ⟨_, rfl⟩
    have HEN := Lib.hid hen
    have hz : Z = (en, al, h5) := by rw [HF2.out, ← hen]; show (_, (if e5 = 0 then fold l5 else al), _) = _; rw [if_neg h0]
    clear HF2 hen
    subst hz
    clear h0
    go_upto_region 5 with fail
    refine wp_region_lit ?_
    refine af rfl (ag rfl (ev rfl)) ?_
    simp only [Act.put, aa, ac, ae]
    refine af (v := .bool true) rfl (aB true rfl (ev rfl) evk H0.out) ?_
    simp only [Act.put, aa, ac, ae]
    refine wpList_nil ?_
    go_upto_region 6 with fail
    refine wp_region_lit ?_
    refine af rfl (exec_bldZB rfl) ?_
    simp only [Act.put, aa, ac, ae]
    refine af rfl (ag rfl (ev rfl)) ?_
    simp only [Act.put, aa, ac, ae]
    refine ak rfl (ap Tryz.call25 rfl (evc (ev rfl) (evc evk evn))) ?_
    refine (fp_named e5 16 w5).mono ?_
    rintro e w6 ⟨rfl, rfl⟩
    rw [HEN.out]
    refine ⟨_, rfl, ?_⟩
    simp only [Act.put, aa, ac, ae]
    refine av rfl (aP (c := al) rfl (ev rfl) (ev rfl) (bU HQ5.out)) ?_
    simp only [Act.put, aa, ac, ae]
    refine af rfl (aj rfl (ev rfl)) ?_
    simp only [Act.put, aa, ac, ae]
    refine wpList_nil ?_
    go_wp2_with fail
    refine bodyPost_ret (ch rfl _ _ _ rfl (World.rangeAt_setCells_same _ _ _ _ (by rw [aw]; exact bU HQ5.out))) rfl ⟨rfl, ?_⟩
    have ho : Only (fun b => b = b4) w5 (w5.setCells b4 0 (cel al)) := (Only.refl (fun b => b = b4) w5).setCells (b := b4) (.inl rfl) (cel al) 0
    refine ⟨(HJ5.out.mine (.inl (.inr (.inr rfl))) (Nat.le_trans HJ.out.size HGb4.out) ho).less fun b e => .inl (.inl e), HK5.out.trans (bm.of_only ho fun b e => ⟨by have := HJ.out.lt e; have := HGb4.out; omega, by have := HJ.out.lt e; have := HS5.out; omega⟩), Nat.le_trans HS5.out ho.size⟩
  subst h0
  obtain ⟨fb, hfb⟩ : ∃ fb, fold l5 = fb := ⟨_, rfl⟩
  have HFB := Lib.hid hfb
  have hz : Z = (0, fb, h5) := by rw [HF2.out, ← hfb]; rfl
  clear HF2 hfb
  subst hz
  go_upto_region 5 with fail
  refine wp_region_lit ?_
  refine af rfl (ag rfl (ev rfl)) ?_
  simp only [Act.put, aa, ac, ae]
  refine af (v := .bool false) rfl (aB false rfl (ev rfl) evk rfl) ?_
  simp only [Act.put, aa, ac, ae]
  refine wpList_nil ?_
  go_upto_region 7 with fail
  refine wp_region_lit ?_
  refine af rfl (ag rfl (ev rfl)) ?_
  simp only [Act.put, aa, ac, ae]
  refine ak rfl (ap Tryz.call27 rfl (evc (ev rfl) evn)) ?_
  refine (fold_made HV5.out HXL.out).mono ?_
  rintro e w6 ⟨rfl, b6'⟩
  have HJ6 := Lib.hid (HJ5.out.below b6')
  have HK6 := Lib.hid (HK5.out.trans ((HJ5.out.kept b6').less fun b e => .inl (.inl e)))
  have HS6 := Lib.hid (Nat.le_trans HS5.out b6'.size)
  have HQ6 := Lib.hid (ao HQ5.out b6')
  clear b6'
  rw [HFB.out]
  refine ⟨_, rfl, ?_⟩
  simp only [Act.put, aa, ac, ae]
  refine av rfl (aP (c := fb) rfl (ev rfl) (ev rfl) (bU HQ6.out)) ?_
  simp only [Act.put, aa, ac, ae]
  refine af rfl (aj rfl evk) ?_
  simp only [Act.put, aa, ac, ae]
  refine wpList_nil ?_
  go_wp2_with fail
  refine bodyPost_ret (ch rfl _ _ _ rfl (World.rangeAt_setCells_same _ _ _ _ (by rw [aw]; exact bU HQ6.out))) rfl ⟨rfl, ?_⟩
  have ho : Only (fun b => b = b4) w6 (w6.setCells b4 0 (cel fb)) := (Only.refl (fun b => b = b4) w6).setCells (b := b4) (.inl rfl) (cel fb) 0
  refine ⟨(HJ6.out.mine (.inl (.inr (.inr rfl))) (Nat.le_trans HJ.out.size HGb4.out) ho).less fun b e => .inl (.inl e), HK6.out.trans (bm.of_only ho fun b e => ⟨by have := HJ.out.lt e; have := HGb4.out; omega, by have := HJ.out.lt e; have := HS6.out; omega⟩), Nat.le_trans HS6.out ho.size⟩
def ceFu : Fu := ⟨13, [], Tryz.call13⟩
theorem fts_is (hf : aI h.R = true) (hp : ftsP h s) : rwK (fun h m => ftcF h s m) (-1) h.R.m.toNat 0 h [] = ftsF h s ∧ rwP (fun h m => ftcF h s m) (fun h m => ftcP h s m) (-1) h.R.m.toNat 0 h := by
  obtain ⟨hr, hq⟩ := hp
  obtain ⟨hm1, hm2, _⟩ := cX (cv hf).1
  cases hs : strQ h s with
  | true => exact ⟨by unfold ftsF; rw [if_pos hs, fts_rw], ftsp_rw _ _ _ (hq hs)⟩
  | false =>
    obtain ⟨a1, a2⟩ := ftc_arg (m := 0) hr hs
    obtain ⟨N, hN⟩ : ∃ N, h.R.m.toNat = N + 1 := ⟨h.R.m.toNat - 1, by omega⟩
    rw [hN]
    obtain ⟨b1, b2⟩ := rw_arg (sk := -1) (h := h) (k := N) (rd := fun h m => ftcF h s m) (P := fun h m => ftcP h s m) (by decide) (by rw [a1]) (by rw [a1]) a2 []
    exact ⟨by rw [b1]; unfold ftsF; rw [if_neg (by rw [hs]; decide)], b2⟩
theorem ftq_is (hf : aI h.R = true) (hp : ftqP h s) : ∃ X, rwK (hrT s) (-1) h.R.m.toNat 0 h [] = X ∧ rwP (hrT s) (hrQ s) (-1) h.R.m.toNat 0 h ∧ X.2.1.length ≤ 16 ∧ (X.1 ≠ 0 → ftqF h s = (if X.1 = 7 then 17 else X.1, false, X.2.2)) ∧ (X.1 = 0 → ftqF h s = (0, decide (fold X.2.1 = al), X.2.2)) := by
  obtain ⟨hr, hq⟩ := hp
  obtain ⟨hm1, hm2, _⟩ := cX (cv hf).1
  have hl := rw_len (rd := hrT s) (sk := -1) h.R.m.toNat 0 h []
  refine ⟨_, rfl, ?_⟩
  cases hs : strQ h s with
  | true =>
    have hft := ft_rw (s := s) (sk := -1) (no := 17) h.R.m.toNat 0 h []
    rw [show fold [] = al from rfl] at hft
    refine ⟨ftp_rw _ _ _ (hq hs), by simp only [List.length_nil] at hl; omega, fun e => ?_, fun e => ?_⟩
    · unfold ftqF
      rw [if_pos hs, hft, if_neg e]
      have : ¬ (if (rwK (hrT s) (-1) h.R.m.toNat 0 h []).1 = 7 then (17 : Int) else (rwK (hrT s) (-1) h.R.m.toNat 0 h []).1) = 0 := by split <;> omega
      simp only [decide_eq_false this, Bool.false_and]
    · unfold ftqF
      rw [if_pos hs, hft, if_pos e, e]
      simp
  | false =>
    obtain ⟨N, hN⟩ : ∃ N, h.R.m.toNat = N + 1 := ⟨h.R.m.toNat - 1, by omega⟩
    obtain ⟨a1, a2, a3, a4⟩ := hrd_arg (m := 0) hs
    rw [hN]
    obtain ⟨b1, b2⟩ := rw_arg (sk := -1) (h := h) (k := N) (rd := hrT s) (P := hrQ s) (by decide) a1 a2 ⟨hr, a4⟩ []
    rw [b1]
    refine ⟨b2, Nat.zero_le _, fun _ => by unfold ftqF; rw [if_neg (by rw [hs]; decide)]; rfl, fun e => absurd e (show ¬ (2 : Int) = 0 by decide)⟩
set_option maxHeartbeats 4000000 in
theorem fp_stripe (s : Int) (j : FJ C w0 H K w q p h) (hp : ftsP h s) : Calls Tryz.prog 10 #[.pointer (some ⟨p, 0, none⟩), .int .i64 s] w fun e w' => ∃ v, e = .returned (.tuple #[v, .int .i64 (ftsF h s).1]) ∧ aK BlkE w' w.heap.size v (ftsF h s).2.1 ∧ FJ C w0 H (fun b => K b ∨ v.ownBlock = some b) w' q p (ftsF h s).2.2 ∧ bm K w w' ∧ w.heap.size ≤ w'.heap.size := by
  obtain ⟨g1, g2⟩ := fts_is j.is.1 hp
  have HRW := Lib.hid (fp_row (s := s) (sk := -1) (rd := fun h m => ftcF h s m) (P := fun h m => ftcP h s m) ceFu (fun _ _ _ m j hq => fp_cell s m j hq) j g2 g1)
  obtain ⟨X, hX⟩ : ∃ X, ftsF h s = X := ⟨_, rfl⟩
  rw [hX] at HRW ⊢
  obtain ⟨e5, l5, h5⟩ := X
  clear g1 g2 hp j hX
  go_enter Tryz.func10, Tryz.ntmps10
  go_upto_region 1 with fail
  refine wp_region_lit ?_
  refine af rfl (ag rfl (ev rfl)) ?_
  simp only [Act.put, aa, ac, ae]
  refine af rfl (ag rfl (ev rfl)) ?_
  simp only [Act.put, aa, ac, ae]
  refine ak rfl (ap Tryz.call23 rfl (evc (ev rfl) (evc (ev rfl) (evc evk (evc rfl evn))))) ?_
  refine (HRW.out).mono ?_
  rintro e w5 ⟨v5, rfl, m5, j5, k5, s5⟩
  refine ⟨_, rfl, ?_⟩
  simp only [Act.put, aa, ac, ae]
  refine af rfl (ax rfl (ev rfl) rfl) ?_
  simp only [Act.put, aa, ac, ae]
  refine af rfl (ax rfl (ev rfl) rfl) ?_
  simp only [Act.put, aa, ac, ae]
  refine af rfl (aj rfl (ev rfl)) ?_
  simp only [Act.put, aa, ac, ae]
  refine af rfl (aj rfl (ev rfl)) ?_
  simp only [Act.put, aa, ac, ae]
  refine wpList_nil ?_
  go_wp2_with fail
  go_ret2
  exact ⟨v5, rfl, m5, j5, k5, s5⟩
set_option maxHeartbeats 4000000 in
theorem fp_sound (s : Int) (j : FJ C w0 H K w q p h) (hp : ftqP h s) : Calls Tryz.prog 8 #[.pointer (some ⟨p, 0, none⟩), .int .i64 s] w fun e w' => e = .returned (.tuple #[.bool (ftqF h s).2.1, .int .i64 (ftqF h s).1]) ∧ FJ C w0 H K w' q p (ftqF h s).2.2 ∧ bm K w w' ∧ w.heap.size ≤ w'.heap.size := by
  obtain ⟨X, hX, g2, g3, g4, g5⟩ := ftq_is j.is.1 hp
  have HRW := Lib.hid (fp_rowR s j g2 hX)
  obtain ⟨e5, l5, h5⟩ := X
  have HX0 : Hid (e5 = 0 → ftqF h s = (0, decide (fold l5 = al), h5)) := Lib.hid g5
  have HX1 : Hid (e5 ≠ 0 → ftqF h s = (if e5 = 7 then 17 else e5, false, h5)) := Lib.hid g4
  have HXL : Hid (l5.length ≤ 16) := Lib.hid g3
  obtain ⟨Y, hY⟩ : ∃ Y, ftqF h s = Y := ⟨_, rfl⟩
  rw [hY] at HX0 HX1 ⊢
  clear hX g2 g3 g4 g5 hp j hY
  go_enter Tryz.func8, Tryz.ntmps8
  go_upto_region 1 with fail
  refine wp_region_lit ?_
  refine af rfl (ag rfl (ev rfl)) ?_
  simp only [Act.put, aa, ac, ae]
  refine af rfl (ag rfl (ev rfl)) ?_
  simp only [Act.put, aa, ac, ae]
  refine ak rfl (ap Tryz.call23 rfl (evc (ev rfl) (evc (ev rfl) (evc evk (evc rfl evn))))) ?_
  refine (HRW.out).mono ?_
  rintro e w5 ⟨v5, rfl, m5, j5, k5, s5⟩
  have HV5 := Lib.hid m5
  have HJ5 := Lib.hid j5
  have HK5 := Lib.hid k5
  have HS5 := Lib.hid s5
  clear m5 j5 k5 s5
  refine ⟨_, rfl, ?_⟩
  simp only [Act.put, aa, ac, ae]
  refine af rfl (ag rfl (ev rfl)) ?_
  simp only [Act.put, aa, ac, ae]
  refine af rfl (ax rfl (ev rfl) rfl) ?_
  simp only [Act.put, aa, ac, ae]
  refine af rfl (ax rfl (ev rfl) rfl) ?_
  simp only [Act.put, aa, ac, ae]
  refine af rfl (aj rfl (ev rfl)) ?_
  simp only [Act.put, aa, ac, ae]
  refine af rfl (aj rfl (ev rfl)) ?_
  simp only [Act.put, aa, ac, ae]
  refine wpList_nil ?_
  by_cases h0 : e5 = 0
  rotate_left 1
  · have H0 : Hid ((e5 != 0) = true) := Lib.hid (bne_iff_ne.2 h0)
    obtain ⟨en, hen⟩ : ∃ en, (if e5 = 7 then 17 else e5) = en := ⟨_, rfl⟩
    have HEN := Lib.hid hen
    have hz : Y = (en, false, h5) := by rw [HX1.out h0, hen]
    clear HX1 HX0 hen
    subst hz
    clear h0
    go_upto_region 2 with fail
    refine wp_region_lit ?_
    refine af rfl (ag rfl (ev rfl)) ?_
    simp only [Act.put, aa, ac, ae]
    refine af (v := .bool true) rfl (aB true rfl (ev rfl) evk H0.out) ?_
    simp only [Act.put, aa, ac, ae]
    refine wpList_nil ?_
    go_upto_region 3 with fail
    refine wp_region_lit ?_
    refine af rfl (ag rfl (ev rfl)) ?_
    simp only [Act.put, aa, ac, ae]
    refine ak rfl (ap Tryz.call25 rfl (evc (ev rfl) (evc evk evn))) ?_
    refine (fp_named e5 17 w5).mono ?_
    rintro e w6 ⟨rfl, rfl⟩
    rw [HEN.out]
    refine ⟨_, rfl, ?_⟩
    simp only [Act.put, aa, ac, ae]
    refine af (v := .bool false) rfl (aj rfl evk) ?_
    simp only [Act.put, aa, ac, ae]
    refine af rfl (aj rfl (ev rfl)) ?_
    simp only [Act.put, aa, ac, ae]
    refine wpList_nil ?_
    go_wp2_with fail
    go_ret2
    exact ⟨rfl, HJ5.out.less fun b e => .inl e, HK5.out, HS5.out⟩
  subst h0
  obtain ⟨tt, htt⟩ : ∃ tt, decide (fold l5 = al) = tt := ⟨_, rfl⟩
  have HTT := Lib.hid htt
  have hz : Y = (0, tt, h5) := by rw [HX0.out rfl, htt]
  clear HX1 HX0 htt
  subst hz
  go_upto_region 2 with fail
  refine wp_region_lit ?_
  refine af rfl (ag rfl (ev rfl)) ?_
  simp only [Act.put, aa, ac, ae]
  refine af (v := .bool false) rfl (aB false rfl (ev rfl) evk rfl) ?_
  simp only [Act.put, aa, ac, ae]
  refine wpList_nil ?_
  go_upto_region 4 with fail
  refine wp_region_lit ?_
  refine af rfl (ag rfl (ev rfl)) ?_
  simp only [Act.put, aa, ac, ae]
  refine ak rfl (ap Tryz.call27 rfl (evc (ev rfl) evn)) ?_
  refine (fold_made HV5.out HXL.out).mono ?_
  rintro e w6 ⟨rfl, b6⟩
  have HJ6 := Lib.hid (HJ5.out.below b6)
  have HK6 := Lib.hid (HK5.out.trans ((HJ5.out.kept b6).less fun b e => .inl e))
  have HS6 := Lib.hid (Nat.le_trans HS5.out b6.size)
  clear b6
  refine ⟨_, rfl, ?_⟩
  simp only [Act.put, aa, ac, ae]
  refine ak rfl (ap Tryz.call26 rfl (evc (ev rfl) evn)) ?_
  refine (fp_zero (fold l5) w6).mono ?_
  rintro e w7 ⟨rfl, b7⟩
  rw [HTT.out]
  have HJ7 := Lib.hid (HJ6.out.below b7)
  have HK7 := Lib.hid (HK6.out.trans ((HJ6.out.kept b7).less fun b e => .inl e))
  have HS7 := Lib.hid (Nat.le_trans HS6.out b7.size)
  clear b7
  refine ⟨_, rfl, ?_⟩
  simp only [Act.put, aa, ac, ae]
  refine af rfl (aj rfl (ev rfl)) ?_
  simp only [Act.put, aa, ac, ae]
  refine af rfl (aj rfl evk) ?_
  simp only [Act.put, aa, ac, ae]
  refine wpList_nil ?_
  go_wp2_with fail
  go_ret2
  exact ⟨rfl, HJ7.out.less fun b e => .inl e, HK7.out, HS7.out⟩
theorem fp_row0 (C : HulI) (f v : Value) (s sk : Int) (hn : C.No w v) : Calls Tryz.prog 23 #[v, .int .i64 s, .int .i64 sk, f] w fun e w' => e = .returned (.tuple #[.slice none 0 0, .int .i64 1]) ∧ Below w.heap.size w w' := by
  have HN := Lib.hid hn
  clear hn
  go_enter Tryz.func23, Tryz.ntmps23
  go_upto_region 1 with fail
  refine wp_region_lit ?_
  refine af rfl (ag rfl (ev rfl)) ?_
  simp only [Act.put, aa, ac, ae]
  refine ak rfl (ap Tryz.call51 rfl (evc (ev rfl) evn)) ?_
  refine (C.no_id w v HN.out).mono ?_
  rintro e w1 ⟨rfl, b1⟩
  refine ⟨_, rfl, ?_⟩
  simp only [Act.put, aa, ac, ae]
  refine af (v := .bool true) rfl (ar true rfl (ev rfl) evk rfl) ?_
  simp only [Act.put, aa, ac, ae]
  refine wpList_nil ?_
  go_upto_region 2 with fail
  refine wp_region_lit ?_
  refine af rfl (aj rfl evk) ?_
  simp only [Act.put, aa, ac, ae]
  refine af rfl (aj rfl evk) ?_
  simp only [Act.put, aa, ac, ae]
  refine wpList_nil ?_
  go_wp2_with fail
  go_ret2
  exact ⟨rfl, b1⟩
theorem fp_stripe0 (C : HulI) (v : Value) (s : Int) (hn : C.No w v) : Calls Tryz.prog 10 #[v, .int .i64 s] w fun e w' => e = .returned (.tuple #[.slice none 0 0, .int .i64 1]) ∧ Below w.heap.size w w' := by
  have HN := Lib.hid hn
  clear hn
  go_enter Tryz.func10, Tryz.ntmps10
  go_upto_region 1 with fail
  refine wp_region_lit ?_
  refine af rfl (ag rfl (ev rfl)) ?_
  simp only [Act.put, aa, ac, ae]
  refine af rfl (ag rfl (ev rfl)) ?_
  simp only [Act.put, aa, ac, ae]
  refine ak rfl (ap Tryz.call23 rfl (evc (ev rfl) (evc (ev rfl) (evc evk (evc rfl evn))))) ?_
  refine (fp_row0 C _ v s (-1) HN.out).mono ?_
  rintro e w1 ⟨rfl, b1⟩
  refine ⟨_, rfl, ?_⟩
  simp only [Act.put, aa, ac, ae]
  refine af rfl (ax rfl (ev rfl) rfl) ?_
  simp only [Act.put, aa, ac, ae]
  refine af rfl (ax rfl (ev rfl) rfl) ?_
  simp only [Act.put, aa, ac, ae]
  refine af rfl (aj rfl (ev rfl)) ?_
  simp only [Act.put, aa, ac, ae]
  refine af rfl (aj rfl (ev rfl)) ?_
  simp only [Act.put, aa, ac, ae]
  refine wpList_nil ?_
  go_wp2_with fail
  go_ret2
  exact ⟨rfl, b1⟩
theorem fp_sound0 (C : HulI) (v : Value) (s : Int) (hn : C.No w v) : Calls Tryz.prog 8 #[v, .int .i64 s] w fun e w' => e = .returned (.tuple #[.bool false, .int .i64 1]) ∧ Below w.heap.size w w' := by
  have HN := Lib.hid hn
  clear hn
  go_enter Tryz.func8, Tryz.ntmps8
  go_upto_region 1 with fail
  refine wp_region_lit ?_
  refine af rfl (ag rfl (ev rfl)) ?_
  simp only [Act.put, aa, ac, ae]
  refine af rfl (ag rfl (ev rfl)) ?_
  simp only [Act.put, aa, ac, ae]
  refine ak rfl (ap Tryz.call23 rfl (evc (ev rfl) (evc (ev rfl) (evc evk (evc rfl evn))))) ?_
  refine (fp_row0 C _ v s (-1) HN.out).mono ?_
  rintro e w1 ⟨rfl, b1⟩
  have HB1 := Lib.hid b1
  clear b1
  refine ⟨_, rfl, ?_⟩
  simp only [Act.put, aa, ac, ae]
  refine af rfl (ag rfl (ev rfl)) ?_
  simp only [Act.put, aa, ac, ae]
  refine af rfl (ax rfl (ev rfl) rfl) ?_
  simp only [Act.put, aa, ac, ae]
  refine af rfl (ax rfl (ev rfl) rfl) ?_
  simp only [Act.put, aa, ac, ae]
  refine af rfl (aj rfl (ev rfl)) ?_
  simp only [Act.put, aa, ac, ae]
  refine af rfl (aj rfl (ev rfl)) ?_
  simp only [Act.put, aa, ac, ae]
  refine wpList_nil ?_
  go_upto_region 2 with fail
  refine wp_region_lit ?_
  refine af rfl (ag rfl (ev rfl)) ?_
  simp only [Act.put, aa, ac, ae]
  refine af (v := .bool true) rfl (aB true rfl (ev rfl) evk rfl) ?_
  simp only [Act.put, aa, ac, ae]
  refine wpList_nil ?_
  go_upto_region 3 with fail
  refine wp_region_lit ?_
  refine af rfl (ag rfl (ev rfl)) ?_
  simp only [Act.put, aa, ac, ae]
  refine ak rfl (ap Tryz.call25 rfl (evc (ev rfl) (evc evk evn))) ?_
  refine (fp_named 1 17 w1).mono ?_
  rintro e w6 ⟨rfl, rfl⟩
  refine ⟨_, rfl, ?_⟩
  simp only [Act.put, aa, ac, ae]
  refine af (v := .bool false) rfl (aj rfl evk) ?_
  simp only [Act.put, aa, ac, ae]
  refine af rfl (aj rfl (ev rfl)) ?_
  simp only [Act.put, aa, ac, ae]
  refine wpList_nil ?_
  go_wp2_with fail
  go_ret2
  exact ⟨rfl, HB1.out⟩
set_option maxHeartbeats 4000000 in
theorem fp_cell0 (C : HulI) (v : Value) (s m : Int) (hn : C.No w v) : Calls Tryz.prog 13 #[v, .agg #[.int .i64 s, .int .i64 m]] w fun e w' => e = .returned (.tuple #[blk al, .int .i64 1]) ∧ Below w.heap.size w w' := by
  have HN := Lib.hid hn
  clear hn
  go_enter Tryz.func13, Tryz.ntmps13
  go_upto_region 0 with fail
  refine wp_region_lit ?_
  refine af rfl (bZ (cs := ([.int .i64 s, .int .i64 m] : List Value)) rfl (ev rfl)) ?_
  simp only [Act.put, aa, ac, ae]
  have hb0 := (Below.refl w.heap.size w).alloc (Nat.le_refl _) (.cells ([.int .i64 s, .int .i64 m] : List Value).toArray 43)
  have HL1 := Lib.hid (heap_alloc_new w (.cells ([.int .i64 s, .int .i64 m] : List Value).toArray 43))
  have HB1 := Lib.hid (hb0)
  obtain ⟨b3, hb3⟩ : ∃ b3, w.heap.size = b3 := ⟨_, rfl⟩
  have HGb3 : Hid (w.heap.size ≤ b3) := Lib.hid (by rw [← hb3]; exact Nat.le_refl _)
  have HLb3 : Hid (b3 < (w.alloc (.cells ([.int .i64 s, .int .i64 m] : List Value).toArray 43)).heap.size) := Lib.hid (by rw [World.size_alloc]; omega)
  rw [hb3] at HL1 ⊢
  clear hb3 hb0
  generalize w.alloc (.cells ([.int .i64 s, .int .i64 m] : List Value).toArray 43) = w1 at *
  refine af rfl (aU rfl) ?_
  simp only [Act.put, aa, ac, ae]
  have hb0 := (Below.refl w1.heap.size w1).alloc (Nat.le_refl _) (.cells (cel al).toArray 38)
  have HQ2 := Lib.hid (heap_alloc_new w1 (.cells (cel al).toArray 38))
  have HL2 := Lib.hid (ao HL1.out hb0)
  have HB2 := Lib.hid (HB1.out.trans (hb0.mono HB1.out.size))
  obtain ⟨b4, hb4⟩ : ∃ b4, w1.heap.size = b4 := ⟨_, rfl⟩
  have HGb4 : Hid (w.heap.size ≤ b4) := Lib.hid (by rw [← hb4]; exact HB1.out.size)
  have HLb4 : Hid (b4 < (w1.alloc (.cells (cel al).toArray 38)).heap.size) := Lib.hid (by rw [World.size_alloc]; omega)
  rw [hb4] at HQ2 ⊢
  clear hb4 hb0
  generalize w1.alloc (.cells (cel al).toArray 38) = w2 at *
  refine af rfl (aj rfl evk) ?_
  simp only [Act.put, aa, ac, ae]
  refine wpList_nil ?_
  have HN2 := Lib.hid (C.no_below HN.out HB2.out)
  go_upto_region 1 with fail
  refine wp_region_lit ?_
  refine af rfl (ag rfl (ev rfl)) ?_
  simp only [Act.put, aa, ac, ae]
  refine af rfl (bP (cs := ([.int .i64 s, .int .i64 m] : List Value)) Tryz.underlying43 rfl (by kernel_rfl) rfl (ev rfl) (aT HL2.out)) ?_
  simp only [Act.put, aa, ac, ae]
  refine ak rfl (ap Tryz.call24 rfl (evc (ev rfl) (evc (ev rfl) evn))) ?_
  refine (C.no_read w2 v s m HN2.out).mono ?_
  rintro e w3 ⟨rfl, b3'⟩
  have HB3 := Lib.hid (HB2.out.trans (b3'.mono HB2.out.size))
  have HQ3 := Lib.hid (ao HQ2.out b3')
  clear b3'
  refine ⟨_, rfl, ?_⟩
  simp only [Act.put, aa, ac, ae]
  refine af rfl (ag rfl (ev rfl)) ?_
  simp only [Act.put, aa, ac, ae]
  refine af rfl (ax rfl (ev rfl) rfl) ?_
  simp only [Act.put, aa, ac, ae]
  refine af rfl (ax rfl (ev rfl) rfl) ?_
  simp only [Act.put, aa, ac, ae]
  refine af rfl (aU rfl) ?_
  simp only [Act.put, aa, ac, ae]
  refine av rfl (df (c := al) rfl (ev rfl) (ev rfl)) ?_
  simp only [Act.put, aa, ac, ae]
  have hb0 := (Below.refl w3.heap.size w3).alloc (Nat.le_refl _) (.cells (cel al).toArray 38)
  have HX4 := Lib.hid (heap_alloc_new w3 (.cells (cel al).toArray 38))
  have HQ4 := Lib.hid (ao HQ3.out hb0)
  have HB4 := Lib.hid (HB3.out.trans (hb0.mono HB3.out.size))
  obtain ⟨b6, hb6⟩ : ∃ b6, w3.heap.size = b6 := ⟨_, rfl⟩
  rw [hb6] at HX4 ⊢
  clear hb6 hb0
  generalize w3.alloc (.cells (cel al).toArray 38) = w4 at *
  refine af rfl (aj rfl (ev rfl)) ?_
  simp only [Act.put, aa, ac, ae]
  refine wpList_nil ?_
  go_upto_region 2 with fail
  refine wp_region_lit ?_
  refine af rfl (ag rfl (ev rfl)) ?_
  simp only [Act.put, aa, ac, ae]
  refine af (v := .bool true) rfl (aB true rfl (ev rfl) evk rfl) ?_
  simp only [Act.put, aa, ac, ae]
  refine wpList_nil ?_
  go_upto_region 3 with fail
  refine wp_region_lit ?_
  refine af rfl (aG (c := al) rfl (ev rfl) (aT HX4.out)) ?_
  simp only [Act.put, aa, ac, ae]
  refine af rfl (ag rfl (ev rfl)) ?_
  simp only [Act.put, aa, ac, ae]
  refine av rfl (aP (c := al) rfl (ev rfl) (ev rfl) (bU HQ4.out)) ?_
  simp only [Act.put, aa, ac, ae]
  refine af rfl (aj rfl (ev rfl)) ?_
  simp only [Act.put, aa, ac, ae]
  refine wpList_nil ?_
  go_wp2_with fail
  exact bodyPost_ret (ch rfl _ _ _ rfl (World.rangeAt_setCells_same _ _ _ _ (by rw [aw]; exact bU HQ4.out))) rfl ⟨rfl, below_setCells HB4.out HGb4.out _⟩
theorem theFet (C : HulI) : FetI C where
  cell := fun {w G q p h} s m j hc hp => (fp_cell s m (FJ.start j hc) hp).mono fun e w' ⟨k0, k1, _⟩ => ⟨k0, k1.fin⟩
  stripe := fun {w G q p h} s j hc hp => (fp_stripe s (FJ.start j hc) hp).mono fun e w' ⟨v, k0, km, k1, _⟩ => by
    obtain ⟨G', g1, g2, g3, g4, _⟩ := k1
    exact ⟨v, G', k0, km, fun b hb => (g4 b (.inr hb)).1, g1, g2, g3⟩
  sound := fun {w G q p h} s j hc hp => (fp_sound s (FJ.start j hc) hp).mono fun e w' ⟨k0, k1, _⟩ => ⟨k0, k1.fin⟩
  no_cell := fun w v s m hn => (fp_cell0 C v s m hn).mono fun e w' ⟨k0, k1⟩ => ⟨⟨al, k0⟩, k1⟩
  no_stripe := fun w v s hn => fp_stripe0 C v s hn
  no_sound := fun w v s hn => fp_sound0 C v s hn
end
end Go.Proofs.YtheponmdbmloaaaGreatDoor
