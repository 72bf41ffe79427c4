import Derived.Test.YtheponmdbmloaaaGreatDoorFsao
import Derived.Test.YtheponmdbmloaaaGreatDoorFsan
import Derived.Test.YtheponmdbmloaaaGreatDoorFsak
import Derived.Test.YtheponmdbmloaaaGreatDoorFsaa
import Derived.Test.YtheponmdbmloaaaGreatDoorFsal
import Derived.Laws.EntriesVeiled
import Derived.Test.YtheponmdbmloaaaGreatDoorFsam
import Derived.Test.YtheponmdbmloaaaGreatDoorFsZ
namespace Go.Proofs.YtheponmdbmloaaaGreatDoor
open Go.RowKit
set_option linter.unusedVariables false
set_option linter.unusedSimpArgs false
set_option maxRecDepth 100000
theorem HAt.own {C : HulI} {w0 w w' : World} {B q p : Nat} {K F : Nat → Prop} {h : HuS} (a : HAt C w0 B K w q p h) (k : Only F w w') (hF : ∀ b, F b → K b ∧ B ≤ b) : HAt C w0 B K w' q p h := by
  obtain ⟨G, h1, h2, h3, h4, h5⟩ := a
  have hs := Nat.le_trans h4.le h3.size
  have hs2 := k.size
  exact ⟨G, C.only h1 k fun b hb e => (h5 b (hF b e).1).1 hb, h2, h3.trans (k.below (fun b e => (hF b e).2) hs), h4, fun b hb => ⟨(h5 b hb).1, Nat.lt_of_lt_of_le (h5 b hb).2 hs2⟩⟩
theorem HAt.set {C : HulI} {w0 w : World} {B q p : Nat} {K : Nat → Prop} {h : HuS} (a : HAt C w0 B K w q p h) {g : Nat} (hg : K g) (hB : B ≤ g) (o : Nat) (vs : List Value) : HAt C w0 B K (w.setCells g o vs) q p h :=
  a.own (F := fun b => b = g) ((Only.refl (fun b => b = g) w).setCells (.inl rfl) vs o) fun b e => by subst e; exact ⟨hg, hB⟩
theorem RHu.c3 {w : World} {p q id ev : Nat} {x : Ros} (h : RHu w p q id ev x) : w.cell? ⟨p, 3, none⟩ = some (.int .i64 x.m) := (aT h) 3 _ rfl
theorem RHu.set {w : World} {p q id ev g o : Nat} {x : Ros} {vs : List Value} (h : RHu w p q id ev x) (hg : p ≠ g) : RHu (w.setCells g o vs) p q id ev x := by
  unfold RHu
  rw [cW g vs o w p hg]
  exact h
theorem faRo3 {b : Nat} {w : World} : (Instr.fieldAt 32 (.pointer (some ⟨b, 3, none⟩)) 0).run Tryz.prog w = .ok (.pointer (some ⟨b, 3, none⟩)) w := by kernel_rfl
theorem faGe3 {b : Nat} {w : World} : (Instr.fieldAt 29 (.pointer (some ⟨b, 3, none⟩)) 0).run Tryz.prog w = .ok (.pointer (some ⟨b, 3, none⟩)) w := by kernel_rfl
def alL (l : List Blk) (N i : Nat) : List Blk := (List.range N).map fun k => if k < i then l.getD k al else al
theorem cx (l : List Blk) (N i : Nat) : (alL l N i).length = N := by simp [alL]
theorem alL_at {l : List Blk} {N i k : Nat} (hk : k < N) : (alL l N i).getD k al = if k < i then l.getD k al else al := by
  simp only [alL, List.getD, List.getElem?_map, List.getElem?_range hk, Option.map_some, Option.getD_some]
theorem alL_0 (l : List Blk) (N : Nat) : alL l N 0 = List.replicate N al := by
  refine getD_ext (by rw [cx, List.length_replicate]) fun k hk => ?_
  rw [cx] at hk
  rw [alL_at hk, if_neg (by omega)]
  simp [List.getD, hk]
theorem alL_succ {l : List Blk} {N i : Nat} (hi : i < N) : (alL l N i).set i (l.getD i al) = alL l N (i + 1) := by
  refine getD_ext (by rw [List.length_set, cx, cx]) fun k hk => ?_
  rw [List.length_set, cx] at hk
  rw [setD _ _ _ _ _ (by rw [cx]; exact hi), alL_at hk, alL_at hk]
  by_cases e : k = i
  · rw [if_pos e, if_pos (by omega), e]
  · rw [if_neg e]
    by_cases e2 : k < i
    · rw [if_pos e2, if_pos (by omega)]
    · rw [if_neg e2, if_neg (by omega)]
theorem alL_end {l : List Blk} {N i : Nat} (hi : i < N) : fold ((alL l N i).set (N - 1) (fold ((alL l N i).take (N - 1)))) = al := by
  have hl := cx l N i
  have hz : (alL l N i).getD (N - 1) al = al := by rw [alL_at (by omega), if_neg (by omega)]
  have hf : fold (alL l N i) = fold ((alL l N i).take (N - 1)) := by
    have := fold_snoc (l := alL l N i) (j := N - 1) (by rw [hl]; omega)
    rw [show N - 1 + 1 = N by omega, List.take_of_length_le (by rw [hl]; exact Nat.le_refl _), hz, bx_zero] at this
    exact this
  rw [fold_set (by rw [hl]; omega), hz, hf, zero_bx, bx_self]
theorem bldPl2 (s m : Int) (w : World) : (Instr.build 43 #[(0, .int .i64 s), (1, .int .i64 m)]).run Tryz.prog w = .ok (.agg #[.int .i64 s, .int .i64 m]) w := by kernel_rfl
theorem exec_bldPl2 {ρ : Operand → Value} {o : Oper} {x y : Operand} {w : World} {s m : Int} (ho : o.op = .build 43 #[(0, x), (1, y)]) (hx : ρ x = .int .i64 s) (hy : ρ y = .int .i64 m) : (execOp ρ o).run Tryz.prog w = .ok (.value (.agg #[.int .i64 s, .int .i64 m])) w := by
  unfold execOp
  simp only [ho, hx, hy, List.map_toArray, List.map_cons, List.map_nil, Sem.run_bind, bldPl2, Result.andThen_ok, Sem.run_pure]
set_option maxHeartbeats 8000000 in
theorem wfetchSame (C : HulI) (D : FetI C) (a sa d : Nat) (A : Option Addr) (n c : Nat) (l : List Blk) (w : World) (T : Tab w) (ha : a < 256) (hsa : sa < 256) (hd : d < 256) (hl : RdB w w.heap.size A n l) (hn : n ≤ maxLen) : Calls Tryz.prog 3 #[.int .u8 (a : Int), .slice A n c, .int .u8 (sa : Int), .int .u8 (d : Int)] w fun e w' => e = .returned (.bool true) ∧ Below w.heap.size w w' := by
  obtain ⟨NN, hNN⟩ : ∃ NN, 3 + a % 4 = NN := ⟨_, rfl⟩
  obtain ⟨s, hs⟩ : ∃ s, sa % 4 = s := ⟨_, rfl⟩
  have HT := Lib.hid T
  have HA := Lib.hid ha
  have HNN := Lib.hid hNN
  have HN1 : Hid (3 ≤ NN) := Lib.hid (by omega)
  have HN2 : Hid (NN ≤ 6) := Lib.hid (by omega)
  have HS4 : Hid (s < 4) := Lib.hid (by omega)
  have HRD := Lib.hid hl
  have HLN := Lib.hid hn
  have HLL : Hid (l.length = n) := Lib.hid hl.1
  have HRS : Hid ((sa : Int).tmod 4 = (s : Int)) := Lib.hid (by rw [← hs]; rfl)
  have HCS : Hid (IntKind.i64.wrap (s : Int) = (s : Int)) := Lib.hid (dn (by omega))
  have HCD : Hid (IntKind.i64.wrap (d : Int) = (d : Int)) := Lib.hid (dn (by omega))
  have HRDd : Hid ((d : Int).tmod (NN : Int) = ((d % NN : Nat) : Int)) := Lib.hid rfl
  have HDN : Hid (d % NN < NN) := Lib.hid (Nat.mod_lt _ (by omega))
  have HN0 : Hid ((NN : Int) ≠ 0) := Lib.hid (by omega)
  have HNM : Hid (IntKind.i64.wrap ((NN : Int) - 1) = ((NN - 1 : Nat) : Int)) := Lib.hid (by rw [dn (by omega)]; omega)
  have HNI : Hid (NN - 1 < NN) := Lib.hid (by omega)
  clear T ha hsa hd hl hn hNN hs
  go_enter Tryz.func3, Tryz.ntmps3
  go_upto_region 1 with fail
  refine wp_region_lit ?_
  refine af rfl (ag rfl (ev rfl)) ?_
  simp only [Act.put, aa, ac, ae]
  refine ak rfl (ap Tryz.call5 rfl (evc (ev rfl) evn)) ?_
  refine (l_both19 C a NN w HT.out HA.out HNN.out).mono ?_
  rintro e w1 ⟨p, q, p2, q2, rfl, a1, r1⟩
  have HA1 := Lib.hid a1
  have HP1 := Lib.hid r1
  clear a1 r1
  refine ⟨_, rfl, ?_⟩
  simp only [Act.put, aa, ac, ae]
  refine af rfl (ag rfl (ev rfl)) ?_
  simp only [Act.put, aa, ac, ae]
  refine af rfl (ax rfl (ev rfl) rfl) ?_
  simp only [Act.put, aa, ac, ae]
  refine af rfl (ax rfl (ev rfl) rfl) ?_
  simp only [Act.put, aa, ac, ae]
  refine af rfl (ax rfl (ev rfl) rfl) ?_
  simp only [Act.put, aa, ac, ae]
  refine af rfl (aj rfl (ev rfl)) ?_
  simp only [Act.put, aa, ac, ae]
  refine af rfl (aj rfl (ev rfl)) ?_
  simp only [Act.put, aa, ac, ae]
  refine af rfl (aj rfl (ev rfl)) ?_
  simp only [Act.put, aa, ac, ae]
  refine wpList_nil ?_
  go_upto_region 2 with fail
  refine wp_region_lit ?_
  refine af rfl (ag rfl (ev rfl)) ?_
  simp only [Act.put, aa, ac, ae]
  refine af (v := .bool false) rfl (dw false Tryz.underlying23 rfl (ev rfl) evk rfl) ?_
  simp only [Act.put, aa, ac, ae]
  refine wpList_nil ?_
  go_upto_region 4 with fail
  refine wp_region_lit ?_
  refine af rfl (ag rfl (ev rfl)) ?_
  simp only [Act.put, aa, ac, ae]
  refine af rfl (bk rfl (ev rfl)) ?_
  simp only [Act.put, aa, ac, ae]
  refine af rfl (am rfl (ev rfl) faRh3) ?_
  simp only [Act.put, aa, ac, ae]
  refine af rfl (am rfl (ev rfl) faRo3) ?_
  simp only [Act.put, aa, ac, ae]
  refine af rfl (am rfl (ev rfl) faGe3) ?_
  simp only [Act.put, aa, ac, ae]
  refine af rfl (au rfl (ev rfl) (bF (k := (NN : Int)) HP1.out.c3)) ?_
  simp only [Act.put, aa, ac, ae]
  refine af rfl (aj rfl (ev rfl)) ?_
  simp only [Act.put, aa, ac, ae]
  refine wpList_nil ?_
  go_upto_region 5 with fail
  refine wp_region_lit ?_
  refine af rfl (ag rfl (ev rfl)) ?_
  simp only [Act.put, aa, ac, ae]
  refine af rfl (exec_rem8 rfl (ev rfl) evk (by decide) HRS.out) ?_
  simp only [Act.put, aa, ac, ae]
  refine af rfl (exec_cv8 rfl (ev rfl) HCS.out) ?_
  simp only [Act.put, aa, ac, ae]
  refine af rfl (aj rfl (ev rfl)) ?_
  simp only [Act.put, aa, ac, ae]
  refine wpList_nil ?_
  go_upto_region 6 with fail
  refine wp_region_lit ?_
  refine af rfl (ag rfl (ev rfl)) ?_
  simp only [Act.put, aa, ac, ae]
  refine af rfl (exec_make rfl (ev rfl) (ev rfl) (by have := HN2.out; omega)) ?_
  simp only [Act.put, aa, ac, ae]
  refine af rfl (aj rfl (ev rfl)) ?_
  simp only [Act.put, aa, ac, ae]
  refine wpList_nil ?_
  have hx := (Below.refl w1.heap.size w1).alloc (Nat.le_refl _) (.cells (madeCells (cel al).toArray (NN * 64)) 38)
  have hh2 := holdsB_made w1 NN
  have HHB2 : Hid (bQ (w1.alloc (.cells (madeCells (cel al).toArray (NN * 64)) 38)) w1.heap.size (alL l NN 0)) := Lib.hid (by rw [alL_0]; exact hh2)
  have HA2 : Hid (HAt C w w.heap.size (fun b => b = p2 ∨ b = w1.heap.size) (w1.alloc (.cells (madeCells (cel al).toArray (NN * 64)) 38)) q p ⟨dj (szK NN 4), 9, 0, neR NN 4⟩) := Lib.hid (HA1.out.guard hx fun b e => e.imp id fun e => by subst e; rw [World.size_alloc]; omega)
  have HP2 := Lib.hid (HP1.out.below hx)
  have HGB : Hid (w.heap.size ≤ w1.heap.size) := Lib.hid HA1.out.bel.size
  have HPN : Hid (p2 ≠ w1.heap.size) := Lib.hid (by have := aH HP1.out; omega)
  clear hx hh2
  generalize w1.alloc (.cells (madeCells (cel al).toArray (NN * 64)) 38) = w2 at *
  obtain ⟨g, hg⟩ : ∃ g, w1.heap.size = g := ⟨_, rfl⟩
  rw [hg] at HHB2 HA2 HGB HPN ⊢
  clear hg HA1 HP1 w1
  go_wp2_with fail
  go_loopw [15] (fun z wr => ∃ i : Nat, z = .int .i64 i ∧ i ≤ NN - 1 ∧ bQ wr g (alL l NN i) ∧ HAt C w w.heap.size (fun b => b = p2 ∨ b = g) wr q p ⟨dj (szK NN 4), 9, 0, neR NN 4⟩ ∧ RHu wr p2 q2 9 0 (neR NN 4)) (fun z _ => NN - (intOf z).toNat)
  case atStart => exact ⟨0, by go_num, Nat.zero_le _, HHB2.out, HA2.out, HP2.out⟩
  case round =>
    obtain ⟨i, rfl, hi, hh, ha, hp⟩ := hrel
    have HH := Lib.hid hh
    have HAi := Lib.hid ha
    have HPi := Lib.hid hp
    have HRi : Hid (RdB wr w.heap.size A n l) := Lib.hid (HRD.out.below HAi.out.bel)
    clear hh ha hp
    by_cases hlt : i < NN - 1 ∧ i < n
    · have HI : Hid (i < NN - 1) := Lib.hid hlt.1
      have HIN : Hid (i < NN) := Lib.hid (by omega)
      have HLT : Hid (decide ((i : Int) < ((NN - 1 : Nat) : Int)) = true) := Lib.hid (decide_eq_true (by omega))
      have HLU : Hid (decide ((i : Int) < (n : Int)) = true) := Lib.hid (decide_eq_true (by omega))
      have HIA : Hid (IntKind.i64.wrap ((i : Int) + 1) = ((i + 1 : Nat) : Int)) := Lib.hid (by have := HN2.out; rw [dn ⟨by omega, by omega⟩]; omega)
      have HIn := Lib.hid hlt.2
      obtain ⟨ab, aoff, hA, _, hrng⟩ := HRi.out.2 i hlt.2
      have HRG := Lib.hid hrng
      have HTH := Lib.hid (HH.out.there (k := i) (by rw [cx]; exact HIN.out))
      have HH2 : Hid (bQ (wr.setCells g (i * 64) (cel (l.getD i al))) g (alL l NN (i + 1))) := Lib.hid (by rw [← alL_succ HIN.out]; exact HH.out.store (by rw [cx]; exact HIN.out) _)
      have HA2_ := Lib.hid (HAi.out.set (g := g) (.inr rfl) HGB.out (i * 64) (cel (l.getD i al)))
      have HP2_ := Lib.hid (HPi.out.set (g := g) (o := i * 64) (vs := cel (l.getD i al)) HPN.out)
      clear hi hlt hrng
      subst hA
      go_upto_region 8 with fail
      refine wp_region_lit ?_
      refine af rfl (ag rfl (ev rfl)) ?_
      simp only [Act.put, aa, ac, ae]
      refine af rfl (ag rfl (ev rfl)) ?_
      simp only [Act.put, aa, ac, ae]
      refine af rfl (dD rfl (ev rfl) evk HNM.out) ?_
      simp only [Act.put, aa, ac, ae]
      refine af (v := .bool true) rfl (bi true rfl (ev rfl) (ev rfl) HLT.out) ?_
      simp only [Act.put, aa, ac, ae]
      refine af (v := .bool true) rfl (ag rfl (ev rfl)) ?_
      simp only [Act.put, aa, ac, ae]
      refine ah (ai rfl rfl rfl rfl) (ag rfl (ev rfl)) ?_
      simp only [Act.put, aa, ac, ae]
      refine ah (ai rfl rfl rfl rfl) (ag rfl (ev rfl)) ?_
      simp only [Act.put, aa, ac, ae]
      refine ah (ai rfl rfl rfl rfl) (exec_lenE BlkE rfl (ev rfl)) ?_
      simp only [Act.put, aa, ac, ae]
      refine ah (v := .bool true) (ai rfl rfl rfl rfl) (bi true rfl (ev rfl) (ev rfl) HLU.out) ?_
      simp only [Act.put, aa, ac, ae]
      refine af (v := .bool true) rfl (aJ rfl (ev rfl) (ev rfl)) ?_
      simp only [Act.put, aa, ac, ae]
      refine wpList_nil ?_
      go_upto_region 10 with fail
      refine wp_region_lit ?_
      refine af rfl (ag rfl (ev rfl)) ?_
      simp only [Act.put, aa, ac, ae]
      refine af rfl (ag rfl (ev rfl)) ?_
      simp only [Act.put, aa, ac, ae]
      refine af rfl (ag rfl (ev rfl)) ?_
      simp only [Act.put, aa, ac, ae]
      refine af rfl (ag rfl (ev rfl)) ?_
      simp only [Act.put, aa, ac, ae]
      refine af rfl (dy rfl (ev rfl) (ev rfl) HIn.out) ?_
      simp only [Act.put, aa, ac, ae]
      refine af rfl (aG rfl (ev rfl) HRG.out) ?_
      simp only [Act.put, aa, ac, ae]
      refine af rfl (dM rfl (ev rfl) (ev rfl) HIN.out) ?_
      simp only [Act.put, aa, ac, ae]
      refine av rfl (aP rfl (ev rfl) (ev rfl) HTH.out) ?_
      simp only [Act.put, aa, ac, ae]
      generalize wr.setCells g (i * 64) (cel (l.getD i al)) = w4 at *
      refine wpList_nil ?_
      go_upto_region 9 with fail
      refine wp_region_lit ?_
      refine af rfl (ag rfl (ev rfl)) ?_
      simp only [Act.put, aa, ac, ae]
      refine af rfl (bu rfl (ev rfl) evk HIA.out) ?_
      simp only [Act.put, aa, ac, ae]
      refine af rfl (aj rfl (ev rfl)) ?_
      simp only [Act.put, aa, ac, ae]
      refine wpList_nil ?_
      go_wp2_with fail
      go_roundw
      case rel => exact ⟨i + 1, by go_num, by have := HI.out; omega, HH2.out, HA2_.out, HP2_.out⟩
      case measure => have := HI.out; simp [intOf]; omega
    by_cases h1 : i < NN - 1
    · have HLT : Hid (decide ((i : Int) < ((NN - 1 : Nat) : Int)) = true) := Lib.hid (decide_eq_true (by omega))
      have HLU : Hid (decide ((i : Int) < (n : Int)) = false) := Lib.hid (decide_eq_false (by omega))
      clear hlt h1
      obtain ⟨L, hL⟩ : ∃ L, (alL l NN i).set (NN - 1) (fold ((alL l NN i).take (NN - 1))) = L := ⟨_, rfl⟩
      have HFL : Hid (fold L = al) := Lib.hid (by rw [← hL]; exact alL_end (i := i) (N := NN) (by have := HN1.out; omega))
      have HLL2 : Hid (L.length = NN) := Lib.hid (by rw [← hL, List.length_set, cx])
      have HRH : Hid (RdB wr wr.heap.size (some ⟨g, 0, none⟩) (NN - 1) ((alL l NN i).take (NN - 1))) := Lib.hid (HH.out.rd (NN - 1) (by rw [cx]; omega))
      have HHL := Lib.hid hL
      clear hi hL
      go_upto_region 8 with fail
      refine wp_region_lit ?_
      refine af rfl (ag rfl (ev rfl)) ?_
      simp only [Act.put, aa, ac, ae]
      refine af rfl (ag rfl (ev rfl)) ?_
      simp only [Act.put, aa, ac, ae]
      refine af rfl (dD rfl (ev rfl) evk HNM.out) ?_
      simp only [Act.put, aa, ac, ae]
      refine af (v := .bool true) rfl (bi true rfl (ev rfl) (ev rfl) HLT.out) ?_
      simp only [Act.put, aa, ac, ae]
      refine af (v := .bool true) rfl (ag rfl (ev rfl)) ?_
      simp only [Act.put, aa, ac, ae]
      refine ah (ai rfl rfl rfl rfl) (ag rfl (ev rfl)) ?_
      simp only [Act.put, aa, ac, ae]
      refine ah (ai rfl rfl rfl rfl) (ag rfl (ev rfl)) ?_
      simp only [Act.put, aa, ac, ae]
      refine ah (ai rfl rfl rfl rfl) (exec_lenE BlkE rfl (ev rfl)) ?_
      simp only [Act.put, aa, ac, ae]
      refine ah (v := .bool false) (ai rfl rfl rfl rfl) (bi false rfl (ev rfl) (ev rfl) HLU.out) ?_
      simp only [Act.put, aa, ac, ae]
      refine af (v := .bool false) rfl (aJ rfl (ev rfl) (ev rfl)) ?_
      simp only [Act.put, aa, ac, ae]
      refine wpList_nil ?_
      go_upto_region 11 with fail
      refine wp_region_lit ?_
      refine af rfl (ag rfl (ev rfl)) ?_
      simp only [Act.put, aa, ac, ae]
      refine af rfl (ag rfl (ev rfl)) ?_
      simp only [Act.put, aa, ac, ae]
      refine af rfl (dD rfl (ev rfl) evk HNM.out) ?_
      simp only [Act.put, aa, ac, ae]
      refine af rfl (ag rfl (ev rfl)) ?_
      simp only [Act.put, aa, ac, ae]
      refine af rfl (ag rfl (ev rfl)) ?_
      simp only [Act.put, aa, ac, ae]
      refine af rfl (dD rfl (ev rfl) evk HNM.out) ?_
      simp only [Act.put, aa, ac, ae]
      refine af rfl (exec_headE (E := BlkE) rfl (ev rfl) (ev rfl) (Nat.sub_le _ _)) ?_
      simp only [Act.put, aa, ac, ae]
      refine ak rfl (ap Tryz.call6 rfl (evc (ev rfl) evn)) ?_
      refine (refFold_any _ (NN - 1) NN wr.heap.size _ wr HRH.out (Nat.le_refl _) (by have := HN2.out; unfold maxLen; omega)).mono ?_
      rintro e w3 ⟨rfl, b3⟩
      have HH3 := Lib.hid (HH.out.below b3)
      have HA3 := Lib.hid (HAi.out.below b3)
      have HP3 := Lib.hid (HPi.out.below b3)
      clear b3
      have HTH := Lib.hid (HH3.out.there (k := NN - 1) (by rw [cx]; exact HNI.out))
      have HH4 : Hid (bQ (w3.setCells g ((NN - 1) * 64) (cel (fold ((alL l NN i).take (NN - 1))))) g L) := Lib.hid (by rw [← HHL.out]; exact HH3.out.store (by rw [cx]; exact HNI.out) _)
      have HA4 := Lib.hid (HA3.out.set (g := g) (.inr rfl) HGB.out ((NN - 1) * 64) (cel (fold ((alL l NN i).take (NN - 1)))))
      refine ⟨_, rfl, ?_⟩
      simp only [Act.put, aa, ac, ae]
      refine af rfl (dM rfl (ev rfl) (ev rfl) HNI.out) ?_
      simp only [Act.put, aa, ac, ae]
      refine av rfl (aP rfl (ev rfl) (ev rfl) HTH.out) ?_
      simp only [Act.put, aa, ac, ae]
      generalize w3.setCells g ((NN - 1) * 64) (cel (fold ((alL l NN i).take (NN - 1)))) = w4 at *
      refine wpList_nil ?_
      have HA4' : Hid (HAt C w w.heap.size (fun b => b = g) w4 q p ⟨dj (szK NN 4), 9, 0, neR NN 4⟩) := Lib.hid (HA4.out.guard (Below.refl _ _) fun b e => .inl (.inr e))
      clear HH3 HA3 HP3 HTH HA4 HH HAi HPi HRi HRH HP2
      go_wp2_with fail
      go_loopw [16] (fun z wr => ∃ (j : Nat) (h : HuS), z = .int .i64 j ∧ j ≤ NN ∧ bQ wr g L ∧ HAt C w w.heap.size (fun b => b = g) wr q p h ∧ Fws NN 4 s L j h) (fun z _ => NN - (intOf z).toNat)
      case atStart => exact ⟨0, _, by go_num, Nat.zero_le _, HH4.out, HA4'.out, fws_new NN 4 s L⟩
      case round =>
        obtain ⟨j, h, rfl, hj, hh, ha, hf⟩ := hrel
        have HHj := Lib.hid hh
        have HAj := Lib.hid ha
        clear hh ha
        by_cases hlt : j < NN
        · have HJ := Lib.hid hlt
          have HLT : Hid (decide ((j : Int) < (NN : Int)) = true) := Lib.hid (decide_eq_true (by omega))
          have HJA : Hid (IntKind.i64.wrap ((j : Int) + 1) = ((j + 1 : Nat) : Int)) := Lib.hid (by have := HN2.out; rw [dn ⟨by omega, by omega⟩]; omega)
          obtain ⟨e1, f1, r1⟩ := fws_wr rosC4 HN1.out HN2.out HS4.out hf hlt (by rw [HLL2.out]; exact hlt)
          have HWR := Lib.hid e1
          have HFW := Lib.hid f1
          have HRM := Lib.hid r1
          obtain ⟨gb, goff, hg, _, hrng⟩ := (HHj.out.rd NN (by rw [HLL2.out]; exact Nat.le_refl _)).2 j hlt
          injection hg with hg
          injection hg with hg1 hg2
          subst hg1 hg2
          rw [List.take_of_length_le (by rw [HLL2.out]; exact Nat.le_refl _), Nat.zero_add] at hrng
          have HRG := Lib.hid hrng
          clear hj hlt hf e1 f1 r1 hrng
          go_upto_region 13 with fail
          refine wp_region_lit ?_
          refine af rfl (ag rfl (ev rfl)) ?_
          simp only [Act.put, aa, ac, ae]
          refine af rfl (ag rfl (ev rfl)) ?_
          simp only [Act.put, aa, ac, ae]
          refine af (v := .bool true) rfl (bi true rfl (ev rfl) (ev rfl) HLT.out) ?_
          simp only [Act.put, aa, ac, ae]
          refine wpList_nil ?_
          go_upto_region 15 with fail
          refine wp_region_lit ?_
          refine af rfl (ag rfl (ev rfl)) ?_
          simp only [Act.put, aa, ac, ae]
          refine af rfl (ag rfl (ev rfl)) ?_
          simp only [Act.put, aa, ac, ae]
          refine af rfl (ag rfl (ev rfl)) ?_
          simp only [Act.put, aa, ac, ae]
          refine af rfl (exec_bldPl2 rfl (ev rfl) (ev rfl)) ?_
          simp only [Act.put, aa, ac, ae]
          refine af rfl (ag rfl (ev rfl)) ?_
          simp only [Act.put, aa, ac, ae]
          refine af rfl (ag rfl (ev rfl)) ?_
          simp only [Act.put, aa, ac, ae]
          refine af rfl (dM rfl (ev rfl) (ev rfl) HJ.out) ?_
          simp only [Act.put, aa, ac, ae]
          refine af rfl (aG rfl (ev rfl) HRG.out) ?_
          simp only [Act.put, aa, ac, ae]
          refine ak rfl (ap Tryz.call7 rfl (evc (ev rfl) (evc (ev rfl) (evc (ev rfl) evn)))) ?_
          refine (HAj.out.write (s : Int) (j : Int) (L.getD j al) HRM.out.1 HRM.out.2 (hwrK_is HWR.out (by decide) (by decide))).mono ?_
          rintro e w5 ⟨rfl, a5, k5⟩
          have HA5 := Lib.hid a5
          have HH5 := Lib.hid (HHj.out.of_block (k5 g rfl))
          clear a5 k5
          rw [show hwrE h (s : Int) (j : Int) (L.getD j al) = 0 from HWR.out]
          refine ⟨_, rfl, ?_⟩
          simp only [Act.put, aa, ac, ae]
          refine af (v := .bool false) rfl (aB false rfl (ev rfl) evk rfl) ?_
          simp only [Act.put, aa, ac, ae]
          refine wpList_nil ?_
          go_upto_region 14 with fail
          refine wp_region_lit ?_
          refine af rfl (ag rfl (ev rfl)) ?_
          simp only [Act.put, aa, ac, ae]
          refine af rfl (bu rfl (ev rfl) evk HJA.out) ?_
          simp only [Act.put, aa, ac, ae]
          refine af rfl (aj rfl (ev rfl)) ?_
          simp only [Act.put, aa, ac, ae]
          refine wpList_nil ?_
          go_wp2_with fail
          go_roundw
          case rel => exact ⟨j + 1, _, by go_num, HJ.out, HH5.out, HA5.out, HFW.out⟩
          case measure => have := HJ.out; simp [intOf]; omega
        have hjn : j = NN := by omega
        subst hjn
        have HLT : Hid (decide ((j : Int) < (j : Int)) = false) := Lib.hid (decide_eq_false (by omega))
        have hrm := hf.rm HN2.out
        obtain ⟨s1, s2⟩ := sound_ok rosC4 HN1.out HN2.out HS4.out HLL2.out HFL.out (hf.all HLL2.out) hf.R hrm
        obtain ⟨f1, f2⟩ := hf.fail HLL2.out HDN.out
        obtain ⟨h', g1, g2⟩ := same_ok (h := { h with M := faS6 h.M ((d % j : Nat) : Int) }) rosC4 HN1.out HN2.out HS4.out HLL2.out HFL.out HDN.out f2 hf.R (by have := HN2.out; omega) hf.ev
        have S1 := Lib.hid (And.intro s1 s2)
        have F1 := Lib.hid f1
        have G1 := Lib.hid (And.intro g1 g2)
        clear hj hlt hf hrm s1 s2 f1 f2 g1 g2
        go_upto_region 13 with fail
        refine wp_region_lit ?_
        refine af rfl (ag rfl (ev rfl)) ?_
        simp only [Act.put, aa, ac, ae]
        refine af rfl (ag rfl (ev rfl)) ?_
        simp only [Act.put, aa, ac, ae]
        refine af (v := .bool false) rfl (bi false rfl (ev rfl) (ev rfl) HLT.out) ?_
        simp only [Act.put, aa, ac, ae]
        refine wpList_nil ?_
        go_upto_region 17 with fail
        refine wp_region_lit ?_
        refine af rfl (ag rfl (ev rfl)) ?_
        simp only [Act.put, aa, ac, ae]
        refine af rfl (ag rfl (ev rfl)) ?_
        simp only [Act.put, aa, ac, ae]
        refine ak rfl (ap Tryz.call8 rfl (evc (ev rfl) (evc (ev rfl) evn))) ?_
        refine (HAt.sound D (s : Int) HAj.out S1.out.2 S1.out.1).mono ?_
        rintro e w5 ⟨rfl, a5, k5⟩
        have HA5 := Lib.hid a5
        have HH5 := Lib.hid (HHj.out.of_block (k5 g rfl))
        clear a5 k5
        refine ⟨_, rfl, ?_⟩
        simp only [Act.put, aa, ac, ae]
        refine af rfl (ag rfl (ev rfl)) ?_
        simp only [Act.put, aa, ac, ae]
        refine af rfl (ax rfl (ev rfl) rfl) ?_
        simp only [Act.put, aa, ac, ae]
        refine af rfl (ax rfl (ev rfl) rfl) ?_
        simp only [Act.put, aa, ac, ae]
        refine af rfl (aj rfl (ev rfl)) ?_
        simp only [Act.put, aa, ac, ae]
        refine af rfl (aj rfl (ev rfl)) ?_
        simp only [Act.put, aa, ac, ae]
        refine wpList_nil ?_
        go_upto_region 18 with fail
        refine wp_region_lit ?_
        refine af rfl (ag rfl (ev rfl)) ?_
        simp only [Act.put, aa, ac, ae]
        refine af rfl (ag rfl (ev rfl)) ?_
        simp only [Act.put, aa, ac, ae]
        refine af rfl (exec_cv8 rfl (ev rfl) HCD.out) ?_
        simp only [Act.put, aa, ac, ae]
        refine af rfl (ag rfl (ev rfl)) ?_
        simp only [Act.put, aa, ac, ae]
        refine af rfl (exec_rem rfl (ev rfl) (ev rfl) HN0.out HRDd.out) ?_
        simp only [Act.put, aa, ac, ae]
        refine ak rfl (ap Tryz.call9 rfl (evc (ev rfl) (evc (ev rfl) evn))) ?_
        refine (HA5.out.ben fun hb => C.R.fail ((d % j : Nat) : Int) hb).mono ?_
        rintro e w6 ⟨rfl, a6, k6⟩
        have HA6 := Lib.hid a6
        have HH6 := Lib.hid (HH5.out.of_block (k6 g rfl))
        clear a6 k6
        refine ⟨_, rfl, ?_⟩
        simp only [Act.put, aa, ac, ae]
        refine wpList_nil ?_
        go_upto_region 19 with fail
        refine wp_region_lit ?_
        refine af rfl (ag rfl (ev rfl)) ?_
        simp only [Act.put, aa, ac, ae]
        refine af rfl (ag rfl (ev rfl)) ?_
        simp only [Act.put, aa, ac, ae]
        refine ak rfl (ap Tryz.call10 rfl (evc (ev rfl) (evc (ev rfl) evn))) ?_
        refine (HAt.stripe D (s : Int) HA6.out G1.out.2 G1.out.1).mono ?_
        rintro e w7 ⟨v7, rfl, m7, a7, k7⟩
        have HA7 := Lib.hid a7
        have HH7 := Lib.hid (HH6.out.of_block (k7 g rfl))
        replace m7 : aK BlkE w7 w6.heap.size v7 L := m7
        obtain ⟨A7, c7, rfl, e71, e72⟩ := m7.form
        have HR7 : Hid (RdB w7 w7.heap.size A7 L.length L) := Lib.hid m7.rd
        have HC7 : Hid (L.length ≤ maxLen) := Lib.hid (by rw [HLL2.out]; have := HN2.out; unfold maxLen; omega)
        have HRH7 : Hid (RdB w7 w7.heap.size (some ⟨g, 0, none⟩) j L) := Lib.hid (by have := HH7.out.rd j (by rw [HLL2.out]; exact Nat.le_refl _); rwa [List.take_of_length_le (by rw [HLL2.out]; exact Nat.le_refl _)] at this)
        clear a7 k7 m7 e71 e72
        refine ⟨_, rfl, ?_⟩
        simp only [Act.put, aa, ac, ae]
        refine af rfl (ag rfl (ev rfl)) ?_
        simp only [Act.put, aa, ac, ae]
        refine af rfl (ax rfl (ev rfl) rfl) ?_
        simp only [Act.put, aa, ac, ae]
        refine af rfl (ax rfl (ev rfl) rfl) ?_
        simp only [Act.put, aa, ac, ae]
        refine af rfl (aj rfl (ev rfl)) ?_
        simp only [Act.put, aa, ac, ae]
        refine af rfl (aj rfl (ev rfl)) ?_
        simp only [Act.put, aa, ac, ae]
        refine wpList_nil ?_
        go_upto_region 20 with fail
        refine wp_region_lit ?_
        refine af (v := .bool true) rfl (ag rfl (ev rfl)) ?_
        simp only [Act.put, aa, ac, ae]
        refine af (v := .bool true) rfl (ag rfl (ev rfl)) ?_
        simp only [Act.put, aa, ac, ae]
        refine ah (ai rfl rfl rfl rfl) (ag rfl (ev rfl)) ?_
        simp only [Act.put, aa, ac, ae]
        refine ah (v := .bool true) (ai rfl rfl rfl rfl) (ar true rfl (ev rfl) evk rfl) ?_
        simp only [Act.put, aa, ac, ae]
        refine af (v := .bool true) rfl (aJ rfl (ev rfl) (ev rfl)) ?_
        simp only [Act.put, aa, ac, ae]
        refine af (v := .bool true) rfl (ag rfl (ev rfl)) ?_
        simp only [Act.put, aa, ac, ae]
        refine ah (ai rfl rfl rfl rfl) (ag rfl (ev rfl)) ?_
        simp only [Act.put, aa, ac, ae]
        refine ah (v := .bool true) (ai rfl rfl rfl rfl) (ar true rfl (ev rfl) evk rfl) ?_
        simp only [Act.put, aa, ac, ae]
        refine af (v := .bool true) rfl (aJ rfl (ev rfl) (ev rfl)) ?_
        simp only [Act.put, aa, ac, ae]
        refine af (v := .bool true) rfl (ag rfl (ev rfl)) ?_
        simp only [Act.put, aa, ac, ae]
        refine ah (ai rfl rfl rfl rfl) (ag rfl (ev rfl)) ?_
        simp only [Act.put, aa, ac, ae]
        refine ah (ai rfl rfl rfl rfl) (ag rfl (ev rfl)) ?_
        simp only [Act.put, aa, ac, ae]
        refine ak (ai rfl rfl rfl rfl) (ap Tryz.call11 rfl (evc (ev rfl) (evc (ev rfl) evn))) ?_
        refine (blocks_any A7 (some ⟨g, 0, none⟩) L.length j c7 j w7.heap.size L L w7 HR7.out HRH7.out (Nat.le_refl _) HC7.out).mono ?_
        rintro e w8 ⟨rfl, b8⟩
        have HA8 := Lib.hid (HA7.out.below b8)
        clear b8
        rw [decide_eq_true (rfl : L = L)]
        refine ⟨_, rfl, ?_⟩
        simp only [Act.put, aa, ac, ae]
        refine af (v := .bool true) rfl (aJ rfl (ev rfl) (ev rfl)) ?_
        simp only [Act.put, aa, ac, ae]
        refine af (v := .bool true) rfl (ag rfl (ev rfl)) ?_
        simp only [Act.put, aa, ac, ae]
        refine ak (ai rfl rfl rfl rfl) (ap Tryz.call12 rfl evn) ?_
        refine (flives C D w8 ((HBas.start HT.out).tab HA8.out.bel)).mono ?_
        rintro e w9 ⟨rfl, b9⟩
        have HZ := Lib.hid (HA8.out.bel.trans (b9.mono HA8.out.bel.size))
        clear b9
        refine ⟨_, rfl, ?_⟩
        simp only [Act.put, aa, ac, ae]
        refine af (v := .bool true) rfl (aJ rfl (ev rfl) (ev rfl)) ?_
        simp only [Act.put, aa, ac, ae]
        refine af (v := .bool true) rfl (aj rfl (ev rfl)) ?_
        simp only [Act.put, aa, ac, ae]
        refine wpList_nil ?_
        go_wp2_with fail
        go_ret
        exact ⟨rfl, HZ.out⟩
    have HLT : Hid (decide ((i : Int) < ((NN - 1 : Nat) : Int)) = false) := Lib.hid (decide_eq_false (by omega))
    clear hlt h1
    obtain ⟨L, hL⟩ : ∃ L, (alL l NN i).set (NN - 1) (fold ((alL l NN i).take (NN - 1))) = L := ⟨_, rfl⟩
    have HFL : Hid (fold L = al) := Lib.hid (by rw [← hL]; exact alL_end (i := i) (N := NN) (by have := HN1.out; omega))
    have HLL2 : Hid (L.length = NN) := Lib.hid (by rw [← hL, List.length_set, cx])
    have HRH : Hid (RdB wr wr.heap.size (some ⟨g, 0, none⟩) (NN - 1) ((alL l NN i).take (NN - 1))) := Lib.hid (HH.out.rd (NN - 1) (by rw [cx]; omega))
    have HHL := Lib.hid hL
    clear hi hL
    go_upto_region 8 with fail
    refine wp_region_lit ?_
    refine af rfl (ag rfl (ev rfl)) ?_
    simp only [Act.put, aa, ac, ae]
    refine af rfl (ag rfl (ev rfl)) ?_
    simp only [Act.put, aa, ac, ae]
    refine af rfl (dD rfl (ev rfl) evk HNM.out) ?_
    simp only [Act.put, aa, ac, ae]
    refine af (v := .bool false) rfl (bi false rfl (ev rfl) (ev rfl) HLT.out) ?_
    simp only [Act.put, aa, ac, ae]
    refine aR 4 (v := .bool false) rfl (ag rfl (ev rfl)) (by kernel_rfl) ?_
    simp only [bj, List.take_succ_cons, List.take_zero, List.drop_succ_cons, List.drop_zero, Act.put, List.setIfInBounds_toArray, List.set_cons_succ, List.set_cons_zero]
    refine af (v := .bool false) rfl (aM rfl (ev rfl) evk) ?_
    simp only [Act.put, aa, ac, ae]
    refine wpList_nil ?_
    go_upto_region 11 with fail
    refine wp_region_lit ?_
    refine af rfl (ag rfl (ev rfl)) ?_
    simp only [Act.put, aa, ac, ae]
    refine af rfl (ag rfl (ev rfl)) ?_
    simp only [Act.put, aa, ac, ae]
    refine af rfl (dD rfl (ev rfl) evk HNM.out) ?_
    simp only [Act.put, aa, ac, ae]
    refine af rfl (ag rfl (ev rfl)) ?_
    simp only [Act.put, aa, ac, ae]
    refine af rfl (ag rfl (ev rfl)) ?_
    simp only [Act.put, aa, ac, ae]
    refine af rfl (dD rfl (ev rfl) evk HNM.out) ?_
    simp only [Act.put, aa, ac, ae]
    refine af rfl (exec_headE (E := BlkE) rfl (ev rfl) (ev rfl) (Nat.sub_le _ _)) ?_
    simp only [Act.put, aa, ac, ae]
    refine ak rfl (ap Tryz.call6 rfl (evc (ev rfl) evn)) ?_
    refine (refFold_any _ (NN - 1) NN wr.heap.size _ wr HRH.out (Nat.le_refl _) (by have := HN2.out; unfold maxLen; omega)).mono ?_
    rintro e w3 ⟨rfl, b3⟩
    have HH3 := Lib.hid (HH.out.below b3)
    have HA3 := Lib.hid (HAi.out.below b3)
    have HP3 := Lib.hid (HPi.out.below b3)
    clear b3
    have HTH := Lib.hid (HH3.out.there (k := NN - 1) (by rw [cx]; exact HNI.out))
    have HH4 : Hid (bQ (w3.setCells g ((NN - 1) * 64) (cel (fold ((alL l NN i).take (NN - 1))))) g L) := Lib.hid (by rw [← HHL.out]; exact HH3.out.store (by rw [cx]; exact HNI.out) _)
    have HA4 := Lib.hid (HA3.out.set (g := g) (.inr rfl) HGB.out ((NN - 1) * 64) (cel (fold ((alL l NN i).take (NN - 1)))))
    refine ⟨_, rfl, ?_⟩
    simp only [Act.put, aa, ac, ae]
    refine af rfl (dM rfl (ev rfl) (ev rfl) HNI.out) ?_
    simp only [Act.put, aa, ac, ae]
    refine av rfl (aP rfl (ev rfl) (ev rfl) HTH.out) ?_
    simp only [Act.put, aa, ac, ae]
    generalize w3.setCells g ((NN - 1) * 64) (cel (fold ((alL l NN i).take (NN - 1)))) = w4 at *
    refine wpList_nil ?_
    have HA4' : Hid (HAt C w w.heap.size (fun b => b = g) w4 q p ⟨dj (szK NN 4), 9, 0, neR NN 4⟩) := Lib.hid (HA4.out.guard (Below.refl _ _) fun b e => .inl (.inr e))
    clear HH3 HA3 HP3 HTH HA4 HH HAi HPi HRi HRH HP2
    go_wp2_with fail
    go_loopw [16] (fun z wr => ∃ (j : Nat) (h : HuS), z = .int .i64 j ∧ j ≤ NN ∧ bQ wr g L ∧ HAt C w w.heap.size (fun b => b = g) wr q p h ∧ Fws NN 4 s L j h) (fun z _ => NN - (intOf z).toNat)
    case atStart => exact ⟨0, _, by go_num, Nat.zero_le _, HH4.out, HA4'.out, fws_new NN 4 s L⟩
    case round =>
      obtain ⟨j, h, rfl, hj, hh, ha, hf⟩ := hrel
      have HHj := Lib.hid hh
      have HAj := Lib.hid ha
      clear hh ha
      by_cases hlt : j < NN
      · have HJ := Lib.hid hlt
        have HLT : Hid (decide ((j : Int) < (NN : Int)) = true) := Lib.hid (decide_eq_true (by omega))
        have HJA : Hid (IntKind.i64.wrap ((j : Int) + 1) = ((j + 1 : Nat) : Int)) := Lib.hid (by have := HN2.out; rw [dn ⟨by omega, by omega⟩]; omega)
        obtain ⟨e1, f1, r1⟩ := fws_wr rosC4 HN1.out HN2.out HS4.out hf hlt (by rw [HLL2.out]; exact hlt)
        have HWR := Lib.hid e1
        have HFW := Lib.hid f1
        have HRM := Lib.hid r1
        obtain ⟨gb, goff, hg, _, hrng⟩ := (HHj.out.rd NN (by rw [HLL2.out]; exact Nat.le_refl _)).2 j hlt
        injection hg with hg
        injection hg with hg1 hg2
        subst hg1 hg2
        rw [List.take_of_length_le (by rw [HLL2.out]; exact Nat.le_refl _), Nat.zero_add] at hrng
        have HRG := Lib.hid hrng
        clear hj hlt hf e1 f1 r1 hrng
        go_upto_region 13 with fail
        refine wp_region_lit ?_
        refine af rfl (ag rfl (ev rfl)) ?_
        simp only [Act.put, aa, ac, ae]
        refine af rfl (ag rfl (ev rfl)) ?_
        simp only [Act.put, aa, ac, ae]
        refine af (v := .bool true) rfl (bi true rfl (ev rfl) (ev rfl) HLT.out) ?_
        simp only [Act.put, aa, ac, ae]
        refine wpList_nil ?_
        go_upto_region 15 with fail
        refine wp_region_lit ?_
        refine af rfl (ag rfl (ev rfl)) ?_
        simp only [Act.put, aa, ac, ae]
        refine af rfl (ag rfl (ev rfl)) ?_
        simp only [Act.put, aa, ac, ae]
        refine af rfl (ag rfl (ev rfl)) ?_
        simp only [Act.put, aa, ac, ae]
        refine af rfl (exec_bldPl2 rfl (ev rfl) (ev rfl)) ?_
        simp only [Act.put, aa, ac, ae]
        refine af rfl (ag rfl (ev rfl)) ?_
        simp only [Act.put, aa, ac, ae]
        refine af rfl (ag rfl (ev rfl)) ?_
        simp only [Act.put, aa, ac, ae]
        refine af rfl (dM rfl (ev rfl) (ev rfl) HJ.out) ?_
        simp only [Act.put, aa, ac, ae]
        refine af rfl (aG rfl (ev rfl) HRG.out) ?_
        simp only [Act.put, aa, ac, ae]
        refine ak rfl (ap Tryz.call7 rfl (evc (ev rfl) (evc (ev rfl) (evc (ev rfl) evn)))) ?_
        refine (HAj.out.write (s : Int) (j : Int) (L.getD j al) HRM.out.1 HRM.out.2 (hwrK_is HWR.out (by decide) (by decide))).mono ?_
        rintro e w5 ⟨rfl, a5, k5⟩
        have HA5 := Lib.hid a5
        have HH5 := Lib.hid (HHj.out.of_block (k5 g rfl))
        clear a5 k5
        rw [show hwrE h (s : Int) (j : Int) (L.getD j al) = 0 from HWR.out]
        refine ⟨_, rfl, ?_⟩
        simp only [Act.put, aa, ac, ae]
        refine af (v := .bool false) rfl (aB false rfl (ev rfl) evk rfl) ?_
        simp only [Act.put, aa, ac, ae]
        refine wpList_nil ?_
        go_upto_region 14 with fail
        refine wp_region_lit ?_
        refine af rfl (ag rfl (ev rfl)) ?_
        simp only [Act.put, aa, ac, ae]
        refine af rfl (bu rfl (ev rfl) evk HJA.out) ?_
        simp only [Act.put, aa, ac, ae]
        refine af rfl (aj rfl (ev rfl)) ?_
        simp only [Act.put, aa, ac, ae]
        refine wpList_nil ?_
        go_wp2_with fail
        go_roundw
        case rel => exact ⟨j + 1, _, by go_num, HJ.out, HH5.out, HA5.out, HFW.out⟩
        case measure => have := HJ.out; simp [intOf]; omega
      have hjn : j = NN := by omega
      subst hjn
      have HLT : Hid (decide ((j : Int) < (j : Int)) = false) := Lib.hid (decide_eq_false (by omega))
      have hrm := hf.rm HN2.out
      obtain ⟨s1, s2⟩ := sound_ok rosC4 HN1.out HN2.out HS4.out HLL2.out HFL.out (hf.all HLL2.out) hf.R hrm
      obtain ⟨f1, f2⟩ := hf.fail HLL2.out HDN.out
      obtain ⟨h', g1, g2⟩ := same_ok (h := { h with M := faS6 h.M ((d % j : Nat) : Int) }) rosC4 HN1.out HN2.out HS4.out HLL2.out HFL.out HDN.out f2 hf.R (by have := HN2.out; omega) hf.ev
      have S1 := Lib.hid (And.intro s1 s2)
      have F1 := Lib.hid f1
      have G1 := Lib.hid (And.intro g1 g2)
      clear hj hlt hf hrm s1 s2 f1 f2 g1 g2
      go_upto_region 13 with fail
      refine wp_region_lit ?_
      refine af rfl (ag rfl (ev rfl)) ?_
      simp only [Act.put, aa, ac, ae]
      refine af rfl (ag rfl (ev rfl)) ?_
      simp only [Act.put, aa, ac, ae]
      refine af (v := .bool false) rfl (bi false rfl (ev rfl) (ev rfl) HLT.out) ?_
      simp only [Act.put, aa, ac, ae]
      refine wpList_nil ?_
      go_upto_region 17 with fail
      refine wp_region_lit ?_
      refine af rfl (ag rfl (ev rfl)) ?_
      simp only [Act.put, aa, ac, ae]
      refine af rfl (ag rfl (ev rfl)) ?_
      simp only [Act.put, aa, ac, ae]
      refine ak rfl (ap Tryz.call8 rfl (evc (ev rfl) (evc (ev rfl) evn))) ?_
      refine (HAt.sound D (s : Int) HAj.out S1.out.2 S1.out.1).mono ?_
      rintro e w5 ⟨rfl, a5, k5⟩
      have HA5 := Lib.hid a5
      have HH5 := Lib.hid (HHj.out.of_block (k5 g rfl))
      clear a5 k5
      refine ⟨_, rfl, ?_⟩
      simp only [Act.put, aa, ac, ae]
      refine af rfl (ag rfl (ev rfl)) ?_
      simp only [Act.put, aa, ac, ae]
      refine af rfl (ax rfl (ev rfl) rfl) ?_
      simp only [Act.put, aa, ac, ae]
      refine af rfl (ax rfl (ev rfl) rfl) ?_
      simp only [Act.put, aa, ac, ae]
      refine af rfl (aj rfl (ev rfl)) ?_
      simp only [Act.put, aa, ac, ae]
      refine af rfl (aj rfl (ev rfl)) ?_
      simp only [Act.put, aa, ac, ae]
      refine wpList_nil ?_
      go_upto_region 18 with fail
      refine wp_region_lit ?_
      refine af rfl (ag rfl (ev rfl)) ?_
      simp only [Act.put, aa, ac, ae]
      refine af rfl (ag rfl (ev rfl)) ?_
      simp only [Act.put, aa, ac, ae]
      refine af rfl (exec_cv8 rfl (ev rfl) HCD.out) ?_
      simp only [Act.put, aa, ac, ae]
      refine af rfl (ag rfl (ev rfl)) ?_
      simp only [Act.put, aa, ac, ae]
      refine af rfl (exec_rem rfl (ev rfl) (ev rfl) HN0.out HRDd.out) ?_
      simp only [Act.put, aa, ac, ae]
      refine ak rfl (ap Tryz.call9 rfl (evc (ev rfl) (evc (ev rfl) evn))) ?_
      refine (HA5.out.ben fun hb => C.R.fail ((d % j : Nat) : Int) hb).mono ?_
      rintro e w6 ⟨rfl, a6, k6⟩
      have HA6 := Lib.hid a6
      have HH6 := Lib.hid (HH5.out.of_block (k6 g rfl))
      clear a6 k6
      refine ⟨_, rfl, ?_⟩
      simp only [Act.put, aa, ac, ae]
      refine wpList_nil ?_
      go_upto_region 19 with fail
      refine wp_region_lit ?_
      refine af rfl (ag rfl (ev rfl)) ?_
      simp only [Act.put, aa, ac, ae]
      refine af rfl (ag rfl (ev rfl)) ?_
      simp only [Act.put, aa, ac, ae]
      refine ak rfl (ap Tryz.call10 rfl (evc (ev rfl) (evc (ev rfl) evn))) ?_
      refine (HAt.stripe D (s : Int) HA6.out G1.out.2 G1.out.1).mono ?_
      rintro e w7 ⟨v7, rfl, m7, a7, k7⟩
      have HA7 := Lib.hid a7
      have HH7 := Lib.hid (HH6.out.of_block (k7 g rfl))
      replace m7 : aK BlkE w7 w6.heap.size v7 L := m7
      obtain ⟨A7, c7, rfl, e71, e72⟩ := m7.form
      have HR7 : Hid (RdB w7 w7.heap.size A7 L.length L) := Lib.hid m7.rd
      have HC7 : Hid (L.length ≤ maxLen) := Lib.hid (by rw [HLL2.out]; have := HN2.out; unfold maxLen; omega)
      have HRH7 : Hid (RdB w7 w7.heap.size (some ⟨g, 0, none⟩) j L) := Lib.hid (by have := HH7.out.rd j (by rw [HLL2.out]; exact Nat.le_refl _); rwa [List.take_of_length_le (by rw [HLL2.out]; exact Nat.le_refl _)] at this)
      clear a7 k7 m7 e71 e72
      refine ⟨_, rfl, ?_⟩
      simp only [Act.put, aa, ac, ae]
      refine af rfl (ag rfl (ev rfl)) ?_
      simp only [Act.put, aa, ac, ae]
      refine af rfl (ax rfl (ev rfl) rfl) ?_
      simp only [Act.put, aa, ac, ae]
      refine af rfl (ax rfl (ev rfl) rfl) ?_
      simp only [Act.put, aa, ac, ae]
      refine af rfl (aj rfl (ev rfl)) ?_
      simp only [Act.put, aa, ac, ae]
      refine af rfl (aj rfl (ev rfl)) ?_
      simp only [Act.put, aa, ac, ae]
      refine wpList_nil ?_
      go_upto_region 20 with fail
      refine wp_region_lit ?_
      refine af (v := .bool true) rfl (ag rfl (ev rfl)) ?_
      simp only [Act.put, aa, ac, ae]
      refine af (v := .bool true) rfl (ag rfl (ev rfl)) ?_
      simp only [Act.put, aa, ac, ae]
      refine ah (ai rfl rfl rfl rfl) (ag rfl (ev rfl)) ?_
      simp only [Act.put, aa, ac, ae]
      refine ah (v := .bool true) (ai rfl rfl rfl rfl) (ar true rfl (ev rfl) evk rfl) ?_
      simp only [Act.put, aa, ac, ae]
      refine af (v := .bool true) rfl (aJ rfl (ev rfl) (ev rfl)) ?_
      simp only [Act.put, aa, ac, ae]
      refine af (v := .bool true) rfl (ag rfl (ev rfl)) ?_
      simp only [Act.put, aa, ac, ae]
      refine ah (ai rfl rfl rfl rfl) (ag rfl (ev rfl)) ?_
      simp only [Act.put, aa, ac, ae]
      refine ah (v := .bool true) (ai rfl rfl rfl rfl) (ar true rfl (ev rfl) evk rfl) ?_
      simp only [Act.put, aa, ac, ae]
      refine af (v := .bool true) rfl (aJ rfl (ev rfl) (ev rfl)) ?_
      simp only [Act.put, aa, ac, ae]
      refine af (v := .bool true) rfl (ag rfl (ev rfl)) ?_
      simp only [Act.put, aa, ac, ae]
      refine ah (ai rfl rfl rfl rfl) (ag rfl (ev rfl)) ?_
      simp only [Act.put, aa, ac, ae]
      refine ah (ai rfl rfl rfl rfl) (ag rfl (ev rfl)) ?_
      simp only [Act.put, aa, ac, ae]
      refine ak (ai rfl rfl rfl rfl) (ap Tryz.call11 rfl (evc (ev rfl) (evc (ev rfl) evn))) ?_
      refine (blocks_any A7 (some ⟨g, 0, none⟩) L.length j c7 j w7.heap.size L L w7 HR7.out HRH7.out (Nat.le_refl _) HC7.out).mono ?_
      rintro e w8 ⟨rfl, b8⟩
      have HA8 := Lib.hid (HA7.out.below b8)
      clear b8
      rw [decide_eq_true (rfl : L = L)]
      refine ⟨_, rfl, ?_⟩
      simp only [Act.put, aa, ac, ae]
      refine af (v := .bool true) rfl (aJ rfl (ev rfl) (ev rfl)) ?_
      simp only [Act.put, aa, ac, ae]
      refine af (v := .bool true) rfl (ag rfl (ev rfl)) ?_
      simp only [Act.put, aa, ac, ae]
      refine ak (ai rfl rfl rfl rfl) (ap Tryz.call12 rfl evn) ?_
      refine (flives C D w8 ((HBas.start HT.out).tab HA8.out.bel)).mono ?_
      rintro e w9 ⟨rfl, b9⟩
      have HZ := Lib.hid (HA8.out.bel.trans (b9.mono HA8.out.bel.size))
      clear b9
      refine ⟨_, rfl, ?_⟩
      simp only [Act.put, aa, ac, ae]
      refine af (v := .bool true) rfl (aJ rfl (ev rfl) (ev rfl)) ?_
      simp only [Act.put, aa, ac, ae]
      refine af (v := .bool true) rfl (aj rfl (ev rfl)) ?_
      simp only [Act.put, aa, ac, ae]
      refine wpList_nil ?_
      go_wp2_with fail
      go_ret
      exact ⟨rfl, HZ.out⟩
theorem pslot_b (a b : Blk) (k : Nat) (w : World) (T : Tab w) (h : sloT a b = k) : Calls Tryz.prog 87 #[blk a, blk b] w fun e w' => e = .returned (.int .i64 (k : Nat)) ∧ Below w.heap.size w w' := by
  subst h
  exact pslot a b w T
structure HpS where
  id : Nat
  ev : Nat
  us : Nat
  R : Ros
def phC (qa : Option Addr) (x : HpS) : List Value := .pointer qa :: .int .u64 (x.id : Int) :: .int .u64 (x.ev : Int) :: (aE x.R ++ [.int .u64 (x.us : Int)])
theorem phC_len (qa : Option Addr) (x : HpS) : (phC qa x).length = 25 := by simp [phC, aV]
def PHo (w : World) (p : Nat) (qa : Option Addr) (x : HpS) : Prop := w.heap[p]? = some (.cells (phC qa x).toArray 53 (0, 0))
abbrev PHu (w : World) (p q : Nat) (x : HpS) : Prop := PHo w p (some ⟨q, 0, none⟩) x
section
variable {w w' : World} {p : Nat} {qa : Option Addr} {x : HpS} {G : Nat → Prop}
theorem PHo.only (h : PHo w p qa x) (ho : Only G w w') (hn : ¬ G p) : PHo w' p qa x := ho.keep h hn
theorem PHo.below (h : PHo w p qa x) (hb : Below w.heap.size w w') : PHo w' p qa x := ao h hb
theorem PHo.lt (h : PHo w p qa x) : p < w.heap.size := aH h
theorem PHo.c0 (h : PHo w p qa x) : w.cell? ⟨p, 0, none⟩ = some (.pointer qa) := (aT h) 0 _ rfl
theorem PHo.c1 (h : PHo w p qa x) : w.cell? ⟨p, 1, none⟩ = some (.int .u64 (x.id : Int)) := (aT h) 1 _ rfl
theorem PHo.c2 (h : PHo w p qa x) : w.cell? ⟨p, 2, none⟩ = some (.int .u64 (x.ev : Int)) := (aT h) 2 _ rfl
theorem PHo.c24 (h : PHo w p qa x) : w.cell? ⟨p, 24, none⟩ = some (.int .u64 (x.us : Int)) := (aT h) 24 _ (by
  show (aE x.R ++ [_])[21]? = _
  rw [List.getElem?_append_right (by rw [aV]; exact Nat.le_refl _), aV]; rfl)
theorem PHo.ros (h : PHo w p qa x) : w.rangeAt p 3 (aE x.R) := by
  have := dz (k := 3) (ds := [.pointer qa, .int .u64 (x.id : Int), .int .u64 (x.ev : Int)]) (es := aE x.R) (fs := [.int .u64 (x.us : Int)]) (aT h) (by simp [phC]) rfl
  rwa [Nat.zero_add] at this
theorem PHo.geo (h : PHo w p qa x) : w.rangeAt p 3 (celG x.R) := dz (cs := aE x.R) (ds := []) (k := 0) h.ros rfl rfl
theorem PHo.free_ (h : PHo w p qa x) (j : Nat) : w.frozen? ⟨p, j, none⟩ = false := frozen_of_row w p j _ _ h
theorem PHo.there (h : PHo w p qa x) {o n : Nat} (hn : o + n ≤ 25) : w.there p o n := cI h (by rw [phC_len]; exact hn)
theorem faHp0 : (Instr.fieldAt 53 (.pointer (some ⟨p, 0, none⟩)) 0).run Tryz.prog w = .ok (.pointer (some ⟨p, 0, none⟩)) w := by kernel_rfl
theorem faHp1 : (Instr.fieldAt 53 (.pointer (some ⟨p, 0, none⟩)) 1).run Tryz.prog w = .ok (.pointer (some ⟨p, 1, none⟩)) w := by kernel_rfl
theorem faHp2 : (Instr.fieldAt 53 (.pointer (some ⟨p, 0, none⟩)) 2).run Tryz.prog w = .ok (.pointer (some ⟨p, 2, none⟩)) w := by kernel_rfl
theorem faHp3 : (Instr.fieldAt 53 (.pointer (some ⟨p, 0, none⟩)) 3).run Tryz.prog w = .ok (.pointer (some ⟨p, 3, none⟩)) w := by kernel_rfl
theorem faHp4 : (Instr.fieldAt 53 (.pointer (some ⟨p, 0, none⟩)) 4).run Tryz.prog w = .ok (.pointer (some ⟨p, 24, none⟩)) w := by kernel_rfl
theorem faHr0 : (Instr.fieldAt 32 (.pointer (some ⟨p, 3, none⟩)) 0).run Tryz.prog w = .ok (.pointer (some ⟨p, 3, none⟩)) w := by kernel_rfl
theorem ldHb {ad : Addr} {a : Option Addr} (h : w.cell? ad = some (.pointer a)) : (Instr.loadAt 24 (.pointer (some ad))).run Tryz.prog w = .ok (.pointer a) w := by simp [go_sem, h]
theorem ldHp {ad : Addr} {a : Option Addr} (h : w.cell? ad = some (.pointer a)) : (Instr.loadAt 23 (.pointer (some ad))).run Tryz.prog w = .ok (.pointer a) w := by simp [go_sem, h]
theorem PHo.set {y : HpS} (h : PHo w p qa x) {j : Nat} {u : Value} (hy : (phC qa x).set j u = phC qa y) : PHo (w.setCell ⟨p, j, none⟩ u) p qa y := by
  have := heap_setCell_same w p j _ 53 u h
  rw [List.setIfInBounds_toArray, hy] at this
  exact this
theorem PHo.put (h : PHo w p qa x) (y : Ros) : PHo (w.setCells p 3 (aE y)) p qa { x with R := y } :=
  heap_put p 53 [.int .u64 (x.us : Int)] (aE y) (aE x.R) [.pointer qa, .int .u64 (x.id : Int), .int .u64 (x.ev : Int)] w (by rw [aV, aV]) h
theorem phC_ev (qa : Option Addr) (x : HpS) (e : Nat) : (phC qa x).set 2 (.int .u64 (e : Int)) = phC qa { x with ev := e } := rfl
theorem phC_us (qa : Option Addr) (x : HpS) (e : Nat) : (phC qa x).set 24 (.int .u64 (e : Int)) = phC qa { x with us := e } := by
  show _ :: _ :: _ :: (aE x.R ++ [_]).set 21 _ = _
  rw [List.set_append_right _ _ (by rw [aV]; exact Nat.le_refl _), aV]
  rfl
end
def HJ (w0 : World) (H K : Nat → Prop) (w : World) (p q : Nat) (M : BenS) (x : HpS) : Prop :=
  ∃ G, aW.Bn w G q M ∧ PHu w p q x ∧ ¬ G p ∧ Only H w0 w ∧ Grow w0 H (fun b => G b ∨ b = p) ∧ (∀ b, K b → ¬ G b ∧ b ≠ p ∧ b < w.heap.size) ∧ CrG w0 H
section
variable {w0 w w' : World} {H K K' : Nat → Prop} {p q : Nat} {M : BenS} {x y : HpS}
theorem HJ.hul (h : HJ w0 H K w p q M x) : PHu w p q x := by obtain ⟨_, _, h, _⟩ := h; exact h
theorem HJ.tab (h : HJ w0 H K w p q M x) : Tab w := by
  obtain ⟨_, _, _, _, h, _, _, hT⟩ := h
  intro i hi
  have := hT.t i hi
  exact (h.cell (p := ⟨0, i, none⟩) (ec this) hT.off).trans this
theorem HJ.lt (h : HJ w0 H K w p q M x) {b : Nat} (hb : K b) : b < w.heap.size := by obtain ⟨_, _, _, _, _, _, h, _⟩ := h; exact (h b hb).2.2
theorem HJ.ne (h : HJ w0 H K w p q M x) {b : Nat} (hb : K b) : b ≠ p := by obtain ⟨_, _, _, _, _, _, h, _⟩ := h; exact (h b hb).2.1
theorem HJ.size (h : HJ w0 H K w p q M x) : w0.heap.size ≤ w.heap.size := by obtain ⟨_, _, _, _, h, _⟩ := h; exact h.size
theorem HJ.guard (h : HJ w0 H K w p q M x) (hb : Below w.heap.size w w') (hK : ∀ b, K' b → K b ∨ (w.heap.size ≤ b ∧ b < w'.heap.size)) : HJ w0 H K' w' p q M x := by
  obtain ⟨G, h1, h2, h3, h4, h5, h6, h7⟩ := h
  have hlt := aW.lt h1
  have hp := h2.lt
  have hs := hb.size
  refine ⟨G, aW.below h1 hb, h2.below hb, h3, h4.then_below hb, h5, fun b e => ?_, h7⟩
  rcases hK b e with e | ⟨e1, e2⟩
  · obtain ⟨g1, g2, g3⟩ := h6 b e
    exact ⟨g1, g2, by omega⟩
  · exact ⟨fun hg => by have := hlt b hg; omega, by omega, e2⟩
theorem HJ.below (h : HJ w0 H K w p q M x) (hb : Below w.heap.size w w') : HJ w0 H K w' p q M x := h.guard hb fun b e => .inl e
theorem HJ.drew (h : HJ w0 H K w p q M x) : HJ w0 H K w.drew p q M x := h.below (bd (Below.refl _ _))
theorem HJ.less (h : HJ w0 H K w p q M x) (hK : ∀ b, K' b → K b) : HJ w0 H K' w p q M x := h.guard (Below.refl _ _) fun b e => .inl (hK b e)
def up (K : Nat → Prop) (n m : Nat) : Nat → Prop := fun b => K b ∨ (n ≤ b ∧ b < m)
theorem HJ.up (h : HJ w0 H K w p q M x) (hb : Below w.heap.size w w') : HJ w0 H (Proofs.YtheponmdbmloaaaGreatDoor.up K w.heap.size w'.heap.size) w' p q M x := h.guard hb fun b e => e
theorem HJ.kept (h : HJ w0 H K w p q M x) (hb : Below w.heap.size w w') : bm K w w' := fun b e => hb.block b (h.lt e)
theorem HJ.turn {G G' : Nat → Prop} {M' : BenS} (h1 : aW.Bn w G q M) (h2 : PHu w p q x) (h3 : ¬ G p) (h4 : Only H w0 w) (h5 : Grow w0 H (fun b => G b ∨ b = p)) (h6 : ∀ b, K b → ¬ G b ∧ b ≠ p ∧ b < w.heap.size) (h7 : CrG w0 H)
    (k1 : aW.Bn w' G' q M') (k2 : Only G w w') (k3 : Grow w G G') : HJ w0 H K w' p q M' x ∧ bm K w w' := by
  have hs := k2.size
  have hs0 := h4.size
  have hp := h2.lt
  refine ⟨⟨G', k1, h2.only k2 h3, fun e => ?_, h4.trans k2 fun b e => h5 b (.inl e), fun b e => ?_, fun b e => ?_, h7⟩, fun b e => k2.block b (h6 b e).2.2 (h6 b e).1⟩
  · rcases k3 p e with e | e
    · exact h3 e
    · omega
  · rcases e with e | e
    · rcases k3 b e with e | e
      · exact h5 b (.inl e)
      · exact .inr (by omega)
    · exact h5 b (.inr e)
  · obtain ⟨g1, g2, g3⟩ := h6 b e
    refine ⟨fun hg => ?_, g2, by omega⟩
    rcases k3 b hg with e | e
    · exact g1 e
    · omega
theorem HJ.write (d n : Int) (b : Blk) (hr : Room M 1) (h : HJ w0 H K w p q M x) : Calls Tryz.prog 22 #[.pointer (some ⟨q, 0, none⟩), .int .i64 d, .int .i64 n, blk b] w fun e w' => e = .returned (.int .i64 (wrE6 M d n)) ∧ HJ w0 H K w' p q (wrS6 M d n b) x ∧ bm K w w' := by
  obtain ⟨G, h1, h2, h3, h4, h5, h6, h7⟩ := h
  exact (aW.write d n b hr h1).mono fun e w' ⟨k0, G', k1, k2, k3⟩ => ⟨k0, HJ.turn h1 h2 h3 h4 h5 h6 h7 k1 k2 k3⟩
theorem HJ.flush (d : Int) (hr : Room M 1) (h : HJ w0 H K w p q M x) : Calls Tryz.prog 88 #[.pointer (some ⟨q, 0, none⟩), .int .i64 d] w fun e w' => e = .returned (.int .i64 (flE6 M d)) ∧ HJ w0 H K w' p q (flS6 M d) x ∧ bm K w w' := by
  obtain ⟨G, h1, h2, h3, h4, h5, h6, h7⟩ := h
  exact (aW.flush d hr h1).mono fun e w' ⟨k0, G', k1, k2, k3⟩ => ⟨k0, HJ.turn h1 h2 h3 h4 h5 h6 h7 k1 k2 k3⟩
theorem HJ.read (d n : Int) (h : HJ w0 H K w p q M x) : Calls Tryz.prog 54 #[.pointer (some ⟨q, 0, none⟩), .int .i64 d, .int .i64 n] w fun e w' => e = .returned (.tuple #[blk (rdB6 M d n), .int .i64 (bO M d n)]) ∧ Below w.heap.size w w' := by
  obtain ⟨G, h1, _⟩ := h
  exact aW.read d n h1
theorem HJ.obj (h : HJ w0 H K w p q M x) (ho : Only (fun b => b = p) w w') (hp : PHu w' p q y) : HJ w0 H K w' p q M y ∧ bm K w w' := by
  obtain ⟨G, h1, h2, h3, h4, h5, h6, h7⟩ := h
  have hs := ho.size
  refine ⟨⟨G, aW.only h1 ho fun b hb e => h3 (e ▸ hb), hp, h3, h4.trans ho fun b e => h5 b (.inr e), h5, fun b e => ?_, h7⟩, fun b e => ho.block b (h6 b e).2.2 (h6 b e).2.1⟩
  obtain ⟨g1, g2, g3⟩ := h6 b e
  exact ⟨g1, g2, by omega⟩
theorem HJ.mine {g : Nat} (h : HJ w0 H K w p q M x) (hg : K g) (hg0 : w0.heap.size ≤ g) (ho : Only (fun b => b = g) w w') : HJ w0 H K w' p q M x := by
  obtain ⟨G, h1, h2, h3, h4, h5, h6, h7⟩ := h
  have hs := ho.size
  obtain ⟨g1, g2, g3⟩ := h6 g hg
  refine ⟨G, aW.only h1 ho fun b hb e => g1 (e ▸ hb), h2.only ho fun e => g2 e.symm, h3, h4.trans ho fun b e => .inr (by omega), h5, fun b e => ?_, h7⟩
  obtain ⟨g1, g2, g3⟩ := h6 b e
  exact ⟨g1, g2, by omega⟩
end
theorem bm.refl (K : Nat → Prop) (w : World) : bm K w w := fun _ _ => rfl
theorem bm.trans {K : Nat → Prop} {w1 w2 w3 : World} (h : bm K w1 w2) (k : bm K w2 w3) : bm K w1 w3 := fun b e => (k b e).trans (h b e)
theorem bm.less {K K' : Nat → Prop} {w1 w2 : World} (h : bm K w1 w2) (hK : ∀ b, K' b → K b) : bm K' w1 w2 := fun b e => h b (hK b e)
theorem bm.at_ {K : Nat → Prop} {w w' : World} {b : Nat} {o : Obj} (k : bm K w w') (hb : K b) (ho : w.heap[b]? = some o) : w'.heap[b]? = some o := (k b hb).trans ho
theorem bm.of_only {K : Nat → Prop} {w w' : World} {g : Nat} (ho : Only (fun b => b = g) w w') (hK : ∀ b, K b → b ≠ g ∧ b < w.heap.size) : bm K w w' := fun b e => ho.block b (hK b e).2 (hK b e).1
structure Fu where
  f : FuncId
  cap : List Value
  ok : ∀ (args : Array Value) (w : World), (callFunc f args).run Tryz.prog w = .ok (.enter f args) w
def Fu.val (s : Fu) : Value := .func (.func s.f) #[] s.cap.toArray
section
variable {ρ : Operand → Value} {o : Oper} {x y : Operand} {w : World} {s : Fu} {v : Value}
theorem ldFu1 {ad : Addr} (h : w.cell? ad = some s.val) : (Instr.loadAt 46 (.pointer (some ad))).run Tryz.prog w = .ok s.val w := by unfold Fu.val at *; simp [go_sem, h]
theorem exec_callU0 {a : Act} {ats : Array TypeId} (ho : o.op = .call { callee := .value x, args := #[], argTypes := ats }) (hx : a.eval x = s.val) : (execOp a.eval o).run Tryz.prog w = .ok (.enter s.f s.cap.toArray) w := by
  unfold Fu.val at hx
  unfold execOp
  simp [ho, resolve, Deferred.ofValue, invoke, hx, s.ok]
theorem exec_callU1 {a : Act} {ats : Array TypeId} (ho : o.op = .call { callee := .value x, args := #[y], argTypes := ats }) (hx : a.eval x = s.val) (hy : a.eval y = v) : (execOp a.eval o).run Tryz.prog w = .ok (.enter s.f (v :: s.cap).toArray) w := by
  unfold Fu.val at hx
  unfold execOp
  simp [ho, resolve, Deferred.ofValue, invoke, hx, hy, s.ok]
end
def FJ (C : HulI) (w0 : World) (H K : Nat → Prop) (w : World) (q p : Nat) (h : HuS) : Prop :=
  ∃ G, C.J w G q p h ∧ Only H w0 w ∧ Grow w0 H G ∧ (∀ b, K b → ¬ G b ∧ b < w.heap.size) ∧ CrG w0 H
section
variable {C : HulI} {w0 w w' : World} {H K K' : Nat → Prop} {q p : Nat} {h h' : HuS}
theorem FJ.start {G : Nat → Prop} (j : C.J w G q p h) (hc : CrG w G) : FJ C w G (fun _ => False) w q p h := ⟨G, j, Only.refl _ _, Grow.same _ _, fun _ e => e.elim, hc⟩
theorem FJ.size (j : FJ C w0 H K w q p h) : w0.heap.size ≤ w.heap.size := by obtain ⟨_, _, h2, _⟩ := j; exact h2.size
theorem FJ.lt (j : FJ C w0 H K w q p h) {b : Nat} (hb : K b) : b < w.heap.size := by obtain ⟨_, _, _, _, h4, _⟩ := j; exact (h4 b hb).2
theorem FJ.crg_ {G : Nat → Prop} (h2 : Only H w0 w) (h3 : Grow w0 H G) (hT : CrG w0 H) : CrG w G := by
  refine ⟨fun i hi => (h2.cell (p := ⟨0, i, none⟩) (ec (hT.t i hi)) hT.off).trans (hT.t i hi), fun e => ?_⟩
  rcases h3 _ e with e | e
  · exact hT.off e
  · have := ec (hT.t 0 (by omega))
    exact absurd e (Nat.not_le_of_lt this)
theorem FJ.guard (j : FJ C w0 H K w q p h) (hb : Below w.heap.size w w') (hK : ∀ b, K' b → K b ∨ (w.heap.size ≤ b ∧ b < w'.heap.size)) : FJ C w0 H K' w' q p h := by
  obtain ⟨G, h1, h2, h3, h4, h5⟩ := j
  have hlt := C.lt h1
  have hs := hb.size
  refine ⟨G, C.below h1 hb, h2.then_below hb, h3, fun b e => ?_, h5⟩
  rcases hK b e with e | ⟨e1, e2⟩
  · obtain ⟨g1, g2⟩ := h4 b e
    exact ⟨g1, by omega⟩
  · exact ⟨fun hg => by have := hlt b hg; omega, e2⟩
theorem FJ.below (j : FJ C w0 H K w q p h) (hb : Below w.heap.size w w') : FJ C w0 H K w' q p h := j.guard hb fun b e => .inl e
theorem FJ.less (j : FJ C w0 H K w q p h) (hK : ∀ b, K' b → K b) : FJ C w0 H K' w q p h := j.guard (Below.refl _ _) fun b e => .inl (hK b e)
theorem FJ.kept (j : FJ C w0 H K w q p h) (hb : Below w.heap.size w w') : bm K w w' := fun b e => hb.block b (j.lt e)
theorem FJ.turn {G G' : Nat → Prop} (h1 : C.J w G q p h) (h2 : Only H w0 w) (h3 : Grow w0 H G) (h4 : ∀ b, K b → ¬ G b ∧ b < w.heap.size) (h5 : CrG w0 H) (k1 : C.J w' G' q p h') (k2 : Only G w w') (k3 : Grow w G G') : FJ C w0 H K w' q p h' ∧ bm K w w' ∧ w.heap.size ≤ w'.heap.size := by
  have hs := k2.size
  have hs0 := h2.size
  refine ⟨⟨G', k1, h2.trans k2 fun b e => h3 b e, fun b e => ?_, fun b e => ?_, h5⟩, fun b e => k2.block b (h4 b e).2 (h4 b e).1, hs⟩
  · rcases k3 b e with e | e
    · exact h3 b e
    · exact .inr (by omega)
  · obtain ⟨g1, g2⟩ := h4 b e
    refine ⟨fun hg => ?_, by omega⟩
    rcases k3 b hg with e | e
    · exact g1 e
    · omega
theorem FJ.read (s m : Int) (j : FJ C w0 H K w q p h) (hr : HRm h) (hk : hrdK h s m) : Calls Tryz.prog 24 #[.pointer (some ⟨p, 0, none⟩), .agg #[.int .i64 s, .int .i64 m]] w fun e w' => e = .returned (.tuple #[blk (hrdB h s m), .int .i64 (cg h s m)]) ∧ FJ C w0 H K w' q p (hrdS h s m) ∧ bm K w w' ∧ w.heap.size ≤ w'.heap.size := by
  obtain ⟨G, h1, h2, h3, h4, h5⟩ := j
  exact (C.read s m h1 (FJ.crg_ h2 h3 h5) hr.1 hr.2).mono fun e w' ⟨k0, G', k1, k2, k3, _⟩ => ⟨k0, FJ.turn h1 h2 h3 h4 h5 (k1 hk) k2 k3⟩
theorem FJ.id_ (j : FJ C w0 H K w q p h) : Calls Tryz.prog 51 #[.pointer (some ⟨p, 0, none⟩)] w fun e w' => e = .returned (.int .u64 (h.id : Int)) ∧ Below w.heap.size w w' := by obtain ⟨G, h1, _⟩ := j; exact C.id_ h1
theorem FJ.is (j : FJ C w0 H K w q p h) : aI h.R = true ∧ h.id ≠ 0 := by obtain ⟨G, h1, _⟩ := j; exact C.fin h1
theorem FJ.roster (j : FJ C w0 H K w q p h) : Calls Tryz.prog 52 #[.pointer (some ⟨p, 0, none⟩)] w fun e w' => e = .returned (ros h.R) ∧ Below w.heap.size w w' := by obtain ⟨G, h1, _⟩ := j; exact C.roster h1
theorem FJ.fin {G : Nat → Prop} (j : FJ C w G K w' q p h') : ∃ G', C.J w' G' q p h' ∧ Only G w w' ∧ Grow w G G' := by
  obtain ⟨G', h1, h2, h3, _⟩ := j
  exact ⟨G', h1, h2, h3⟩
theorem FJ.mine {g : Nat} (j : FJ C w0 H K w q p h) (hg : K g) (hg0 : w0.heap.size ≤ g) (ho : Only (fun b => b = g) w w') : FJ C w0 H K w' q p h := by
  obtain ⟨G, h1, h2, h3, h4, h5⟩ := j
  have hs := ho.size
  obtain ⟨g1, g2⟩ := h4 g hg
  refine ⟨G, C.only h1 ho fun b hb e => g1 (e ▸ hb), h2.trans ho fun b e => .inr (by omega), h3, fun b e => ?_, h5⟩
  obtain ⟨g1, g2⟩ := h4 b e
  exact ⟨g1, by omega⟩
end
end Go.Proofs.YtheponmdbmloaaaGreatDoor
