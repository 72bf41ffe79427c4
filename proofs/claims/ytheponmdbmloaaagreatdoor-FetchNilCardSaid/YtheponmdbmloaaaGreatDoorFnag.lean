import Derived.Test.YtheponmdbmloaaaGreatDoorFnaf
import Derived.Test.YtheponmdbmloaaaGreatDoorFnae
import Derived.OrdersHeld
import Derived.Deep.DeepCutAuto
import Derived.Test.YtheponmdbmloaaaGreatDoorFnaa
import Derived.Test.YtheponmdbmloaaaGreatDoorFnZ
namespace Go.Proofs.YtheponmdbmloaaaGreatDoor
open Go.RowKit
set_option linter.unusedVariables false
set_option maxRecDepth 100000
section
variable {ρ : Operand → Value} {o : Oper} {x y z u : Operand} {w : World} {t : TypeId} {p q a b c : Value}
theorem dv (ho : o.op = .slice t x (some y) (some z) (some u)) (hx : ρ x = p) (hy : ρ y = a) (hz : ρ z = b) (hu : ρ u = c) (h : (Instr.sliceAt t p (some a) (some b) (some c)).run Tryz.prog w = .ok q w) : (execOp ρ o).run Tryz.prog w = .ok (.value q) w := by
  unfold execOp
  simp only [ho, hx, hy, hz, hu, Option.map_some, Sem.run_bind, h, Result.andThen_ok, Sem.run_pure]
end
section
variable (g : Nat) (w : World)
theorem cut_gen {i j k : Nat} (h1 : i ≤ j) (h2 : j ≤ k) (h3 : k ≤ 64) (h4 : i < k) : (Instr.sliceAt 38 (.pointer (some ⟨g, 0, none⟩)) (some (.int .i64 (i : Int))) (some (.int .i64 (j : Int))) (some (.int .i64 (k : Int)))).run Tryz.prog w = .ok (.slice (some ⟨g, i, none⟩) (j - i) (k - i)) w := by
  have e1 : (0 ≤ (k : Int) ∧ (k : Int) ≤ 64) := by omega
  have e2 : (0 ≤ (j : Int) ∧ (j : Int) ≤ (k : Int)) := by omega
  have e3 : (0 ≤ (i : Int) ∧ (i : Int) ≤ (j : Int)) := by omega
  have e4 : k ≠ i := by omega
  simp [Instr.sliceAt, Instr.sliceBounds, Instr.sliceBound, Instr.sureAddr, asIntOf, run_underlying undB, Tryz.sizeOf5, Addr.add_mid, e1, e2, e3, e4, h1, h2, h3]
theorem cut_a : (Instr.sliceAt 38 (.pointer (some ⟨g, 0, none⟩)) (some (.int .i64 0)) (some (.int .i64 8)) (some (.int .i64 8))).run Tryz.prog w = .ok (.slice (some ⟨g, 0, none⟩) 8 8) w := cut_gen g w (i := 0) (j := 8) (k := 8) (by omega) (by omega) (by omega) (by omega)
theorem cut_b : (Instr.sliceAt 38 (.pointer (some ⟨g, 0, none⟩)) (some (.int .i64 8)) (some (.int .i64 52)) (some (.int .i64 52))).run Tryz.prog w = .ok (.slice (some ⟨g, 8, none⟩) 44 44) w := cut_gen g w (i := 8) (j := 52) (k := 52) (by omega) (by omega) (by omega) (by omega)
theorem cut_c : (Instr.sliceAt 38 (.pointer (some ⟨g, 0, none⟩)) (some (.int .i64 52)) (some (.int .i64 56)) (some (.int .i64 56))).run Tryz.prog w = .ok (.slice (some ⟨g, 52, none⟩) 4 4) w := cut_gen g w (i := 52) (j := 56) (k := 56) (by omega) (by omega) (by omega) (by omega)
theorem cut_d : (Instr.sliceAt 38 (.pointer (some ⟨g, 0, none⟩)) (some (.int .i64 56)) (some (.int .i64 64)) (some (.int .i64 64))).run Tryz.prog w = .ok (.slice (some ⟨g, 56, none⟩) 8 8) w := cut_gen g w (i := 56) (j := 64) (k := 64) (by omega) (by omega) (by omega) (by omega)
theorem cut_e : (Instr.sliceAt 38 (.pointer (some ⟨g, 0, none⟩)) (some (.int .i64 0)) (some (.int .i64 52)) (some (.int .i64 52))).run Tryz.prog w = .ok (.slice (some ⟨g, 0, none⟩) 52 52) w := cut_gen g w (i := 0) (j := 52) (k := 52) (by omega) (by omega) (by omega) (by omega)
end
section
variable {ρ : Operand → Value} {o : Oper} {x y : Operand} {w : World} {t : TypeId} {old cs : Array Value}
theorem exec_fillD (hz : (Tryz.prog.info? t).map (·.size) = some cs.size) (he : old.size = cs.size) (h1 : cs.toList.all Value.oneCell' = true) (ho : o.op = .store t x y) (hx : ρ x = .pointer (some ⟨w.heap.size, 0, none⟩)) (hy : ρ y = .agg cs) :
    (execOp ρ o).run Tryz.prog (w.alloc (.cells old t)).drew = .ok .skip (w.alloc (.cells cs t)).drew := exec_fillT (w := w.drew) hz he h1 ho hx hy
end
theorem exec_bld5 {ρ : Operand → Value} {o : Oper} {w : World} {t : TypeId} {v : Value} {x0 x1 x2 x3 x4 : Operand} {y0 y1 y2 y3 y4 : Value} (ho : o.op = .build t #[(0, x0), (1, x1), (2, x2), (3, x3), (4, x4)]) (h0 : ρ x0 = y0) (h1 : ρ x1 = y1) (h2 : ρ x2 = y2) (h3 : ρ x3 = y3) (h4 : ρ x4 = y4)
    (h : (Instr.build t #[(0, y0), (1, y1), (2, y2), (3, y3), (4, y4)]).run Tryz.prog w = .ok v w) : (execOp ρ o).run Tryz.prog w = .ok (.value v) w := by
  subst h0 h1 h2 h3 h4
  unfold execOp
  simp only [ho, List.map_toArray, List.map_cons, List.map_nil, Sem.run_bind, h, Result.andThen_ok, Sem.run_pure]
theorem res_row {fn : Func} {p : Tmp} {t : TypeId} {cs : Array Value} {d : TypeDesc} (h0 : fn.results = #[.cell p t]) (tmps : Array Value) (w : World) (b : Nat) (hp : tmps.getD p undef = .pointer (some ⟨b, 0, none⟩)) (h : w.heap[b]? = some (.cells cs t (0, 0))) (hu : Tryz.prog.underlying t = some d) (hd : d.isRow = true) (hz : (Tryz.prog.info? t).map (·.size) = some cs.size) :
    (results fn tmps).run Tryz.prog w = .ok (.agg cs) w := by
  have hr : w.rangeAt b 0 cs.toList := fun j v hj => by
    rw [cell_of_row w b (0 + j) cs t (0, 0) h, Nat.zero_add]
    simpa using hj
  have hl : (loadVar t ⟨b, 0, none⟩).run Tryz.prog w = .ok (.agg cs) w := by
    have := run_loadVar_mid (P := Tryz.prog) w b 0 t cs.toList d hr hu hd (by simpa using hz)
    simpa using this
  have hp' : tmps[p]?.getD undef = .pointer (some ⟨b, 0, none⟩) := by simpa using hp
  simp [results, h0, hp', asAddr, hl]
theorem grown_of_below {w w' : World} {row : Option Nat} (hb : Below w.heap.size w w') : w.grownBy w' row := ⟨hb.os, hb.tape, hb.output, hb.size, fun k hk _ => hb.block k hk⟩
def dh (g : Nat) : Array Value := #[.slice (some ⟨g, 0, none⟩) 8 8, .slice (some ⟨g, 8, none⟩) 44 44, .slice (some ⟨g, 52, none⟩) 4 4, .slice (some ⟨g, 56, none⟩) 8 8, .slice (some ⟨g, 0, none⟩) 52 52]
theorem parts5 (g : Nat) (w : World) : (Instr.build 151 #[(0, .slice (some ⟨g, 0, none⟩) 8 8), (1, .slice (some ⟨g, 8, none⟩) 44 44), (2, .slice (some ⟨g, 52, none⟩) 4 4), (3, .slice (some ⟨g, 56, none⟩) 8 8), (4, .slice (some ⟨g, 0, none⟩) 52 52)]).run Tryz.prog w = .ok (.agg (dh g)) w := by kernel_rfl
set_option maxHeartbeats 1000000 in
theorem cut_any (g : Nat) (w : World) : Calls Tryz.prog 101 #[.pointer (some ⟨g, 0, none⟩)] w fun e w' => e = .returned (.agg #[.slice (some ⟨g, 0, none⟩) 8 8, .slice (some ⟨g, 8, none⟩) 44 44, .slice (some ⟨g, 52, none⟩) 4 4, .slice (some ⟨g, 56, none⟩) 8 8, .slice (some ⟨g, 0, none⟩) 52 52]) ∧ Below w.heap.size w w' := by
  go_enter Tryz.func101, Tryz.ntmps101
  go_wp2_with fail
  refine wp_region_still_tail 15 (by kernel_rfl) (by kernel_rfl) ?_
  simp only [List.take_succ_cons, List.take_zero, List.drop_succ_cons, List.drop_zero]
  refine aL rfl (ag rfl (ev rfl)) ?_
  simp only [Act.put, aa, ac, ae]
  refine aL rfl (bj rfl (ev rfl)) ?_
  simp only [Act.put, aa, ac, ae]
  refine aL rfl (dv rfl (ev rfl) evk evk evk (cut_a g _)) ?_
  simp only [Act.put, aa, ac, ae]
  refine aL rfl (ag rfl (ev rfl)) ?_
  simp only [Act.put, aa, ac, ae]
  refine aL rfl (bj rfl (ev rfl)) ?_
  simp only [Act.put, aa, ac, ae]
  refine aL rfl (dv rfl (ev rfl) evk evk evk (cut_b g _)) ?_
  simp only [Act.put, aa, ac, ae]
  refine aL rfl (ag rfl (ev rfl)) ?_
  simp only [Act.put, aa, ac, ae]
  refine aL rfl (bj rfl (ev rfl)) ?_
  simp only [Act.put, aa, ac, ae]
  refine aL rfl (dv rfl (ev rfl) evk evk evk (cut_c g _)) ?_
  simp only [Act.put, aa, ac, ae]
  refine aL rfl (ag rfl (ev rfl)) ?_
  simp only [Act.put, aa, ac, ae]
  refine aL rfl (bj rfl (ev rfl)) ?_
  simp only [Act.put, aa, ac, ae]
  refine aL rfl (dv rfl (ev rfl) evk evk evk (cut_d g _)) ?_
  simp only [Act.put, aa, ac, ae]
  refine aL rfl (ag rfl (ev rfl)) ?_
  simp only [Act.put, aa, ac, ae]
  refine aL rfl (bj rfl (ev rfl)) ?_
  simp only [Act.put, aa, ac, ae]
  refine aL rfl (dv rfl (ev rfl) evk evk evk (cut_e g _)) ?_
  simp only [Act.put, aa, ac, ae]
  refine wpStill_nil ?_
  change wpList _ _ _ _ _ (World.drew _)
  refine ah rfl (exec_bld5 (v := .agg (dh g)) rfl (ev rfl) (ev rfl) (ev rfl) (ev rfl) (ev rfl) (parts5 g _)) ?_
  simp only [Act.put, aa, ac, ae]
  refine aZ rfl (exec_fillD (w := w) (cs := dh g) ?s1 ?s2 ?s3 rfl (ev rfl) (ev rfl)) ?_
  case s1 => kernel_rfl
  case s2 => rfl
  case s3 => rfl
  refine wpList_nil ?_
  go_wp2_with fail
  refine bodyPost_ret (res_row (cs := dh g) (t := 151) rfl _ _ w.heap.size rfl ?h1 Tryz.underlying151 rfl ?h2) rfl ⟨rfl, ?h3⟩
  case h1 => exact heap_alloc_new w.drew _
  case h2 => kernel_rfl
  case h3 => exact bd ((Below.refl _ w).alloc (Nat.le_refl _) _)
theorem piece_all {b : List UInt8} {n : Nat} (h : b.length = n) : piece b 0 n = b := by
  subst h
  simp [piece]
set_option maxHeartbeats 400000 in
theorem dp (A : Option Addr) (n c N : Nat) (b : List UInt8) (w : World) (hb : Rd w N A n b) (h1 : 1 ≤ n) (h2 : n ≤ 8) :
    Calls Tryz.prog 119 #[.slice A n c] w fun e w' => e = .returned (.int .u64 (val 8 b)) ∧ w = w' := by
  have hp := piece_all hb.1
  have HP := Lib.hid hp
  clear hp
  go_enter Tryz.func119, Tryz.ntmps119
  go_wp2_with fail
  refine (get_ok A n c N b 0 n _ hb (by unfold maxLen; omega) h1 h2 (by omega)).mono ?_
  rintro e w' ⟨rfl, rfl⟩
  rw [HP.out]
  go_wp2
  go_ret
  exact ⟨rfl, rfl⟩
set_option maxHeartbeats 400000 in
theorem lay_any (g off k n : Nat) (t : TypeId) (l : List UInt8) (w : World) (hs : bH w g t l) (h1 : 1 ≤ k) (h2 : k ≤ 8) (ho : off + k ≤ l.length) (hn : n < 256 ^ k) :
    Calls Tryz.prog 102 #[.slice (some ⟨g, off, none⟩) k k, .int .u64 n] w fun e w' => e = .returned (.tuple #[]) ∧ bH w' g t (splice l off (br 8 k n)) ∧ w.grownBy w' (some g) := by
  have HS := Lib.hid hs
  have HL := Lib.hid (ay 8 k n)
  clear hs
  go_enter Tryz.func102, Tryz.ntmps102
  go_wp2_with fail
  refine (put_ok n k w h1 h2 hn).mono ?_
  rintro e w1 ⟨v, rfl, hv, hb⟩
  obtain ⟨A, c, rfl, hrd, _, _⟩ := hv.made.open_ HL.out
  have HR := Lib.hid hrd
  have HS1 := Lib.hid (HS.out.below HS.out.lt hb)
  have HB := Lib.hid hb
  clear hv hrd hb
  go_wp2_with (with_reducible refine cN rfl _ _ rfl g off k k k c _ A t l (br 8 k n) rfl rfl HS1.out HR.out (Nat.le_refl _) ho ?_)
  intro w2 hr2 hg2
  have HR2 := Lib.hid hr2
  have HG2 := Lib.hid hg2
  clear hr2 hg2
  go_wp2
  go_end0
  exact ⟨rfl, HR2.out, (grown_of_below HB.out).trans HG2.out⟩
theorem bt_pad {b : List UInt8} {j : Nat} : bt (padL b) j = if j < b.length then bt b j else 0 := by
  unfold padL
  split
  · rename_i h; exact cP h
  · rename_i h; rw [cO (by omega), bt_noughts]
theorem bt_head {n : Nat} {b : List UInt8} {j : Nat} : bt (headL n b) j = if j < 8 then bt (br 8 8 n) j else if j < 8 + b.length then bt b (j - 8) else 0 := by
  unfold headL
  split
  · rename_i h; exact cP (by rw [ay]; exact h)
  · rename_i h
    rw [cO (by rw [ay]; omega), ay, bt_pad]
    by_cases h2 : j < 8 + b.length
    · rw [if_pos (by omega), if_pos h2]
    · rw [if_neg (by omega), if_neg h2]
theorem bt_seal {n : Nat} {b : List UInt8} {j : Nat} (hb : b.length ≤ 44) : bt (sealL n b) j = if j < 52 then bt (headL n b) j else if j < 56 then bt (br 8 4 (more 0 (headL n b))) (j - 52) else bt (br 8 8 n) (j - 56) := by
  have h52 := headL_length n hb
  unfold sealL
  split
  · rename_i h; exact cP (by omega)
  · rename_i h
    rw [cO (by omega), h52]
    split
    · rename_i h2; exact cP (by rw [ay]; omega)
    · rename_i h2; rw [cO (by rw [ay]; omega), ay, show j - 52 - 4 = j - 56 from by omega]
def noSum (n : Nat) (b : List UInt8) : List UInt8 := splice (splice (splice ao.toList 0 (br 8 8 n)) 56 (br 8 8 n)) 8 b
theorem noSum_1 (n : Nat) : (splice ao.toList 0 (br 8 8 n)).length = 64 := by rw [length_splice _ _ _ (by simp [ay])]; simp
theorem noSum_2 (n : Nat) : (splice (splice ao.toList 0 (br 8 8 n)) 56 (br 8 8 n)).length = 64 := by rw [length_splice _ _ _ (by rw [noSum_1, ay]; omega), noSum_1]
section
variable {n : Nat} {b : List UInt8} (hb : b.length ≤ 44)
include hb
theorem du : (noSum n b).length = 64 := by unfold noSum; rw [length_splice _ _ _ (by rw [noSum_2]; omega), noSum_2]
theorem bt_noSum {j : Nat} : bt (noSum n b) j = if 8 ≤ j ∧ j < 8 + b.length then bt b (j - 8) else if 56 ≤ j ∧ j < 64 then bt (br 8 8 n) (j - 56) else if j < 8 then bt (br 8 8 n) j else 0 := by
  unfold noSum
  have hz : bt ao.toList j = 0 := by
    have : ao.toList = List.replicate 64 0 := by decide
    rw [this, bt_noughts]
  rw [bt_splice (by rw [noSum_2]; omega), bt_splice (by rw [noSum_1, ay]; omega), bt_splice (by simp [ay]), ay, hz]
  congr 2
  by_cases h : j < 8
  · rw [if_pos (by omega), if_pos h, Nat.sub_zero]
  · rw [if_neg (by omega), if_neg h]
theorem noSum_head : piece (noSum n b) 0 52 = headL n b := by
  refine eq_of_bt (by rw [cq (by rw [du hb]; omega), headL_length n hb]) fun j hj => ?_
  rw [cq (by rw [du hb]; omega)] at hj
  rw [bt_piece hj, Nat.zero_add, bt_noSum hb, bt_head]
  by_cases h8 : j < 8
  · rw [if_neg (by omega), if_neg (by omega), if_pos h8, if_pos h8]
  · by_cases h2 : j < 8 + b.length
    · rw [if_pos (by omega), if_neg h8, if_pos h2]
    · rw [if_neg (by omega), if_neg (by omega), if_neg h8, if_neg h8, if_neg h2]
theorem noSum_seal : splice (noSum n b) 52 (br 8 4 (more 0 (headL n b))) = sealL n b := by
  have h64 := du (n := n) hb
  refine eq_of_bt (by rw [length_splice _ _ _ (by rw [h64, ay]; omega), h64, sealL_length n hb]) fun j hj => ?_
  rw [length_splice _ _ _ (by rw [h64, ay]; omega), h64] at hj
  rw [bt_splice (by rw [h64, ay]; omega), bt_seal hb, ay, bt_noSum hb, bt_head]
  by_cases h52 : j < 52
  · rw [if_neg (by omega), if_pos h52]
    by_cases h8 : j < 8
    · rw [if_neg (by omega), if_neg (by omega), if_pos h8, if_pos h8]
    · by_cases h2 : j < 8 + b.length
      · rw [if_pos (by omega), if_neg h8, if_pos h2]
      · rw [if_neg (by omega), if_neg (by omega), if_neg h8, if_neg h8, if_neg h2]
  · by_cases h56 : j < 56
    · rw [if_pos (by omega), if_neg h52, if_pos h56]
    · rw [if_neg (by omega), if_neg h52, if_neg h56, if_neg (by omega), if_pos (by omega)]
end
theorem cells5 {w : World} {b : Nat} {t : TypeId} {x y z u v : Value} (h : w.heap[b]? = some (.cells #[x, y, z, u, v] t (0, 0))) : w.cell? ⟨b, 0, none⟩ = some x ∧ w.cell? ⟨b, 1, none⟩ = some y ∧ w.cell? ⟨b, 2, none⟩ = some z ∧ w.cell? ⟨b, 3, none⟩ = some u ∧ w.cell? ⟨b, 4, none⟩ = some v := by
  refine ⟨?_, ?_, ?_, ?_, ?_⟩
  · rw [cell_of_row w b 0 _ t (0, 0) h]; rfl
  · rw [cell_of_row w b 1 _ t (0, 0) h]; rfl
  · rw [cell_of_row w b 2 _ t (0, 0) h]; rfl
  · rw [cell_of_row w b 3 _ t (0, 0) h]; rfl
  · rw [cell_of_row w b 4 _ t (0, 0) h]; rfl
def PartsAt (w : World) (p g : Nat) : Prop := w.heap[p]? = some (.cells (dh g) 151 (0, 0))
theorem PartsAt.cells {w : World} {p g : Nat} (h : PartsAt w p g) : w.cell? ⟨p, 0, none⟩ = some (.slice (some ⟨g, 0, none⟩) 8 8) ∧ w.cell? ⟨p, 1, none⟩ = some (.slice (some ⟨g, 8, none⟩) 44 44) ∧ w.cell? ⟨p, 2, none⟩ = some (.slice (some ⟨g, 52, none⟩) 4 4) ∧ w.cell? ⟨p, 3, none⟩ = some (.slice (some ⟨g, 56, none⟩) 8 8) ∧ w.cell? ⟨p, 4, none⟩ = some (.slice (some ⟨g, 0, none⟩) 52 52) := cells5 h
theorem PartsAt.grown {w w' : World} {p g k : Nat} (h : PartsAt w p g) (hk : p ≠ k) (hb : w.grownBy w' (some k)) : PartsAt w' p g := (hb.block p (aF h) (fun e => hk (by injection e))).trans h
theorem PartsAt.below {w w' : World} {p g B : Nat} (h : PartsAt w p g) (hB : p < B) (hb : Below B w w') : PartsAt w' p g := blk_keep2 h hB hb
structure PutW (B : Nat) (w w' : World) (r g p : Nat) (l : List UInt8) : Prop where
  res : bH w' r 38 ao.toList
  row : bH w' g 38 l
  par : PartsAt w' p g
  bel : Below B w w'
  r0 : B ≤ r
  g0 : B ≤ g
  rg : r ≠ g
  pg : p ≠ g
theorem PutW.turn {B : Nat} {w w1 w2 : World} {r g p : Nat} {l l' : List UInt8} (h : PutW B w w1 r g p l) (hr : bH w2 g 38 l') (hg : w1.grownBy w2 (some g)) (hB : B ≤ w.heap.size) : PutW B w w2 r g p l' :=
  ⟨h.res.grown h.rg hg, hr, h.par.grown h.pg hg, h.bel.grown hg (Nat.le_trans hB h.bel.size) (fun k hk => by injection hk with e; have := h.g0; omega), h.r0, h.g0, h.rg, h.pg⟩
theorem PutW.draw {B : Nat} {w w1 : World} {r g p : Nat} {l : List UInt8} (h : PutW B w w1 r g p l) : PutW B w w1.drew r g p l := ⟨h.res, h.row, h.par, bd h.bel, h.r0, h.g0, h.rg, h.pg⟩
section
variable {ρ : Operand → Value} {o : Oper} {x y z : Operand} {w : World} {t : TypeId} {n : Nat} {a : Value} {ad : Addr} {A : Option Addr} {m c : Nat}
theorem exec_cv32 (ho : o.op = .convert 155 34 x) (hx : ρ x = .int .u32 (n : Int)) (hn : n < 4294967296) : (execOp ρ o).run Tryz.prog w = .ok (.value (.int .u64 (n : Int))) w := by
  have h : IntKind.u64.wrap (n : Int) = (n : Int) := IntWalk.u64_in _ ⟨by omega, by omega⟩
  have hc : (convert 155 34 (.int .u32 (n : Int))).run Tryz.prog w = .ok (.int .u64 (n : Int)) w := by simp [convert, go_sem, h]
  unfold execOp
  simp only [ho, hx, Sem.run_bind, hc, Result.andThen_ok, Sem.run_pure]
theorem ldS (h : w.cell? ad = some (.slice A m c)) : (Instr.loadAt 141 (.pointer (some ad))).run Tryz.prog w = .ok (.slice A m c) w := by simp [go_sem, h]
theorem faP2 {b : Nat} : (Instr.fieldAt 151 (.pointer (some ⟨b, 0, none⟩)) 2).run Tryz.prog w = .ok (.pointer (some ⟨b, 2, none⟩)) w := by kernel_rfl
theorem faP4 {b : Nat} : (Instr.fieldAt 151 (.pointer (some ⟨b, 0, none⟩)) 4).run Tryz.prog w = .ok (.pointer (some ⟨b, 4, none⟩)) w := by kernel_rfl
end
set_option maxHeartbeats 1000000 in
theorem put_arg (m c : Nat) (A : Option Addr) (b : List UInt8) (w : World) (hb : b.length = m) :
    Calls Tryz.prog 92 #[.int .u64 0, .slice A m c] w fun e w' => e = .returned (.tuple #[blk (putB 0 b), .int .i64 (putE 0 b : Nat)]) ∧ Below w.heap.size w w' := by
  have hA := (Below.refl w.heap.size w).alloc (Nat.le_refl _) (.cells (cel ao).toArray 38)
  have HT := Lib.hid (c9 w ao 38)
  have HA := Lib.hid hA
  clear hA
  rw [show putB 0 b = ao from rfl, show putE 0 b = 2 from rfl]
  go_enter Tryz.func92, Tryz.ntmps92
  go_wp2_with (first | (refine ah rfl (aR rfl) ?_) | (refine ah rfl (cK (c := ao) (parts := []) rfl rfl) ?_) | (refine aZ rfl (bc rfl rfl rfl HT.out) ?_))
  refine bodyPost_ret (cd rfl _ _ _ rfl (World.rangeAt_setCells_same _ _ _ _ (by rw [aw]; exact HT.out))) rfl ⟨rfl, below_setCells HA.out (Nat.le_refl _) _⟩
set_option maxHeartbeats 1000000 in
theorem put_long (n m c : Nat) (A : Option Addr) (b : List UInt8) (w : World) (hb : b.length = m) (h0 : 0 < n) (hm : 44 < m) (hm2 : m ≤ maxLen) :
    Calls Tryz.prog 92 #[.int .u64 n, .slice A m c] w fun e w' => e = .returned (.tuple #[blk (putB n b), .int .i64 (putE n b : Nat)]) ∧ Below w.heap.size w w' := by
  have hA := (Below.refl w.heap.size w).alloc (Nat.le_refl _) (.cells (cel ao).toArray 38)
  have HT := Lib.hid (c9 w ao 38)
  have HA := Lib.hid hA
  have hE : putE n b = 3 := by unfold putE; rw [if_neg (by omega), if_pos (by omega)]
  have hB : putB n b = ao := by unfold putB; rw [hE]; rfl
  rw [hE, hB]
  unfold maxLen at hm2
  clear hA hE hB hb
  have hz : ((n : Int) == 0) = false := by simp; omega
  go_enter Tryz.func92, Tryz.ntmps92
  go_wp2_with (first | (refine ah rfl (aR rfl) ?_) | (refine ah rfl (cK (c := ao) (parts := []) rfl rfl) ?_) | (refine aZ rfl (bc rfl rfl rfl HT.out) ?_))
  refine bodyPost_ret (cd rfl _ _ _ rfl (World.rangeAt_setCells_same _ _ _ _ (by rw [aw]; exact HT.out))) rfl ⟨rfl, below_setCells HA.out (Nat.le_refl _) _⟩
theorem splice_pad {a x : List UInt8} (h : a.length + x.length ≤ 44) : splice (padL a) a.length x = padL (a ++ x) := by
  unfold splice padL
  rw [List.take_append_of_le_length (Nat.le_refl _), List.take_length, List.drop_append]
  rw [List.drop_of_length_le (by omega), List.nil_append, List.drop_replicate, List.append_assoc, List.length_append]
  congr 3
  omega
def z44 : List UInt8 := List.replicate 44 0
theorem z44_length : z44.length = 44 := rfl
def aX (x : Sup) : List Value := .int .u64 x.id :: .int .i64 x.self :: aC x.ros
def sup (x : Sup) : Value := .agg (aX x).toArray
theorem aM (x : Sup) : (aX x).length = 23 := by simp [aX, aS]
theorem celS_one (x : Sup) : ∀ v ∈ aX x, v.oneCell' = true := by
  intro v hv
  simp only [aX, List.mem_cons] at hv
  rcases hv with rfl | rfl | hv
  · rfl
  · rfl
  · exact celR_one _ v hv
theorem sizeS : (Tryz.prog.info? 128).map (·.size) = some 23 := by kernel_rfl
theorem size44 : (Tryz.prog.info? 138).map (·.size) = some 44 := by kernel_rfl
theorem zeroS_info : (Tryz.prog.info? 128).map (fun i => i.zero) = some (some (sup bz)) := by kernel_rfl
theorem zero44_info : (Tryz.prog.info? 138).map (fun i => i.zero) = some (some (arr z44)) := by kernel_rfl
section
variable {ρ : Operand → Value} {o : Oper} {x y : Operand} {w : World} {b off : Nat}
theorem ci {c : Sup} (ho : o.op = .load 128 x) (hx : ρ x = .pointer (some ⟨b, off, none⟩)) (hc : w.rangeAt b off (aX c)) : (execOp ρ o).run Tryz.prog w = .ok (.value (sup c)) w :=
  bF Tryz.underlying128 rfl (by rw [aM]; exact sizeS) ho hx hc
theorem dK {l : List UInt8} (hl : l.length = 44) (ho : o.op = .load 138 x) (hx : ρ x = .pointer (some ⟨b, off, none⟩)) (hc : w.rangeAt b off (vals l)) : (execOp ρ o).run Tryz.prog w = .ok (.value (arr l)) w :=
  bF Tryz.underlying138 rfl (by rw [aQ, hl]; exact size44) ho hx hc
theorem exec_boxS {c : Sup} (ho : o.op = .box 128 x) (hx : ρ x = sup c) : (execOp ρ o).run Tryz.prog w = .ok (.value (.pointer (some ⟨w.heap.size, 0, none⟩))) (w.alloc (.cells (aX c).toArray 128)) := bS ho hx
theorem bn (ho : o.op = .alloc 128) : (execOp ρ o).run Tryz.prog w = .ok (.value (.pointer (some ⟨w.heap.size, 0, none⟩))) (w.alloc (.cells (aX bz).toArray 128)) := dn zeroS_info ho
theorem exec_alloc44 (ho : o.op = .alloc 138) : (execOp ρ o).run Tryz.prog w = .ok (.value (.pointer (some ⟨w.heap.size, 0, none⟩))) (w.alloc (.cells (vals z44).toArray 138)) := dn zero44_info ho
theorem cz {c d : Sup} (ho : o.op = .store 128 x y) (hx : ρ x = .pointer (some ⟨w.heap.size, 0, none⟩)) (hy : ρ y = sup c) : (execOp ρ o).run Tryz.prog (w.alloc (.cells (aX d).toArray 128)) = .ok .skip (w.alloc (.cells (aX c).toArray 128)) :=
  exec_filT (by rw [aM]; exact sizeS) (by rw [aM, aM]) (celS_one c) ho hx hy
theorem cG {c : Sup} (ho : o.op = .store 128 x y) (hx : ρ x = .pointer (some ⟨b, off, none⟩)) (hy : ρ y = sup c) (ht : w.there b off 23) : (execOp ρ o).run Tryz.prog w = .ok .skip (w.setCells b off (aX c)) :=
  exec_putT (by rw [aM]; exact sizeS) (celS_one c) ho hx hy (by rw [aM]; exact ht)
theorem run_bldS (w : World) : (Instr.build 128 #[]).run Tryz.prog w = .ok (sup bz) w := by kernel_rfl
theorem exec_bldS (ho : o.op = .build 128 #[]) : (execOp ρ o).run Tryz.prog w = .ok (.value (sup bz)) w := exec_bld0 ho (run_bldS w)
end
theorem celS_eq (x : Sup) : aX x = [.int .u64 x.id, .int .i64 x.self] ++ aC x.ros := rfl
section
variable {ρ : Operand → Value} {o : Oper} {x y : Operand} {w : World} {t : TypeId}
theorem guard44 : Tryz.prog.eqGuardType Tryz.prog.depth 138 = false := by kernel_rfl
theorem exec_ne44 {a b : List UInt8} (c : Bool) (ha : a.length = 44) (hb : b.length = 44) (ho : o.op = .binOp .neq 138 x y t) (hx : ρ x = arr a) (hy : ρ y = arr b) (h : decide (a = b) = c) : (execOp ρ o).run Tryz.prog w = .ok (.value (.bool (!c))) w := by
  subst h; exact exec_neT guard44 (run_eqArr Tryz.underlying138 w a b ha hb 9998) ho hx hy
end
def bP (w : World) (b : Nat) (x : Sup) : Prop := w.heap[b]? = some (.cells (aX x).toArray 128 (0, 0))
section
variable {w w' : World} {b : Nat} {x : Ros} {y : Sup}
theorem bP.range (h : bP w b y) : w.rangeAt b 0 (aX y) := aN h
theorem bP.rosr (h : bP w b y) : w.rangeAt b 2 (aC y.ros) := by
  have := dk (k := 2) (ds := [.int .u64 y.id, .int .i64 y.self]) (es := aC y.ros) (fs := []) h.range (by simp [celS_eq]) rfl
  rwa [Nat.zero_add] at this
theorem bP.cells (h : bP w b y) : w.cell? ⟨b, 0, none⟩ = some (.int .u64 y.id) ∧ w.cell? ⟨b, 1, none⟩ = some (.int .i64 y.self) ∧ w.cell? ⟨b, 2, none⟩ = some (.int .i64 y.ros.m) ∧ w.cell? ⟨b, 3, none⟩ = some (.int .i64 y.ros.s) ∧ w.cell? ⟨b, 4, none⟩ = some (.int .i64 y.ros.r) ∧ w.cell? ⟨b, 21, none⟩ = some (.int .i64 y.ros.cur) ∧ w.cell? ⟨b, 22, none⟩ = some (.bool y.ros.gone) := by
  have hr := dk (k := 19) (ds := celG y.ros ++ vals y.ros.st.toList) (es := [.int .i64 y.ros.cur, .bool y.ros.gone]) (fs := []) h.rosr (by simp [celR_eq]) (by simp [celG, aQ])
  exact ⟨h.range 0 _ rfl, h.range 1 _ rfl, h.range 2 _ rfl, h.range 3 _ rfl, h.range 4 _ rfl, hr 0 _ rfl, hr 1 _ rfl⟩
theorem bP.below {B : Nat} (h : bP w b y) (hB : b < B) (hb : Below B w w') : bP w' b y := blk_keep2 h hB hb
theorem bP.new (w : World) (y : Sup) : bP (w.alloc (.cells (aX y).toArray 128)) w.heap.size y := heap_alloc_new w _
theorem bP.past (h : bP w b y) (o : Obj) : bP (w.alloc o) b y := aW h o
end
set_option maxHeartbeats 1000000 in
theorem pgmay (x : Ros) (w : World) : Calls Tryz.prog 59 #[geo x] w fun e w' => e = .returned (.bool (geoB x)) ∧ Below w.heap.size w w' := by
  have h1 := dC (x := x)
  have h2 := geoB_not (x := x)
  generalize geoB x = g at *
  obtain ⟨m, s, r, st, cur, gone⟩ := x
  simp only at h1 h2
  have H1 := Lib.hid h1
  have H2 := Lib.hid h2
  clear h1 h2
  show Calls Tryz.prog 59 #[.agg #[.int .i64 m, .int .i64 s, .int .i64 r]] w _
  go_enter Tryz.func59, Tryz.ntmps59
  go_wp2
  all_goals
    go_ret
    refine ⟨aO ?_, (Below.refl _ _).alloc (Nat.le_refl _) _⟩
    first
      | (refine Eq.symm (H2.out.2 ?_); omega)
      | (rw [Bool.eq_iff_iff, H1.out, decide_eq_true_iff]; omega)
set_option maxHeartbeats 1000000 in
theorem rgmay (x : Ros) (w : World) : Calls Tryz.prog 58 #[geo x] w fun e w' => e = .returned (.bool (geoB x)) ∧ Below w.heap.size w w' := by
  have h1 := dC (x := x)
  have h2 := geoB_not (x := x)
  generalize geoB x = g at *
  obtain ⟨m, s, r, st, cur, gone⟩ := x
  simp only at h1 h2
  have H1 := Lib.hid h1
  have H2 := Lib.hid h2
  clear h1 h2
  show Calls Tryz.prog 58 #[.agg #[.int .i64 m, .int .i64 s, .int .i64 r]] w _
  go_enter Tryz.func58, Tryz.ntmps58
  go_wp2
  all_goals
    go_ret
    refine ⟨aO ?_, (Below.refl _ _).alloc (Nat.le_refl _) _⟩
    first
      | (refine Eq.symm (H2.out.2 ?_); omega)
      | (rw [Bool.eq_iff_iff, H1.out, decide_eq_true_iff]; omega)
theorem boxS_new (w : World) (x : Sup) : bP (w.alloc (.cells (aX x).toArray 128)) w.heap.size x ∧ Below w.heap.size w (w.alloc (.cells (aX x).toArray 128)) ∧ w.heap.size < (w.alloc (.cells (aX x).toArray 128)).heap.size :=
  ⟨bP.new w x, (Below.refl w.heap.size w).alloc (Nat.le_refl _) _, by simp only [World.size_alloc]; omega⟩
theorem pevent (n : Nat) (w : World) : Calls Tryz.prog 89 #[.int .u64 n] w fun e w' => e = .returned (.bool (evB n)) ∧ w = w' := by
  by_cases h : 1 ≤ n
  · go_enter Tryz.func89, Tryz.ntmps89
    go_wp2
    go_ret
    refine ⟨aO ?_, rfl⟩
    unfold evB
    rw [decide_eq_decide]
    omega
  · have h0 : n = 0 := by omega
    subst h0
    go_enter Tryz.func89, Tryz.ntmps89
    go_wp2
    go_ret
    exact ⟨rfl, rfl⟩
set_option maxHeartbeats 1000000 in
theorem pheal (x : Ros) (w : World) : Calls Tryz.prog 117 #[ros x] w fun e w' => e = .returned (.int .i64 (cm x : Nat)) ∧ Below w.heap.size w w' := by
  obtain ⟨h1, h2, h3⟩ := bU w x
  have HR := Lib.hid h1
  have HB := Lib.hid h2
  clear h1 h2 h3
  have HL := Lib.hid (stL_length x.st)
  have HH : Hid (cm x = healK x.st.toList 16) := Lib.hid rfl
  go_enter Tryz.func117, Tryz.ntmps117
  go_wp2_with (first | (refine af rfl (aH rfl rfl) ?_) | (refine af rfl (cx HL.out rfl rfl ?_) ?_; (with_reducible exact HR.out.sts)) | fail)
  generalize w.alloc (.cells (aC x).toArray 32) = w1 at *
  generalize x.st.toList = l at *
  go_loop [3, 8] (fun n i => ∃ j : Nat, j ≤ 16 ∧ i = .int .i64 j ∧ n = .int .i64 (healK l j : Nat)) (fun _ i => 16 - (intOf i).toNat)
  case atStart => exact ⟨0, Nat.zero_le _, rfl, rfl⟩
  case round =>
    obtain ⟨j, hj, rfl, rfl⟩ := hrel
    by_cases hlt : j < 16
    · have hs := Lib.hid (healK_succ l j)
      have hle := healK_le l j
      generalize healK l j = n at *
      by_cases h2 : bt l j = 2
      · rw [if_pos h2] at hs
        have hd : (bt l j == 2) = true := by rw [h2]; rfl
        clear h2
        go_wp2_with (first | (refine af rfl (cI (l := l) (j := j) HL.out hlt rfl rfl rfl) ?_) | fail)
        go_round
        case rel => exact ⟨j + 1, by omega, by go_num, by rw [hs.out]; go_num⟩
        case measure => simp [intOf]; omega
      · rw [if_neg h2] at hs
        have hd : (bt l j == 2) = false := by simpa using h2
        clear h2
        go_wp2_with (first | (refine af rfl (cI (l := l) (j := j) HL.out hlt rfl rfl rfl) ?_) | fail)
        go_round
        case rel => exact ⟨j + 1, by omega, by go_num, by rw [hs.out, Nat.add_zero]⟩
        case measure => simp [intOf]; omega
    · have e : j = 16 := by omega
      subst e
      go_wp2
      go_ret
      exact ⟨by rw [HH.out]; rfl, HB.out⟩
set_option maxHeartbeats 1000000 in
theorem pcur (x : Ros) (w : World) : Calls Tryz.prog 106 #[ros x] w fun e w' => e = .returned (.bool (curB x)) ∧ Below w.heap.size w w' := by
  obtain ⟨h1, h2, h3⟩ := bU w x
  have HR := Lib.hid h1
  have HB := Lib.hid h2
  have HZ := Lib.hid h3
  clear h1 h2 h3
  have HC : Hid (curB x = if cm x = 0 then decide (x.cur = 0) else decide (0 ≤ x.cur ∧ x.cur < x.s)) := Lib.hid rfl
  go_enter Tryz.func106, Tryz.ntmps106
  go_wp2_with (first | (refine af rfl (aH rfl rfl) ?_) | (refine af rfl (aP (c := x) rfl rfl ?_) ?_; (with_reducible exact HR.out.range)) | fail)
  generalize w.alloc (.cells (aC x).toArray 32) = w1 at *
  refine (pheal x w1).mono ?_
  rintro e w2 ⟨rfl, hb⟩
  obtain ⟨c0, c1, c2, c3, c4⟩ := (HR.out.below HZ.out hb).cells
  have HB2 := Lib.hid (HB.out.trans (hb.mono (Nat.le_of_lt HZ.out)))
  clear hb
  generalize x.cur = c at *
  generalize x.s = s at *
  by_cases h0 : cm x = 0
  · rw [if_pos h0] at HC
    rw [h0]
    go_wp2
    go_ret
    exact ⟨aO (by rw [HC.out, Bool.eq_iff_iff]; simp), HB2.out⟩
  · rw [if_neg h0] at HC
    have hd : ((cm x : Int) == 0) = false := by simp; omega
    by_cases hc : 0 ≤ c
    · go_wp2
      go_ret
      exact ⟨aO (by rw [HC.out, decide_eq_decide]; omega), HB2.out⟩
    · have hlt : c < 0 := by omega
      go_wp2
      go_ret
      exact ⟨aO (by rw [HC.out]; simp; omega), HB2.out⟩
set_option linter.unusedSimpArgs false
def memL (x : Ros) : List UInt8 := splice (List.replicate 16 0) 0 (x.st.toList.take x.m.toNat)
theorem memL_length {x : Ros} : (memL x).length = 16 := by
  unfold memL
  rw [length_splice _ _ _ (by simp; omega)]
  simp
theorem bt_memL {x : Ros} (h0 : 0 ≤ x.m) (h16 : x.m ≤ 16) {k : Nat} (hk : k < 16) : bt (memL x) k = if (k : Int) < x.m then sta x k else 0 := by
  unfold memL
  have hl : (x.st.toList.take x.m.toNat).length = x.m.toNat := by simp; omega
  rw [bt_splice (by rw [hl]; simp; omega), hl, bt_noughts]
  by_cases h : (k : Int) < x.m
  · rw [if_pos (by omega), if_pos h]
    unfold sta bt
    simp only [List.getD, Nat.sub_zero, List.getElem?_take_of_lt (show k < x.m.toNat by omega)]
  · rw [if_neg (by omega), if_neg h]
theorem memL_big {x : Ros} (h0 : 0 ≤ x.m) (h16 : x.m ≤ 16) {k : Nat} (hk : k < 16) (hb : 2 < bt (memL x) k) : staB x = false := by
  rw [Bool.eq_false_iff]
  intro h
  have := (of_staB h).1 k hk
  rw [bt_memL h0 h16 hk] at hb
  split at hb <;> omega
theorem memL_all {x : Ros} (h0 : 0 ≤ x.m) (h16 : x.m ≤ 16) (h : ∀ k, k < 16 → bt (memL x) k ≤ 2) : staB x = decide (memL x = x.st.toList) := by
  rw [Bool.eq_iff_iff, decide_eq_true_iff, staB_iff]
  constructor
  · rintro ⟨h1, h2⟩
    refine eq_of_bt (by rw [memL_length]; simp) fun k hk => ?_
    rw [memL_length] at hk
    rw [bt_memL h0 h16 hk]
    split
    · rfl
    · exact (h2 k hk (by omega)).symm
  · intro e
    have h3 : ∀ k, k < 16 → sta x k = bt (memL x) k := fun k hk => by rw [e]; rfl
    refine ⟨fun k hk => by rw [h3 k hk]; exact h k hk, fun k hk hm => ?_⟩
    rw [h3 k hk, bt_memL h0 h16 hk, if_neg (by omega)]
section
variable {ρ : Operand → Value} {o : Oper} {x z : Operand} {w : World} {g off : Nat}
theorem exec_all16 (ho : o.op = .slice 30 x none none none) (hx : ρ x = .pointer (some ⟨g, off, none⟩)) : (execOp ρ o).run Tryz.prog w = .ok (.value (.slice (some ⟨g, off, none⟩) 16 16)) w := by
  have h : (Instr.sliceAt 30 (.pointer (some ⟨g, off, none⟩)) none none none).run Tryz.prog w = .ok (.slice (some ⟨g, off, none⟩) 16 16) w := by
    simp [Instr.sliceAt, Instr.sliceBounds, Instr.sliceBound, Instr.sureAddr, asIntOf, run_underlying Tryz.underlying30, Tryz.sizeOf5, Addr.add_mid]
  unfold execOp
  simp only [ho, hx, Option.map_none, Sem.run_bind, h, Result.andThen_ok, Sem.run_pure]
theorem exec_first16 {m : Int} (h0 : 0 < m) (h16 : m ≤ 16) (ho : o.op = .slice 30 x none (some z) none) (hx : ρ x = .pointer (some ⟨g, off, none⟩)) (hz : ρ z = .int .i64 m) : (execOp ρ o).run Tryz.prog w = .ok (.value (.slice (some ⟨g, off, none⟩) m.toNat 16)) w := by
  obtain ⟨n, rfl⟩ := Int.eq_ofNat_of_zero_le (Int.le_of_lt h0)
  have h : (Instr.sliceAt 30 (.pointer (some ⟨g, off, none⟩)) none (some (.int .i64 (n : Int))) none).run Tryz.prog w = .ok (.slice (some ⟨g, off, none⟩) n 16) w := by
    have e1 : (0 ≤ (n : Int) ∧ (n : Int) ≤ 16) := by omega
    have e2 : n ≤ 16 := by omega
    simp [Instr.sliceAt, Instr.sliceBounds, Instr.sliceBound, Instr.sureAddr, asIntOf, run_underlying Tryz.underlying30, Tryz.sizeOf5, Addr.add_mid, e1, e2]
  unfold execOp
  simp only [ho, hx, hz, Option.map_none, Option.map_some, Sem.run_bind, h, Result.andThen_ok, Sem.run_pure, Int.toNat_natCast]
end
set_option maxHeartbeats 2000000 in
theorem pstates (x : Ros) (w : World) (h0 : 0 < x.m) (h16 : x.m ≤ 16) : Calls Tryz.prog 105 #[ros x] w fun e w' => e = .returned (.bool (staB x && decide (cm x ≤ 1))) ∧ Below w.heap.size w w' := by
  obtain ⟨h1, h2, h3⟩ := bU w x
  have HR := Lib.hid (h1.past (.cells (vals (List.replicate 16 0)).toArray 30))
  have HB := Lib.hid (h2.alloc h2.size (.cells (vals (List.replicate 16 0)).toArray 30))
  have HM : Hid (bH ((w.alloc (.cells (aC x).toArray 32)).alloc (.cells (vals (List.replicate 16 0)).toArray 30)) (w.heap.size + 1) 30 (List.replicate 16 0)) := by
    have := bH.new (w.alloc (.cells (aC x).toArray 32)) (List.replicate 16 0) 30
    rw [World.size_alloc] at this
    exact Lib.hid this
  clear h1 h2 h3
  have HML := Lib.hid (memL_length (x := x))
  have HSL := Lib.hid (stL_length x.st)
  have HBIG : Hid (∀ k, k < 16 → 2 < bt (memL x) k → staB x = false) := Lib.hid fun k hk hb => memL_big (by omega) h16 hk hb
  have HALL : Hid ((∀ k, k < 16 → bt (memL x) k ≤ 2) → staB x = decide (memL x = x.st.toList)) := Lib.hid fun h => memL_all (by omega) h16 h
  have HDEF : Hid (splice (List.replicate 16 0) 0 (x.st.toList.take x.m.toNat) = memL x) := Lib.hid rfl
  go_enter Tryz.func105, Tryz.ntmps105
  go_wp2_with (first | (refine af rfl (aH rfl rfl) ?_) | (refine af rfl (exec_alloc16 rfl) ?_) | fail)
  simp only [World.size_alloc]
  generalize (w.alloc (.cells (aC x).toArray 32)).alloc (.cells (vals (List.replicate 16 0)).toArray 30) = w1 at *
  have c0 := HR.out.cells.1
  have HRD := Lib.hid (HR.out.rd (m := x.m.toNat) (by omega))
  refine wp_region_still_tail 6 (by kernel_rfl) (by kernel_rfl) ?_
  simp only [List.take_succ_cons, List.take_zero, List.drop_succ_cons, List.drop_zero]
  refine aL rfl (exec_all16 rfl (ev rfl)) ?_
  simp only [Act.put, aa, ac, ae]
  refine aL rfl (al rfl (ev rfl) faR1) ?_
  simp only [Act.put, aa, ac, ae]
  refine aL rfl (al rfl (ev rfl) faR0) ?_
  simp only [Act.put, aa, ac, ae]
  refine aL rfl (al rfl (ev rfl) faG0) ?_
  simp only [Act.put, aa, ac, ae]
  refine aL rfl (au rfl (ev rfl) (bq c0)) ?_
  simp only [Act.put, aa, ac, ae]
  refine aL rfl (exec_first16 h0 h16 rfl (ev rfl) (ev rfl)) ?_
  simp only [Act.put, aa, ac, ae]
  refine wpStill_nil ?_
  change wpList _ _ _ _ _ (World.drew _)
  refine cN rfl _ _ rfl (w.heap.size + 1) 0 16 16 x.m.toNat 16 _ _ 30 (List.replicate 16 0) (x.st.toList.take x.m.toNat) (ev rfl) (ev rfl) HM.out.draw HRD.out (by omega) (by simp; omega) ?_
  intro w2 hr2 hg2
  rw [HDEF.out] at hr2
  have HR2 : Hid (a6 w2 w.heap.size x) := Lib.hid ((hg2.block w.heap.size (aF HR.out) (fun e => by injection e with e; omega)).trans HR.out)
  have HM2 := Lib.hid hr2
  have HM2R := Lib.hid (aN hr2)
  have HB2 : Hid (Below w.heap.size w w2) := Lib.hid ((bd HB.out).grown hg2 HB.out.size (fun k hk => by injection hk with e; omega))
  have HZ2 : Hid (w.heap.size < w2.heap.size) := Lib.hid (aF HR2.out)
  clear hr2 hg2 HR HM HB HRD c0
  simp only [Act.put, aa, ac, ae]
  refine wpList_nil ?_
  go_wp2_with (first | (refine af rfl (cx HML.out rfl rfl ?_) ?_; (with_reducible exact HM2R.out)) | fail)
  have HW2 := Lib.hid (show w2 = w2 from rfl)
  go_loop [14] (fun i => ∃ j : Nat, j ≤ 16 ∧ i = .int .i64 j ∧ ∀ k, k < j → bt (memL x) k ≤ 2) (fun i => 16 - (intOf i).toNat)
  case atStart => exact ⟨0, Nat.zero_le _, rfl, fun k hk => absurd hk (by omega)⟩
  case round =>
    obtain ⟨j, hj, rfl, hall⟩ := hrel
    have HA := Lib.hid hall
    clear hall
    by_cases hlt : j < 16
    · by_cases h2 : 2 < bt (memL x) j
      · have HF := Lib.hid (HBIG.out j hlt h2)
        go_wp2_with (first | (refine af rfl (cI (l := memL x) (j := j) HML.out hlt rfl rfl rfl) ?_) | fail)
        go_ret
        exact ⟨aO (by rw [HF.out]; rfl), HB2.out⟩
      · have h2' : bt (memL x) j ≤ 2 := by omega
        have HN : Hid (∀ k, k < j + 1 → bt (memL x) k ≤ 2) := Lib.hid fun k hk => by
          by_cases e : k = j
          · rw [e]; exact h2'
          · exact HA.out k (by omega)
        go_wp2_with (first | (refine af rfl (cI (l := memL x) (j := j) HML.out hlt rfl rfl rfl) ?_) | fail)
        go_round
        case rel => exact ⟨j + 1, by omega, by go_num, HN.out⟩
        case measure => simp [intOf]; omega
    · have e : j = 16 := by omega
      subst e
      have HE := Lib.hid (HALL.out HA.out)
      cases hs : staB x
      · rw [hs] at HE
        have HD : Hid (decide (memL x = x.st.toList) = false) := Lib.hid HE.out.symm
        have HS := Lib.hid hs
        clear hs HE
        go_wp2_with (first | (refine af rfl (cx HML.out rfl rfl ?_) ?_; (with_reducible exact HM2R.out)) | (refine af rfl (cx HSL.out rfl rfl ?_) ?_; (with_reducible exact HR2.out.sts)) | (refine af rfl (exec_eq16 false HML.out HSL.out rfl rfl rfl HD.out) ?_) | fail)
        go_ret
        exact ⟨aO (by rw [HS.out]; rfl), HB2.out⟩
      · rw [hs] at HE
        have HD : Hid (decide (memL x = x.st.toList) = true) := Lib.hid HE.out.symm
        have HS := Lib.hid hs
        clear hs HE
        go_wp2_with (first | (refine af rfl (cx HML.out rfl rfl ?_) ?_; (with_reducible exact HM2R.out)) | (refine af rfl (cx HSL.out rfl rfl ?_) ?_; (with_reducible exact HR2.out.sts)) | (refine af rfl (exec_eq16 true HML.out HSL.out rfl rfl rfl HD.out) ?_) | (refine ah (by rfl) (aP (c := x) rfl rfl ?_) ?_; (with_reducible exact HR2.out.range)) | fail)
        refine (pheal x w2).mono ?_
        rintro e w3 ⟨rfl, hb⟩
        have HB3 := Lib.hid (HB2.out.trans (hb.mono (Nat.le_of_lt HZ2.out)))
        clear hb
        go_wp2
        go_ret
        exact ⟨aO (by rw [HS.out, Bool.true_and, decide_eq_decide]; omega), HB3.out⟩
set_option maxHeartbeats 2000000 in
theorem proster (x : Ros) (w : World) : Calls Tryz.prog 96 #[ros x] w fun e w' => e = .returned (.bool (aG x)) ∧ Below w.heap.size w w' := by
  have HF := Lib.hid (fine_split x)
  obtain ⟨h1, h2, h3⟩ := bU w x
  have HR := Lib.hid h1
  have HB := Lib.hid h2
  have HZ := Lib.hid h3
  clear h1 h2 h3
  go_enter Tryz.func96, Tryz.ntmps96
  go_wp2_with (first | (refine af rfl (aH rfl rfl) ?_) | (refine af rfl (cM (c := x) rfl rfl ?_) ?_; (with_reducible exact HR.out.geo)) | fail)
  generalize w.alloc (.cells (aC x).toArray 32) = w1 at *
  refine (pgmay x w1).mono ?_
  rintro e w2 ⟨rfl, hb⟩
  have HR2 := Lib.hid (HR.out.below HZ.out hb)
  have HB2 := Lib.hid (HB.out.trans (hb.mono (Nat.le_of_lt HZ.out)))
  have HZ2 := Lib.hid (aF HR2.out)
  clear hb HR HB HZ
  cases hg : geoB x
  · rw [hg] at HF
    go_wp2_with fail
    go_ret
    exact ⟨aO (by rw [HF.out]; rfl), HB2.out⟩
  · rw [hg] at HF
    have hgg := dC.1 hg
    clear hg
    go_wp2_with (first | (refine ah (by rfl) (aP (c := x) rfl rfl ?_) ?_; (with_reducible exact HR2.out.range)) | fail)
    refine (pstates x w2 (by omega) (by omega)).mono ?_
    rintro e w3 ⟨rfl, hb⟩
    have HR3 := Lib.hid (HR2.out.below HZ2.out hb)
    have HB3 := Lib.hid (HB2.out.trans (hb.mono (Nat.le_of_lt HZ2.out)))
    have HZ3 := Lib.hid (aF HR3.out)
    clear hb HR2 HB2 HZ2 hgg
    generalize (staB x && decide (cm x ≤ 1)) = p at *
    cases p
    · go_wp2_with fail
      go_ret
      exact ⟨aO (by rw [HF.out]; rfl), HB3.out⟩
    · go_wp2_with (first | (refine ah (by rfl) (aP (c := x) rfl rfl ?_) ?_; (with_reducible exact HR3.out.range)) | fail)
      refine (pcur x w3).mono ?_
      rintro e w4 ⟨rfl, hb⟩
      have HB4 := Lib.hid (HB3.out.trans (hb.mono (Nat.le_of_lt HZ3.out)))
      clear hb
      generalize curB x = q at *
      go_wp2_with fail
      go_ret
      exact ⟨aO (by rw [HF.out]; rfl), HB4.out⟩
theorem sup_split (x : Sup) : supB x = (decide (x.id ≠ 0) && (aG x.ros && decide (0 ≤ x.self ∧ x.self < x.ros.m))) := by unfold supB; rw [Bool.and_assoc]
set_option maxHeartbeats 2000000 in
theorem psmay (x : Sup) (w : World) : Calls Tryz.prog 90 #[sup x] w fun e w' => e = .returned (.bool (supB x)) ∧ Below w.heap.size w w' := by
  have HF := Lib.hid (sup_split x)
  obtain ⟨h1, h2, h3⟩ := boxS_new w x
  have HR := Lib.hid h1
  have HB := Lib.hid h2
  have HZ := Lib.hid h3
  obtain ⟨c0, c1, c2, c3, c4, c5, c6⟩ := h1.cells
  clear h1 h2 h3
  go_enter Tryz.func90, Tryz.ntmps90
  by_cases hid : x.id = 0
  · rw [decide_eq_false (by simpa using hid)] at HF
    have hd : ((x.id : Int) != 0) = false := by rw [hid]; rfl
    go_wp2_with (first | (refine af rfl (exec_boxS rfl rfl) ?_) | fail)
    go_ret
    exact ⟨aO (by rw [HF.out]; rfl), HB.out⟩
  · rw [decide_eq_true (by simpa using hid)] at HF
    have hd : ((x.id : Int) != 0) = true := by simp; omega
    go_wp2_with (first | (refine af rfl (exec_boxS rfl rfl) ?_) | (refine ah (by rfl) (aP (c := x.ros) rfl rfl ?_) ?_; (with_reducible exact HR.out.rosr)) | fail)
    generalize w.alloc (.cells (aX x).toArray 128) = w1 at *
    clear c0 c1 c2 c3 c4 c5 c6
    refine (proster x.ros w1).mono ?_
    rintro e w2 ⟨rfl, hb⟩
    obtain ⟨c0, c1, c2, c3, c4, c5, c6⟩ := (HR.out.below HZ.out hb).cells
    have HB2 := Lib.hid (HB.out.trans (hb.mono (Nat.le_of_lt HZ.out)))
    clear hb HR HB HZ hd hid
    generalize aG x.ros = p at *
    generalize x.self = a at *
    generalize x.ros.m = m at *
    cases p
    · go_wp2_with fail
      go_ret
      exact ⟨aO (by rw [HF.out]; rfl), HB2.out⟩
    · by_cases ha : 0 ≤ a
      · go_wp2
        go_ret
        exact ⟨aO (by rw [HF.out]; simp [ha]), HB2.out⟩
      · have ha' : a < 0 := by omega
        go_wp2
        go_ret
        exact ⟨aO (by rw [HF.out]; simp; omega), HB2.out⟩
def unw (ops : Array Oper) : List Oper → Act → Bool
  | [], _ => true
  | r :: rs, a => !(Region.wanted r (yielded ops a.tmps)) && unw ops rs (a.put r.dst undef)
def bg : List Oper → Act → Act
  | [], a => a
  | r :: rs, a => bg rs (a.put r.dst undef)
section
variable {P : Program} {ops : Array Oper} {rest l : List Oper} {o : Oper} {a : Act} {w w' : World} {Q : Exit → Act → World → Prop} {v : Value}
theorem wpList_unw : ∀ (rs : List Oper) (a : Act), unw ops rs a = true → wpList P ops Q rest (bg rs a) w → wpList P ops Q (rs ++ rest) a w
  | [], _, _, h => h
  | r :: rs, a, hu, h => by
    simp only [unw, Bool.and_eq_true, Bool.not_eq_true'] at hu
    refine wpList_step fun K hK => ?_
    rw [if_neg (by rw [hu.1]; exact Bool.false_ne_true)]
    exact hK _ _ (wpList_unw rs _ hu.2 h)
theorem aU (n : Nat) (hw : Region.wanted o (yielded ops a.tmps) = true) (h : (execOp a.eval o).run P w = .ok (.value v) w') (hu : unw ops (l.take n) (a.put o.dst v) = true) (hr : wpList P ops Q (l.drop n) (bg (l.take n) (a.put o.dst v)) w') : wpList P ops Q (o :: l) a w :=
  ah hw h (by have := wpList_unw (P := P) (Q := Q) (l.take n) _ hu hr; rwa [List.take_append_drop] at this)
end
end Go.Proofs.YtheponmdbmloaaaGreatDoor
