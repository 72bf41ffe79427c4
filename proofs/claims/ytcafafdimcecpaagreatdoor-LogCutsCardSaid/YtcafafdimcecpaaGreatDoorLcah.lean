import Derived.Test.YtcafafdimcecpaaGreatDoorLcag
import Derived.OrdersHeld
import Derived.Test.YtcafafdimcecpaaGreatDoorLcab
import Derived.Test.YtcafafdimcecpaaGreatDoorLcaa
import Derived.Test.YtcafafdimcecpaaGreatDoorLcZ
namespace Go.Proofs.YtcafafdimcecpaaGreatDoor
open Go.RowKit
set_option linter.unusedVariables false
set_option maxRecDepth 100000
section
variable {ρ : Operand → Value} {o : Oper} {x y z u : Operand} {w : World} {t : TypeId} {p q a b c : Value}
theorem exec_cut3 (ho : o.op = .slice t x (some y) (some z) (some u)) (hx : ρ x = p) (hy : ρ y = a) (hz : ρ z = b) (hu : ρ u = c) (h : (Instr.sliceAt t p (some a) (some b) (some c)).run Tryz.prog w = .ok q w) : (execOp ρ o).run Tryz.prog w = .ok (.value q) w := by
  unfold execOp
  simp only [ho, hx, hy, hz, hu, Option.map_some, Sem.run_bind, h, Result.andThen_ok, Sem.run_pure]
end
section
variable (g : Nat) (w : World)
theorem cut_gen {i j k : Nat} (h1 : i ≤ j) (h2 : j ≤ k) (h3 : k ≤ 64) (h4 : i < k) : (Instr.sliceAt 65 (.pointer (some ⟨g, 0, none⟩)) (some (.int .i64 (i : Int))) (some (.int .i64 (j : Int))) (some (.int .i64 (k : Int)))).run Tryz.prog w = .ok (.slice (some ⟨g, i, none⟩) (j - i) (k - i)) w := by
  have e1 : (0 ≤ (k : Int) ∧ (k : Int) ≤ 64) := by omega
  have e2 : (0 ≤ (j : Int) ∧ (j : Int) ≤ (k : Int)) := by omega
  have e3 : (0 ≤ (i : Int) ∧ (i : Int) ≤ (j : Int)) := by omega
  have e4 : k ≠ i := by omega
  simp [Instr.sliceAt, Instr.sliceBounds, Instr.sliceBound, Instr.sureAddr, asIntOf, run_underlying undB, Tryz.sizeOf5, Addr.add_mid, e1, e2, e3, e4, h1, h2, h3]
theorem cut_a : (Instr.sliceAt 65 (.pointer (some ⟨g, 0, none⟩)) (some (.int .i64 0)) (some (.int .i64 8)) (some (.int .i64 8))).run Tryz.prog w = .ok (.slice (some ⟨g, 0, none⟩) 8 8) w := cut_gen g w (i := 0) (j := 8) (k := 8) (by omega) (by omega) (by omega) (by omega)
theorem cut_b : (Instr.sliceAt 65 (.pointer (some ⟨g, 0, none⟩)) (some (.int .i64 8)) (some (.int .i64 52)) (some (.int .i64 52))).run Tryz.prog w = .ok (.slice (some ⟨g, 8, none⟩) 44 44) w := cut_gen g w (i := 8) (j := 52) (k := 52) (by omega) (by omega) (by omega) (by omega)
theorem cut_c : (Instr.sliceAt 65 (.pointer (some ⟨g, 0, none⟩)) (some (.int .i64 52)) (some (.int .i64 56)) (some (.int .i64 56))).run Tryz.prog w = .ok (.slice (some ⟨g, 52, none⟩) 4 4) w := cut_gen g w (i := 52) (j := 56) (k := 56) (by omega) (by omega) (by omega) (by omega)
theorem cut_d : (Instr.sliceAt 65 (.pointer (some ⟨g, 0, none⟩)) (some (.int .i64 56)) (some (.int .i64 64)) (some (.int .i64 64))).run Tryz.prog w = .ok (.slice (some ⟨g, 56, none⟩) 8 8) w := cut_gen g w (i := 56) (j := 64) (k := 64) (by omega) (by omega) (by omega) (by omega)
theorem cut_e : (Instr.sliceAt 65 (.pointer (some ⟨g, 0, none⟩)) (some (.int .i64 0)) (some (.int .i64 52)) (some (.int .i64 52))).run Tryz.prog w = .ok (.slice (some ⟨g, 0, none⟩) 52 52) w := cut_gen g w (i := 0) (j := 52) (k := 52) (by omega) (by omega) (by omega) (by omega)
end
section
variable {ρ : Operand → Value} {o : Oper} {x y : Operand} {w : World} {t : TypeId} {old cs : Array Value}
theorem exec_fillD (hz : (Tryz.prog.info? t).map (·.size) = some cs.size) (he : old.size = cs.size) (h1 : cs.toList.all Value.oneCell' = true) (ho : o.op = .store t x y) (hx : ρ x = .pointer (some ⟨w.heap.size, 0, none⟩)) (hy : ρ y = .agg cs) :
    (execOp ρ o).run Tryz.prog (w.alloc (.cells old t)).drew = .ok .skip (w.alloc (.cells cs t)).drew := exec_fillT (w := w.drew) hz he h1 ho hx hy
end
theorem exec_bld5 {ρ : Operand → Value} {o : Oper} {w : World} {t : TypeId} {v : Value} {x0 x1 x2 x3 x4 : Operand} {y0 y1 y2 y3 y4 : Value} (ho : o.op = .build t #[(0, x0), (1, x1), (2, x2), (3, x3), (4, x4)]) (h0 : ρ x0 = y0) (h1 : ρ x1 = y1) (h2 : ρ x2 = y2) (h3 : ρ x3 = y3) (h4 : ρ x4 = y4)
    (h : (Instr.build t #[(0, y0), (1, y1), (2, y2), (3, y3), (4, y4)]).run Tryz.prog w = .ok v w) : (execOp ρ o).run Tryz.prog w = .ok (.value v) w := by
  subst h0 h1 h2 h3 h4
  unfold execOp
  simp only [ho, List.map_toArray, List.map_cons, List.map_nil, Sem.run_bind, h, Result.andThen_ok, Sem.run_pure]
theorem res_row {fn : Func} {p : Tmp} {t : TypeId} {cs : Array Value} {d : TypeDesc} (h0 : fn.results = #[.cell p t]) (tmps : Array Value) (w : World) (b : Nat) (hp : tmps.getD p undef = .pointer (some ⟨b, 0, none⟩)) (h : w.heap[b]? = some (.cells cs t (0, 0))) (hu : Tryz.prog.underlying t = some d) (hd : d.isRow = true) (hz : (Tryz.prog.info? t).map (·.size) = some cs.size) :
    (results fn tmps).run Tryz.prog w = .ok (.agg cs) w := by
  have hr : w.rangeAt b 0 cs.toList := fun j v hj => by
    rw [cell_of_row w b (0 + j) cs t (0, 0) h, Nat.zero_add]
    simpa using hj
  have hl : (loadVar t ⟨b, 0, none⟩).run Tryz.prog w = .ok (.agg cs) w := by
    have := run_loadVar_mid (P := Tryz.prog) w b 0 t cs.toList d hr hu hd (by simpa using hz)
    simpa using this
  have hp' : tmps[p]?.getD undef = .pointer (some ⟨b, 0, none⟩) := by simpa using hp
  simp [results, h0, hp', asAddr, hl]
theorem grown_of_below {w w' : World} {row : Option Nat} (hb : Below w.heap.size w w') : w.grownBy w' row := ⟨hb.os, hb.tape, hb.output, hb.size, fun k hk _ => hb.block k hk⟩
def eK (g : Nat) : Array Value := #[.slice (some ⟨g, 0, none⟩) 8 8, .slice (some ⟨g, 8, none⟩) 44 44, .slice (some ⟨g, 52, none⟩) 4 4, .slice (some ⟨g, 56, none⟩) 8 8, .slice (some ⟨g, 0, none⟩) 52 52]
theorem parts5 (g : Nat) (w : World) : (Instr.build 206 #[(0, .slice (some ⟨g, 0, none⟩) 8 8), (1, .slice (some ⟨g, 8, none⟩) 44 44), (2, .slice (some ⟨g, 52, none⟩) 4 4), (3, .slice (some ⟨g, 56, none⟩) 8 8), (4, .slice (some ⟨g, 0, none⟩) 52 52)]).run Tryz.prog w = .ok (.agg (eK g)) w := by kernel_rfl
set_option maxHeartbeats 1000000 in
theorem cut_any (g : Nat) (w : World) : Calls Tryz.prog 189 #[.pointer (some ⟨g, 0, none⟩)] w fun e w' => e = .returned (.agg #[.slice (some ⟨g, 0, none⟩) 8 8, .slice (some ⟨g, 8, none⟩) 44 44, .slice (some ⟨g, 52, none⟩) 4 4, .slice (some ⟨g, 56, none⟩) 8 8, .slice (some ⟨g, 0, none⟩) 52 52]) ∧ Below w.heap.size w w' := by
  go_enter Tryz.func189, Tryz.ntmps189
  go_wp2_with fail
  refine wp_region_still_tail 15 (by kernel_rfl) (by kernel_rfl) ?_
  simp only [List.take_succ_cons, List.take_zero, List.drop_succ_cons, List.drop_zero]
  refine aw rfl (ah rfl (ev rfl)) ?_
  simp only [Act.put, aa, ae, af]
  refine aw rfl (az rfl (ev rfl)) ?_
  simp only [Act.put, aa, ae, af]
  refine aw rfl (exec_cut3 rfl (ev rfl) evk evk evk (cut_a g _)) ?_
  simp only [Act.put, aa, ae, af]
  refine aw rfl (ah rfl (ev rfl)) ?_
  simp only [Act.put, aa, ae, af]
  refine aw rfl (az rfl (ev rfl)) ?_
  simp only [Act.put, aa, ae, af]
  refine aw rfl (exec_cut3 rfl (ev rfl) evk evk evk (cut_b g _)) ?_
  simp only [Act.put, aa, ae, af]
  refine aw rfl (ah rfl (ev rfl)) ?_
  simp only [Act.put, aa, ae, af]
  refine aw rfl (az rfl (ev rfl)) ?_
  simp only [Act.put, aa, ae, af]
  refine aw rfl (exec_cut3 rfl (ev rfl) evk evk evk (cut_c g _)) ?_
  simp only [Act.put, aa, ae, af]
  refine aw rfl (ah rfl (ev rfl)) ?_
  simp only [Act.put, aa, ae, af]
  refine aw rfl (az rfl (ev rfl)) ?_
  simp only [Act.put, aa, ae, af]
  refine aw rfl (exec_cut3 rfl (ev rfl) evk evk evk (cut_d g _)) ?_
  simp only [Act.put, aa, ae, af]
  refine aw rfl (ah rfl (ev rfl)) ?_
  simp only [Act.put, aa, ae, af]
  refine aw rfl (az rfl (ev rfl)) ?_
  simp only [Act.put, aa, ae, af]
  refine aw rfl (exec_cut3 rfl (ev rfl) evk evk evk (cut_e g _)) ?_
  simp only [Act.put, aa, ae, af]
  refine wpStill_nil ?_
  change wpList _ _ _ _ _ (World.drew _)
  refine ai rfl (exec_bld5 (v := .agg (eK g)) rfl (ev rfl) (ev rfl) (ev rfl) (ev rfl) (ev rfl) (parts5 g _)) ?_
  simp only [Act.put, aa, ae, af]
  refine aF rfl (exec_fillD (w := w) (cs := eK g) ?s1 ?s2 ?s3 rfl (ev rfl) (ev rfl)) ?_
  case s1 => kernel_rfl
  case s2 => rfl
  case s3 => rfl
  refine wpList_nil ?_
  go_wp2_with fail
  refine bodyPost_ret (res_row (cs := eK g) (t := 206) rfl _ _ w.heap.size rfl ?h1 Tryz.underlying206 rfl ?h2) rfl ⟨rfl, ?h3⟩
  case h1 => exact heap_alloc_new w.drew _
  case h2 => kernel_rfl
  case h3 => exact bd ((Below.refl _ w).alloc (Nat.le_refl _) _)
theorem dD {b : List UInt8} {n : Nat} (h : b.length = n) : piece b 0 n = b := by
  subst h
  simp [piece]
set_option maxHeartbeats 400000 in
theorem eW (A : Option Addr) (n c N : Nat) (b : List UInt8) (w : World) (hb : Rd w N A n b) (h1 : 1 ≤ n) (h2 : n ≤ 8) :
    Calls Tryz.prog 197 #[.slice A n c] w fun e w' => e = .returned (.int .u64 (val 8 b)) ∧ w = w' := by
  have hp := dD hb.1
  have HP := Lib.hid hp
  clear hp
  go_enter Tryz.func197, Tryz.ntmps197
  go_wp2_with fail
  refine (get_ok A n c N b 0 n _ hb (by unfold maxLen; omega) h1 h2 (by omega)).mono ?_
  rintro e w' ⟨rfl, rfl⟩
  rw [HP.out]
  go_wp2
  go_ret
  exact ⟨rfl, rfl⟩
set_option maxHeartbeats 400000 in
theorem lay_any (g off k n : Nat) (t : TypeId) (l : List UInt8) (w : World) (hs : bF w g t l) (h1 : 1 ≤ k) (h2 : k ≤ 8) (ho : off + k ≤ l.length) (hn : n < 256 ^ k) :
    Calls Tryz.prog 190 #[.slice (some ⟨g, off, none⟩) k k, .int .u64 n] w fun e w' => e = .returned (.tuple #[]) ∧ bF w' g t (splice l off (aY 8 k n)) ∧ w.grownBy w' (some g) := by
  have HS := Lib.hid hs
  have HL := Lib.hid (ay 8 k n)
  clear hs
  go_enter Tryz.func190, Tryz.ntmps190
  go_wp2_with fail
  refine (put_ok n k w h1 h2 hn).mono ?_
  rintro e w1 ⟨v, rfl, hv, hb⟩
  obtain ⟨A, c, rfl, hrd, _, _⟩ := hv.made.open_ HL.out
  have HR := Lib.hid hrd
  have HS1 := Lib.hid (HS.out.below HS.out.lt hb)
  have HB := Lib.hid hb
  clear hv hrd hb
  go_wp2_with (with_reducible refine cw rfl _ _ rfl g off k k k c _ A t l (aY 8 k n) rfl rfl HS1.out HR.out (Nat.le_refl _) ho ?_)
  intro w2 hr2 hg2
  have HR2 := Lib.hid hr2
  have HG2 := Lib.hid hg2
  clear hr2 hg2
  go_wp2
  go_end0
  exact ⟨rfl, HR2.out, (grown_of_below HB.out).trans HG2.out⟩
theorem bt_pad {b : List UInt8} {j : Nat} : bt (b9 b) j = if j < b.length then bt b j else 0 := by
  unfold b9
  split
  · rename_i h; exact bZ h
  · rename_i h; rw [cy (by omega), bt_noughts]
theorem bt_head {n : Nat} {b : List UInt8} {j : Nat} : bt (dE n b) j = if j < 8 then bt (aY 8 8 n) j else if j < 8 + b.length then bt b (j - 8) else 0 := by
  unfold dE
  split
  · rename_i h; exact bZ (by rw [ay]; exact h)
  · rename_i h
    rw [cy (by rw [ay]; omega), ay, bt_pad]
    by_cases h2 : j < 8 + b.length
    · rw [if_pos (by omega), if_pos h2]
    · rw [if_neg (by omega), if_neg h2]
theorem bt_seal {n : Nat} {b : List UInt8} {j : Nat} (hb : b.length ≤ 44) : bt (cZ n b) j = if j < 52 then bt (dE n b) j else if j < 56 then bt (aY 8 4 (more 0 (dE n b))) (j - 52) else bt (aY 8 8 n) (j - 56) := by
  have h52 := dQ n hb
  unfold cZ
  split
  · rename_i h; exact bZ (by omega)
  · rename_i h
    rw [cy (by omega), h52]
    split
    · rename_i h2; exact bZ (by rw [ay]; omega)
    · rename_i h2; rw [cy (by rw [ay]; omega), ay, show j - 52 - 4 = j - 56 from by omega]
def noSum (n : Nat) (b : List UInt8) : List UInt8 := splice (splice (splice al.toList 0 (aY 8 8 n)) 56 (aY 8 8 n)) 8 b
theorem noSum_1 (n : Nat) : (splice al.toList 0 (aY 8 8 n)).length = 64 := by rw [length_splice _ _ _ (by simp [ay])]; simp
theorem noSum_2 (n : Nat) : (splice (splice al.toList 0 (aY 8 8 n)) 56 (aY 8 8 n)).length = 64 := by rw [length_splice _ _ _ (by rw [noSum_1, ay]; omega), noSum_1]
section
variable {n : Nat} {b : List UInt8} (hb : b.length ≤ 44)
include hb
theorem fv : (noSum n b).length = 64 := by unfold noSum; rw [length_splice _ _ _ (by rw [noSum_2]; omega), noSum_2]
theorem bt_noSum {j : Nat} : bt (noSum n b) j = if 8 ≤ j ∧ j < 8 + b.length then bt b (j - 8) else if 56 ≤ j ∧ j < 64 then bt (aY 8 8 n) (j - 56) else if j < 8 then bt (aY 8 8 n) j else 0 := by
  unfold noSum
  have hz : bt al.toList j = 0 := by
    have : al.toList = List.replicate 64 0 := by decide
    rw [this, bt_noughts]
  rw [bt_splice (by rw [noSum_2]; omega), bt_splice (by rw [noSum_1, ay]; omega), bt_splice (by simp [ay]), ay, hz]
  congr 2
  by_cases h : j < 8
  · rw [if_pos (by omega), if_pos h, Nat.sub_zero]
  · rw [if_neg (by omega), if_neg h]
theorem noSum_head : piece (noSum n b) 0 52 = dE n b := by
  refine e9 (by rw [bz (by rw [fv hb]; omega), dQ n hb]) fun j hj => ?_
  rw [bz (by rw [fv hb]; omega)] at hj
  rw [ez hj, Nat.zero_add, bt_noSum hb, bt_head]
  by_cases h8 : j < 8
  · rw [if_neg (by omega), if_neg (by omega), if_pos h8, if_pos h8]
  · by_cases h2 : j < 8 + b.length
    · rw [if_pos (by omega), if_neg h8, if_pos h2]
    · rw [if_neg (by omega), if_neg (by omega), if_neg h8, if_neg h8, if_neg h2]
theorem noSum_seal : splice (noSum n b) 52 (aY 8 4 (more 0 (dE n b))) = cZ n b := by
  have h64 := fv (n := n) hb
  refine e9 (by rw [length_splice _ _ _ (by rw [h64, ay]; omega), h64, sealL_length n hb]) fun j hj => ?_
  rw [length_splice _ _ _ (by rw [h64, ay]; omega), h64] at hj
  rw [bt_splice (by rw [h64, ay]; omega), bt_seal hb, ay, bt_noSum hb, bt_head]
  by_cases h52 : j < 52
  · rw [if_neg (by omega), if_pos h52]
    by_cases h8 : j < 8
    · rw [if_neg (by omega), if_neg (by omega), if_pos h8, if_pos h8]
    · by_cases h2 : j < 8 + b.length
      · rw [if_pos (by omega), if_neg h8, if_pos h2]
      · rw [if_neg (by omega), if_neg (by omega), if_neg h8, if_neg h8, if_neg h2]
  · by_cases h56 : j < 56
    · rw [if_pos (by omega), if_neg h52, if_pos h56]
    · rw [if_neg (by omega), if_neg h52, if_neg h56, if_neg (by omega), if_pos (by omega)]
end
theorem cells5 {w : World} {b : Nat} {t : TypeId} {x y z u v : Value} (h : w.heap[b]? = some (.cells #[x, y, z, u, v] t (0, 0))) : w.cell? ⟨b, 0, none⟩ = some x ∧ w.cell? ⟨b, 1, none⟩ = some y ∧ w.cell? ⟨b, 2, none⟩ = some z ∧ w.cell? ⟨b, 3, none⟩ = some u ∧ w.cell? ⟨b, 4, none⟩ = some v := by
  refine ⟨?_, ?_, ?_, ?_, ?_⟩
  · rw [cell_of_row w b 0 _ t (0, 0) h]; rfl
  · rw [cell_of_row w b 1 _ t (0, 0) h]; rfl
  · rw [cell_of_row w b 2 _ t (0, 0) h]; rfl
  · rw [cell_of_row w b 3 _ t (0, 0) h]; rfl
  · rw [cell_of_row w b 4 _ t (0, 0) h]; rfl
def PartsAt (w : World) (p g : Nat) : Prop := w.heap[p]? = some (.cells (eK g) 206 (0, 0))
theorem PartsAt.cells {w : World} {p g : Nat} (h : PartsAt w p g) : w.cell? ⟨p, 0, none⟩ = some (.slice (some ⟨g, 0, none⟩) 8 8) ∧ w.cell? ⟨p, 1, none⟩ = some (.slice (some ⟨g, 8, none⟩) 44 44) ∧ w.cell? ⟨p, 2, none⟩ = some (.slice (some ⟨g, 52, none⟩) 4 4) ∧ w.cell? ⟨p, 3, none⟩ = some (.slice (some ⟨g, 56, none⟩) 8 8) ∧ w.cell? ⟨p, 4, none⟩ = some (.slice (some ⟨g, 0, none⟩) 52 52) := cells5 h
theorem PartsAt.grown {w w' : World} {p g k : Nat} (h : PartsAt w p g) (hk : p ≠ k) (hb : w.grownBy w' (some k)) : PartsAt w' p g := (hb.block p (aV h) (fun e => hk (by injection e))).trans h
theorem PartsAt.below {w w' : World} {p g B : Nat} (h : PartsAt w p g) (hB : p < B) (hb : Below B w w') : PartsAt w' p g := blk_keep2 h hB hb
structure PutW (B : Nat) (w w' : World) (r g p : Nat) (l : List UInt8) : Prop where
  res : bF w' r 65 al.toList
  row : bF w' g 65 l
  par : PartsAt w' p g
  bel : Below B w w'
  r0 : B ≤ r
  g0 : B ≤ g
  rg : r ≠ g
  pg : p ≠ g
theorem PutW.turn {B : Nat} {w w1 w2 : World} {r g p : Nat} {l l' : List UInt8} (h : PutW B w w1 r g p l) (hr : bF w2 g 65 l') (hg : w1.grownBy w2 (some g)) (hB : B ≤ w.heap.size) : PutW B w w2 r g p l' :=
  ⟨h.res.grown h.rg hg, hr, h.par.grown h.pg hg, h.bel.grown hg (Nat.le_trans hB h.bel.size) (fun k hk => by injection hk with e; have := h.g0; omega), h.r0, h.g0, h.rg, h.pg⟩
theorem PutW.draw {B : Nat} {w w1 : World} {r g p : Nat} {l : List UInt8} (h : PutW B w w1 r g p l) : PutW B w w1.drew r g p l := ⟨h.res, h.row, h.par, bd h.bel, h.r0, h.g0, h.rg, h.pg⟩
section
variable {ρ : Operand → Value} {o : Oper} {x y z : Operand} {w : World} {t : TypeId} {n : Nat} {a : Value} {ad : Addr} {A : Option Addr} {m c : Nat}
theorem exec_cv32 (ho : o.op = .convert 68 35 x) (hx : ρ x = .int .u32 (n : Int)) (hn : n < 4294967296) : (execOp ρ o).run Tryz.prog w = .ok (.value (.int .u64 (n : Int))) w := by
  have h : IntKind.u64.wrap (n : Int) = (n : Int) := IntWalk.u64_in _ ⟨by omega, by omega⟩
  have hc : (convert 68 35 (.int .u32 (n : Int))).run Tryz.prog w = .ok (.int .u64 (n : Int)) w := by simp [convert, go_sem, h]
  unfold execOp
  simp only [ho, hx, Sem.run_bind, hc, Result.andThen_ok, Sem.run_pure]
theorem ldS (h : w.cell? ad = some (.slice A m c)) : (Instr.loadAt 160 (.pointer (some ad))).run Tryz.prog w = .ok (.slice A m c) w := by simp [go_sem, h]
theorem faP2 {b : Nat} : (Instr.fieldAt 206 (.pointer (some ⟨b, 0, none⟩)) 2).run Tryz.prog w = .ok (.pointer (some ⟨b, 2, none⟩)) w := by kernel_rfl
theorem faP4 {b : Nat} : (Instr.fieldAt 206 (.pointer (some ⟨b, 0, none⟩)) 4).run Tryz.prog w = .ok (.pointer (some ⟨b, 4, none⟩)) w := by kernel_rfl
end
set_option maxHeartbeats 1000000 in
theorem put_arg (m c : Nat) (A : Option Addr) (b : List UInt8) (w : World) (hb : b.length = m) :
    Calls Tryz.prog 164 #[.int .u64 0, .slice A m c] w fun e w' => e = .returned (.tuple #[blk (putB 0 b), .int .i64 (putE 0 b : Nat)]) ∧ Below w.heap.size w w' := by
  have hA := (Below.refl w.heap.size w).alloc (Nat.le_refl _) (.cells (cel al).toArray 65)
  have HT := Lib.hid (db w al 65)
  have HA := Lib.hid hA
  clear hA
  rw [show putB 0 b = al from rfl, show putE 0 b = 2 from rfl]
  go_enter Tryz.func164, Tryz.ntmps164
  go_wp2_with (first | (refine ai rfl (aK rfl) ?_) | (refine ai rfl (bU (c := al) (parts := []) rfl rfl) ?_) | (refine aF rfl (aH rfl rfl rfl HT.out) ?_))
  refine bodyPost_ret (bN rfl _ _ _ rfl (World.rangeAt_setCells_same _ _ _ _ (by rw [ax]; exact HT.out))) rfl ⟨rfl, below_setCells HA.out (Nat.le_refl _) _⟩
set_option maxHeartbeats 1000000 in
theorem put_long (n m c : Nat) (A : Option Addr) (b : List UInt8) (w : World) (hb : b.length = m) (h0 : 0 < n) (hm : 44 < m) (hm2 : m ≤ maxLen) :
    Calls Tryz.prog 164 #[.int .u64 n, .slice A m c] w fun e w' => e = .returned (.tuple #[blk (putB n b), .int .i64 (putE n b : Nat)]) ∧ Below w.heap.size w w' := by
  have hA := (Below.refl w.heap.size w).alloc (Nat.le_refl _) (.cells (cel al).toArray 65)
  have HT := Lib.hid (db w al 65)
  have HA := Lib.hid hA
  have hE : putE n b = 3 := by unfold putE; rw [if_neg (by omega), if_pos (by omega)]
  have hB : putB n b = al := by unfold putB; rw [hE]; rfl
  rw [hE, hB]
  unfold maxLen at hm2
  clear hA hE hB hb
  have hz : ((n : Int) == 0) = false := by simp; omega
  go_enter Tryz.func164, Tryz.ntmps164
  go_wp2_with (first | (refine ai rfl (aK rfl) ?_) | (refine ai rfl (bU (c := al) (parts := []) rfl rfl) ?_) | (refine aF rfl (aH rfl rfl rfl HT.out) ?_))
  refine bodyPost_ret (bN rfl _ _ _ rfl (World.rangeAt_setCells_same _ _ _ _ (by rw [ax]; exact HT.out))) rfl ⟨rfl, below_setCells HA.out (Nat.le_refl _) _⟩
theorem d8 {a x : List UInt8} (h : a.length + x.length ≤ 44) : splice (b9 a) a.length x = b9 (a ++ x) := by
  unfold splice b9
  rw [List.take_append_of_le_length (Nat.le_refl _), List.take_length, List.drop_append]
  rw [List.drop_of_length_le (by omega), List.nil_append, List.drop_replicate, List.append_assoc, List.length_append]
  congr 3
  omega
def z44 : List UInt8 := List.replicate 44 0
theorem z44_length : z44.length = 44 := rfl
def aS (x : Nte) : List Value := [.int .u64 x.seq, .int .u64 x.pos, .int .i64 x.cells, .int .u32 x.sum]
def nte (x : Nte) : Value := .agg (aS x).toArray
theorem celNt_length (x : Nte) : (aS x).length = 4 := rfl
theorem celNt_one (x : Nte) : ∀ v ∈ aS x, v.oneCell' = true := by
  intro v hv
  simp only [aS, List.mem_cons, List.not_mem_nil, or_false] at hv
  rcases hv with rfl | rfl | rfl | rfl <;> rfl
theorem sizeNt : (Tryz.prog.info? 70).map (·.size) = some 4 := by kernel_rfl
theorem zeroNt_info : (Tryz.prog.info? 70).map (fun i => i.zero) = some (some (nte aG)) := by kernel_rfl
section
variable {ρ : Operand → Value} {o : Oper} {x y : Operand} {w : World} {b off : Nat}
theorem aZ {c : Nte} (ho : o.op = .load 70 x) (hx : ρ x = .pointer (some ⟨b, off, none⟩)) (hc : w.rangeAt b off (aS c)) : (execOp ρ o).run Tryz.prog w = .ok (.value (nte c)) w :=
  dy Tryz.underlying70 rfl sizeNt ho hx hc
theorem cI {c : Nte} (ho : o.op = .box 70 x) (hx : ρ x = nte c) : (execOp ρ o).run Tryz.prog w = .ok (.value (.pointer (some ⟨w.heap.size, 0, none⟩))) (w.alloc (.cells (aS c).toArray 70)) := exec_boxT ho hx
theorem ci (ho : o.op = .alloc 70) : (execOp ρ o).run Tryz.prog w = .ok (.value (.pointer (some ⟨w.heap.size, 0, none⟩))) (w.alloc (.cells (aS aG).toArray 70)) := df zeroNt_info ho
theorem dK {c d : Nte} (ho : o.op = .store 70 x y) (hx : ρ x = .pointer (some ⟨w.heap.size, 0, none⟩)) (hy : ρ y = nte c) : (execOp ρ o).run Tryz.prog (w.alloc (.cells (aS d).toArray 70)) = .ok .skip (w.alloc (.cells (aS c).toArray 70)) :=
  dP sizeNt rfl (celNt_one c) ho hx hy
theorem fI {c : Nte} (ho : o.op = .store 70 x y) (hx : ρ x = .pointer (some ⟨b, off, none⟩)) (hy : ρ y = nte c) (ht : w.there b off 4) : (execOp ρ o).run Tryz.prog w = .ok .skip (w.setCells b off (aS c)) :=
  exec_putT sizeNt (celNt_one c) ho hx hy ht
theorem run_bldNt (w : World) : (Instr.build 70 #[]).run Tryz.prog w = .ok (nte aG) w := by kernel_rfl
theorem exec_bldNt (ho : o.op = .build 70 #[]) : (execOp ρ o).run Tryz.prog w = .ok (.value (nte aG)) w := exec_bld0 ho (run_bldNt w)
end
def bT (w : World) (b : Nat) (x : Nte) : Prop := w.heap[b]? = some (.cells (aS x).toArray 70 (0, 0))
section
variable {w w' : World} {b : Nat} {x : Nte}
theorem bT.range (h : bT w b x) : w.rangeAt b 0 (aS x) := d7 h
theorem bT.cells (h : bT w b x) : w.cell? ⟨b, 0, none⟩ = some (.int .u64 x.seq) ∧ w.cell? ⟨b, 1, none⟩ = some (.int .u64 x.pos) ∧ w.cell? ⟨b, 2, none⟩ = some (.int .i64 x.cells) ∧ w.cell? ⟨b, 3, none⟩ = some (.int .u32 x.sum) :=
  ⟨h.range 0 _ rfl, h.range 1 _ rfl, h.range 2 _ rfl, h.range 3 _ rfl⟩
theorem bT.below {B : Nat} (h : bT w b x) (hB : b < B) (hb : Below B w w') : bT w' b x := blk_keep2 h hB hb
theorem bT.new (w : World) (x : Nte) : bT (w.alloc (.cells (aS x).toArray 70)) w.heap.size x := heap_alloc_new w _
theorem bT.past (h : bT w b x) (o : Obj) : bT (w.alloc o) b x := bM h o
theorem bT.there (h : bT w b x) : w.there b 0 4 := dI (o := 0) (n := 4) h (Nat.le_refl _)
theorem dr (w : World) (x : Nte) : bT (w.alloc (.cells (aS x).toArray 70)) w.heap.size x ∧ Below w.heap.size w (w.alloc (.cells (aS x).toArray 70)) ∧ w.heap.size < (w.alloc (.cells (aS x).toArray 70)).heap.size :=
  ⟨bT.new w x, (Below.refl _ w).alloc (Nat.le_refl _) _, by rw [World.size_alloc]; omega⟩
end
def aW : Elt Nte where
  s := 86
  t := 70
  n := 4
  by_ := 32
  cel := aS
  d := aG
  z := nte aG
  pos := by omega
  small := by omega
  len := celNt_length
  one := celNt_one
  und := Tryz.underlying86
  info := by kernel_rfl
  zc := by show (Value.cells (.agg _)).size = 4; simp [Value.cells, aS]
def Shp (M M' : BenS) : Prop := M'.ds.length = M.ds.length ∧ ∀ i, (M'.ds.getD i bp).S.length = (M.ds.getD i bp).S.length
theorem Shp.refl (M : BenS) : Shp M M := ⟨rfl, fun _ => rfl⟩
theorem Shp.trans {M M' M'' : BenS} (h : Shp M M') (k : Shp M' M'') : Shp M M'' := ⟨k.1.trans h.1, fun i => (k.2 i).trans (h.2 i)⟩
theorem Shp.put {M M' : BenS} {k : Nat} {d : DevS} (h : Shp M M') (hd : d.S.length = (M'.ds.getD k bp).S.length) : Shp M (M'.put k d) := by
  refine ⟨by show (M'.ds.set k d).length = _; rw [List.length_set]; exact h.1, fun i => ?_⟩
  show ((M'.ds.set k d).getD i bp).S.length = _
  by_cases e : i = k
  · subst e
    by_cases hl : i < M'.ds.length
    · rw [cE hl, hd]; exact h.2 i
    · rw [show M'.ds.set i d = M'.ds from List.set_eq_of_length_le (by omega)]; exact h.2 i
  · rw [bu e]; exact h.2 i
theorem dev_getD (M : BenS) (d : Int) : (M.dev d) = M.ds.getD d.toNat bp := rfl
theorem shp_wr (M : BenS) (d n : Int) (b : Blk) : Shp M (wrS6 M d n b) := by
  unfold wrS6
  split
  · split
    · exact Shp.refl M
    · exact Shp.put (M' := M.done) (Shp.refl M) rfl
  · exact Shp.refl M
theorem shp_fl (M : BenS) (d : Int) : Shp M (flS6 M d) := by
  unfold flS6
  split
  · split
    · exact Shp.refl M
    · exact Shp.put (M' := M.done) (Shp.refl M) (fu _ _)
  · exact Shp.refl M
theorem shp_stp (d : Int) (M : BenS) (s : Stp) : Shp M (stpS d M s) := by
  cases s with
  | wr n b => exact shp_wr M d n b
  | fl => exact shp_fl M d
theorem shp_go (d : Int) (l : List Stp) : ∀ M, Shp M (goB d M l) := by
  induction l with
  | nil => intro M; exact Shp.refl M
  | cons s l ih =>
    intro M
    by_cases h : stpE d M s = 0
    · rw [(go_ok h).2]; exact (shp_stp d M s).trans (ih _)
    · rw [(go_no h).2]; exact shp_stp d M s
theorem rd_same {M : BenS} {k : Nat} {m n : Int} (hm : 0 ≤ m ∧ m < (M.ds.getD k bp).S.length) (hn : 0 ≤ n ∧ n < (M.ds.getD k bp).S.length) : bX M (k : Int) m = bX M (k : Int) n := by
  unfold bX
  rw [BenS.dev_nat]
  unfold ce
  rw [if_pos hm, if_pos hn]
structure LgOk (M : BenS) (x : LgS) (N : Nat) : Prop where
  dev : x.d < M.ds.length
  len : 10 + x.size ≤ (M.ds.getD x.d bp).S.length
  siz : 40 ≤ x.size ∧ x.size ≤ 256
  own : x.own < 18446744073709551616
  use : x.used ≤ x.size
  eig : x.nts.length ≤ 8
  lim : N ≤ 1000000
  cnt : x.cnt ≤ 2305843009213693952 + N
  nxt : x.next ≤ 2305843009213693960 + N
  hed : x.head ≤ 2305843009213694208 + 40 * N
  nts : ∀ i, i < x.nts.length → 1 ≤ (x.nts.getD i aG).cells ∧ (x.nts.getD i aG).cells ≤ 32 ∧ (x.nts.getD i aG).pos = x.pos + usd (x.nts.take i) ∧ (x.nts.getD i aG).fit
section
variable {M M' : BenS} {x : LgS} {N N' : Nat} {cs : List Cl} {f : Nat} {n : Nte}
theorem LgOk.shp (h : LgOk M x N) (k : Shp M M') : LgOk M' x N := ⟨by rw [k.1]; exact h.dev, by rw [k.2]; exact h.len, h.siz, h.own, h.use, h.eig, h.lim, h.cnt, h.nxt, h.hed, h.nts⟩
theorem LgOk.with_ (h : LgOk M x N) (h8 : x.nts.length < 8) (hc : 1 ≤ n.cells ∧ n.cells ≤ 32) (hp : n.pos = x.head) (hf : n.fit) (ht : bf n ≤ x.free) (hN : N' ≤ 1000000) (h1 : x.next + 1 ≤ 2305843009213693960 + N') (h2 : x.head + bf n ≤ 2305843009213694208 + 40 * N') (h3 : x.cnt ≤ 2305843009213693952 + N') : LgOk M (x.with_ n) N' := by
  have hu := h.use
  have hfr : x.free = x.size - x.used := rfl
  refine ⟨h.dev, h.len, h.siz, h.own, by rw [with_used]; show _ ≤ x.size; omega, by show (x.nts ++ [n]).length ≤ 8; rw [List.length_append, List.length_singleton]; omega, hN, h3, by rw [eq]; exact h1, by rw [with_head]; exact h2, fun i hi => ?_⟩
  have hi' : i < x.nts.length + 1 := by have : i < (x.nts ++ [n]).length := hi; rwa [List.length_append, List.length_singleton] at this
  show 1 ≤ ((x.nts ++ [n]).getD i aG).cells ∧ ((x.nts ++ [n]).getD i aG).cells ≤ 32 ∧ ((x.nts ++ [n]).getD i aG).pos = x.pos + usd ((x.nts ++ [n]).take i) ∧ ((x.nts ++ [n]).getD i aG).fit
  by_cases e : i = x.nts.length
  · subst e
    have e1 : (x.nts ++ [n]).getD x.nts.length aG = n := by simp [List.getD]
    rw [e1, List.take_append_of_le_length (Nat.le_refl _), List.take_length]
    exact ⟨hc.1, hc.2, hp, hf⟩
  · have hlt : i < x.nts.length := by omega
    have e1 : (x.nts ++ [n]).getD i aG = x.nts.getD i aG := by simp [List.getD, List.getElem?_append_left hlt]
    rw [e1, List.take_append_of_le_length (by omega)]
    exact h.nts i hlt
theorem LgOk.app (h : LgOk M x N) (hq : appQ x cs = 0) (hN : N + 1 ≤ 1000000) : LgOk M (x.with_ (cD x cs)) (N + 1) := by
  have hq' : recE cs = 0 ∧ x.nts.length < 8 ∧ (bE cs).length ≤ x.free := by
    unfold appQ at hq
    by_cases h1 : recE cs = 0
    · rw [if_neg (by omega)] at hq
      by_cases h2 : 8 ≤ x.nts.length ∨ x.free < (bE cs).length
      · rw [if_pos h2] at hq; cases hq
      · exact ⟨h1, by omega, by omega⟩
    · rw [if_pos h1] at hq; omega
  obtain ⟨q1, q2, q3⟩ := hq'
  obtain ⟨r1, r2, _⟩ := of_recE q1
  have ht : bf (cD x cs) = (bE cs).length := by unfold bf cD; rw [bL]; simp
  have hl := bL cs
  have hh : hd cs.length ≤ 2 := by unfold hd; omega
  have hx := h.nxt
  have hd := h.hed
  have hc := h.cnt
  have hs := sumB_lt (bE cs)
  exact h.with_ q2 ⟨by show (1 : Int) ≤ (cs.length : Int); omega, by show (cs.length : Int) ≤ 32; omega⟩ rfl ⟨by show x.next < _; omega, by show x.head < _; omega, hs⟩ (by rw [ht]; exact q3) hN (by omega) (by rw [ht]; omega) (by omega)
theorem LgOk.cut (h : LgOk M x N) (hq : clrQ x f = true) (hN : N + 1 ≤ 1000000) : LgOk M (x.cut f) (N + 1) := by
  obtain ⟨f1, f2⟩ := of_clrQ hq
  have hx := h.nxt
  have hd := h.hed
  have hc := h.cnt
  have he := h.eig
  have husd : ∀ g i, usd (x.nts.take (g + i)) = usd (x.nts.take g) + usd ((x.nts.drop g).take i) := fun g i => by rw [List.take_add, fG]
  refine ⟨h.dev, h.len, h.siz, h.own, Nat.le_trans (cut_used hq) h.use, by show (x.nts.drop _).length ≤ 8; rw [List.length_drop]; omega, hN, by show x.cnt + 1 ≤ _; omega, by rw [fe hq]; omega, by rw [cut_head hq]; omega, fun i hi => ?_⟩
  have hi' : i < (x.nts.drop (f - x.fst)).length := hi
  rw [List.length_drop] at hi'
  obtain ⟨n1, n2, n3, n4⟩ := h.nts (f - x.fst + i) (by omega)
  have e1 : (x.nts.drop (f - x.fst)).getD i aG = x.nts.getD (f - x.fst + i) aG := by simp [List.getD, List.getElem?_drop]
  show 1 ≤ ((x.nts.drop (f - x.fst)).getD i aG).cells ∧ ((x.nts.drop (f - x.fst)).getD i aG).cells ≤ 32 ∧ ((x.nts.drop (f - x.fst)).getD i aG).pos = x.at_ f + usd ((x.nts.drop (f - x.fst)).take i) ∧ ((x.nts.drop (f - x.fst)).getD i aG).fit
  rw [e1]
  refine ⟨n1, n2, ?_, n4⟩
  rw [n3, husd]
  unfold LgS.at_
  omega
theorem LgOk.end_ (h : LgOk M x N) {i : Nat} (hi : i < x.nts.length) : usd (x.nts.take i) + bf (x.nts.getD i aG) ≤ x.used := by
  have h1 := fL hi
  have h2 := fw x.nts (i + 1)
  unfold LgS.used
  omega
end
theorem lay_ok {M : BenS} {d : Int} {id : Nat} {r : Int} (hid : id < 18446744073709551616) (h : layQ M d id r = true) : LgOk M (layX d id r) 0 := by
  obtain ⟨h1, h2, h3, h4, h5⟩ : dx M d = 0 ∧ id ≠ 0 ∧ 40 ≤ r ∧ r ≤ 256 ∧ 10 + r ≤ ca M d := of_decide_eq_true h
  unfold ca at h5
  rw [if_pos h1, dev_getD] at h5
  rcases dF M d with ⟨e, _⟩ | ⟨_, k, rfl, hk⟩
  · omega
  · rw [Int.toNat_natCast] at h5
    refine ⟨by show (k : Int).toNat < _; rw [Int.toNat_natCast]; exact hk, by show 10 + r.toNat ≤ (M.ds.getD (k : Int).toNat bp).S.length; rw [Int.toNat_natCast]; omega, by show 40 ≤ r.toNat ∧ r.toNat ≤ 256; omega, hid, Nat.zero_le _, Nat.zero_le _, by omega, by show 1 ≤ _; omega, by show 1 + 0 ≤ _; omega, by show 0 + 0 ≤ _; omega, fun i hi => absurd hi (by show ¬ i < 0; omega)⟩
theorem opn_base {M : BenS} {d : Int} (h : opnE M d = 0) : opnQ M d = true ∧ bX M d 0 = 0 ∧ opnF M d = true := by
  unfold opnE at h
  by_cases h1 : opnQ M d = true
  · rw [if_pos h1] at h
    by_cases h2 : bX M d 0 = 0
    · rw [if_pos h2] at h
      by_cases h3 : opnF M d = true
      · exact ⟨h1, h2, h3⟩
      · rw [if_neg h3] at h; cases h
    · rw [if_neg h2] at h; exact absurd h h2
  · rw [if_neg h1] at h; cases h
theorem opn_ok0 {M : BenS} {d : Int} (h : opnE M d = 0) : LgOk M (opnX M d) 0 := by
  obtain ⟨h1, h2, h3⟩ := opn_base h
  obtain ⟨a1, a2⟩ : dx M d = 0 ∧ 50 ≤ ca M d := of_decide_eq_true h1
  obtain ⟨b1, b2, b3, b4, b5⟩ : aR.nE (cC M d 0) (cC M d 1) = 0 ∧ (dp M d).m.ring ≤ ca M d - 10 ∧ (dp M d).n ≤ 2305843009213693952 ∧ (dp M d).m.first ≤ 2305843009213693952 ∧ (dp M d).m.pos ≤ 2305843009213693952 := of_decide_eq_true h3
  have hm : aR.may (dp M d) = true ∧ aR.fits (dp M d) := by
    unfold dp Cod.nX
    unfold Cod.nE at b1
    split
    · rename_i hlt
      have : aR.gE (cC M d 1) = 0 := by
        by_cases e : aR.gE (cC M d 1) = 0
        · exact e
        · have := aR.gN_no e; omega
      exact ⟨aR.gX_may this, aR.gX_fits _⟩
    · rename_i hlt
      have : aR.gE (cC M d 0) = 0 := by
        by_cases e : aR.gE (cC M d 0) = 0
        · exact e
        · have h0 := aR.gN_no e
          rw [if_pos ⟨h0, by omega⟩] at b1
          omega
      exact ⟨aR.gX_may this, aR.gX_fits _⟩
  obtain ⟨m1, m2⟩ := hm
  obtain ⟨⟨n, m⟩, hy⟩ : ∃ y, dp M d = y := ⟨_, rfl⟩
  rw [hy] at m1 m2 b2 b3 b4 b5
  rw [eB, Bool.and_eq_true] at m1
  obtain ⟨_, r1, r2, _, _, _⟩ := of_mrkB m1.2
  simp only at b2 b3 b4 b5 r1 r2
  unfold ca at a2 b2
  rw [if_pos a1, dev_getD] at a2 b2
  have hX : opnX M d = ⟨d.toNat, m.id, m.ring.toNat, n, m.first, m.pos, []⟩ := by unfold opnX; rw [hy]
  rw [hX]
  rcases dF M d with ⟨e, _⟩ | ⟨_, k, rfl, hk⟩
  · omega
  · rw [Int.toNat_natCast] at *
    exact ⟨hk, by show 10 + m.ring.toNat ≤ (M.ds.getD k bp).S.length; omega, by show 40 ≤ m.ring.toNat ∧ m.ring.toNat ≤ 256; omega, m2.2.1, Nat.zero_le _, Nat.zero_le _, by omega, by show n ≤ _; omega, by show m.first + 0 ≤ _; omega, by show m.pos + 0 ≤ _; omega, fun i hi => absurd hi (by show ¬ i < 0; omega)⟩
set_option linter.unusedSimpArgs false
def celP (s m : Int) : List Value := [.int .i64 s, .int .i64 m]
def plV (s m : Int) : Value := .agg (celP s m).toArray
def cp (c : Cl) : List Value := .int .i64 c.s :: .int .i64 c.m :: cel c.b
def clV (c : Cl) : Value := .agg (cp c).toArray
theorem dJ (c : Cl) : (cp c).length = 66 := by simp [cp, ax]
theorem celC_one (c : Cl) : ∀ v ∈ cp c, v.oneCell' = true := by
  intro v hv
  simp only [cp, List.mem_cons] at hv
  rcases hv with rfl | rfl | hv
  · rfl
  · rfl
  · exact cel_one c.b v hv
theorem celP_one (s m : Int) : ∀ v ∈ celP s m, v.oneCell' = true := by
  intro v hv
  simp only [celP, List.mem_cons, List.not_mem_nil, or_false] at hv
  rcases hv with rfl | rfl <;> rfl
theorem sizeC : (Tryz.prog.info? 104).map (·.size) = some 66 := by kernel_rfl
theorem sizeP : (Tryz.prog.info? 102).map (·.size) = some 2 := by kernel_rfl
theorem infoC : (Tryz.prog.info? 104).map (fun i => (i.zero, i.size, i.bytes)) = some (some (clV cf), 66, 80) := by kernel_rfl
theorem zeroC_info : (Tryz.prog.info? 104).map (fun i => i.zero) = some (some (.agg (cp cf).toArray)) := by kernel_rfl
theorem zeroP_info : (Tryz.prog.info? 102).map (fun i => i.zero) = some (some (.agg (celP 0 0).toArray)) := by kernel_rfl
def bn : Elt Cl where
  s := 34
  t := 104
  n := 66
  by_ := 80
  cel := cp
  d := cf
  z := clV cf
  pos := by omega
  small := by omega
  len := dJ
  one := celC_one
  und := Tryz.underlying34
  info := infoC
  zc := by show (Value.cells (.agg _)).size = 66; simp [Value.cells, dJ]
theorem RdE.cl {w : World} {B n k : Nat} {A : Option Addr} {l : List Cl} (h : RdE bn w B A n l) (hk : k < n) : ∃ b off, A = some ⟨b, off, none⟩ ∧ b < B ∧ w.rangeAt b (off + k * 66) (cp (l.getD k cf)) := h.2 k hk
section
variable {w : World} {b off : Nat} {c : Cl}
theorem cl_place (h : w.rangeAt b off (cp c)) : w.rangeAt b off (celP c.s c.m) := by
  have := rng_sub (ds := []) (es := celP c.s c.m) (fs := cel c.b) (k := 0) h rfl rfl
  rwa [Nat.add_zero] at this
theorem cl_blk (h : w.rangeAt b off (cp c)) : w.rangeAt b (off + 2) (cel c.b) := rng_sub (ds := celP c.s c.m) (es := cel c.b) (fs := []) (k := 2) h (by simp [cp, celP]) rfl
theorem pl_cells {s m : Int} (h : w.rangeAt b off (celP s m)) : w.cell? ⟨b, off, none⟩ = some (.int .i64 s) ∧ w.cell? ⟨b, off + 1, none⟩ = some (.int .i64 m) := by
  have h0 := h 0 _ rfl
  rw [Nat.add_zero] at h0
  exact ⟨h0, h 1 _ rfl⟩
end
section
variable {ρ : Operand → Value} {o : Oper} {x y : Operand} {w : World} {b off : Nat} {c d : Cl} {s m s' m' : Int} {t : TypeId}
theorem eH (ho : o.op = .load 104 x) (hx : ρ x = .pointer (some ⟨b, off, none⟩)) (hc : w.rangeAt b off (cp c)) : (execOp ρ o).run Tryz.prog w = .ok (.value (clV c)) w :=
  dy Tryz.underlying104 rfl (by rw [dJ]; exact sizeC) ho hx hc
theorem fd (ho : o.op = .load 102 x) (hx : ρ x = .pointer (some ⟨b, off, none⟩)) (hc : w.rangeAt b off (celP s m)) : (execOp ρ o).run Tryz.prog w = .ok (.value (plV s m)) w :=
  dy Tryz.underlying102 rfl sizeP ho hx hc
theorem exec_boxC (ho : o.op = .box 104 x) (hx : ρ x = clV c) : (execOp ρ o).run Tryz.prog w = .ok (.value (.pointer (some ⟨w.heap.size, 0, none⟩))) (w.alloc (.cells (cp c).toArray 104)) := exec_boxT ho hx
theorem exec_allocC (ho : o.op = .alloc 104) : (execOp ρ o).run Tryz.prog w = .ok (.value (.pointer (some ⟨w.heap.size, 0, none⟩))) (w.alloc (.cells (cp cf).toArray 104)) := df zeroC_info ho
theorem ew (ho : o.op = .alloc 102) : (execOp ρ o).run Tryz.prog w = .ok (.value (.pointer (some ⟨w.heap.size, 0, none⟩))) (w.alloc (.cells (celP 0 0).toArray 102)) := df zeroP_info ho
theorem exec_fillC (ho : o.op = .store 104 x y) (hx : ρ x = .pointer (some ⟨w.heap.size, 0, none⟩)) (hy : ρ y = clV c) : (execOp ρ o).run Tryz.prog (w.alloc (.cells (cp d).toArray 104)) = .ok .skip (w.alloc (.cells (cp c).toArray 104)) :=
  dP (by rw [dJ]; exact sizeC) (by rw [dJ, dJ]) (celC_one c) ho hx hy
theorem eZ (ho : o.op = .store 102 x y) (hx : ρ x = .pointer (some ⟨w.heap.size, 0, none⟩)) (hy : ρ y = plV s m) : (execOp ρ o).run Tryz.prog (w.alloc (.cells (celP s' m').toArray 102)) = .ok .skip (w.alloc (.cells (celP s m).toArray 102)) :=
  dP sizeP rfl (celP_one s m) ho hx hy
theorem faC0 : (Instr.fieldAt 104 (.pointer (some ⟨b, off, none⟩)) 0).run Tryz.prog w = .ok (.pointer (some ⟨b, off, none⟩)) w := by kernel_rfl
theorem faC1 : (Instr.fieldAt 104 (.pointer (some ⟨b, off, none⟩)) 1).run Tryz.prog w = .ok (.pointer (some ⟨b, off + 2, none⟩)) w := by kernel_rfl
theorem faPl0 : (Instr.fieldAt 102 (.pointer (some ⟨b, off, none⟩)) 0).run Tryz.prog w = .ok (.pointer (some ⟨b, off, none⟩)) w := by kernel_rfl
theorem faPl1 : (Instr.fieldAt 102 (.pointer (some ⟨b, off, none⟩)) 1).run Tryz.prog w = .ok (.pointer (some ⟨b, off + 1, none⟩)) w := by kernel_rfl
end
theorem run_eqP (w : World) (s m s' m' : Int) (d : Nat) : (Op.equalIn (d + 2) 102 (plV s m) (plV s' m')).run Tryz.prog w = .ok (decide (s = s' ∧ m = m')) w := by
  have he : ∀ x y : Int, (Op.equalIn (d + 1) 3 (.int .i64 x) (.int .i64 y)).run Tryz.prog w = .ok (x == y) w := fun x y => run_equalIn_int w d 3 .i64 .i64 x y Tryz.underlying3
  unfold plV
  rw [show d + 2 = (d + 1) + 1 from rfl, run_equalIn_struct w (d + 1) 102 _ _ (by kernel_rfl) (by kernel_rfl)]
  simp only [Program.fieldsOf, Tryz.underlying102, Op.eqFields, celP]
  simp [part, he]
  by_cases h1 : s = s' <;> by_cases h2 : m = m' <;> simp [h1, h2]
theorem partC_0 (w : World) (c : Cl) : (part 102 (cp c).toArray 0).run Tryz.prog w = .ok (plV c.s c.m) w := by
  simp [part, plV, cp, celP]
theorem partC_1 (w : World) (c : Cl) : (part 65 (cp c).toArray 2).run Tryz.prog w = .ok (blk c.b) w := by
  have h : ((cp c).drop 2).take 64 = cel c.b := List.take_of_length_le (by simp [cp, ax])
  simp [part, blk, h]
theorem cl_ext {a b : Cl} (h1 : a.s = b.s ∧ a.m = b.m) (h2 : a.b = b.b) : a = b := by
  obtain ⟨s, m, x⟩ := a
  obtain ⟨s', m', x'⟩ := b
  obtain ⟨rfl, rfl⟩ := h1
  obtain rfl := h2
  rfl
theorem run_eqC (w : World) (a b : Cl) (d : Nat) : (Op.equalIn (d + 3) 104 (clV a) (clV b)).run Tryz.prog w = .ok (decide (a = b)) w := by
  have hb := run_eqB w a.b b.b d
  have hp := run_eqP w a.s a.m b.s b.m d
  unfold clV
  rw [show d + 3 = (d + 2) + 1 from rfl, run_equalIn_struct w (d + 2) 104 _ _ (by kernel_rfl) (by kernel_rfl)]
  simp only [Program.fieldsOf, Tryz.underlying104]
  rw [eqF_step ?_ (partC_0 w a) (partC_0 w b) hp]
  rotate_left
  · simp
  rw [eqF_step ?_ (partC_1 w a) (partC_1 w b) hb]
  rotate_left
  · simp
  rw [eqF_nil]
  clear hb hp
  by_cases k1 : a.s = b.s ∧ a.m = b.m
  · by_cases k2 : a.b = b.b
    · rw [decide_eq_true k1, decide_eq_true k2, decide_eq_true (cl_ext k1 k2)]
      simp
    · rw [decide_eq_true k1, decide_eq_false k2, decide_eq_false (fun e : a = b => k2 (by rw [e]))]
      simp
  · rw [decide_eq_false k1, decide_eq_false (fun e : a = b => k1 (by rw [e]; exact ⟨rfl, rfl⟩))]
    simp
theorem guardC : Tryz.prog.eqGuardType Tryz.prog.depth 104 = false := by kernel_rfl
section
variable {ρ : Operand → Value} {o : Oper} {x y : Operand} {w : World} {t : TypeId} {a b : Cl}
theorem exec_neC (c : Bool) (ho : o.op = .binOp .neq 104 x y t) (hx : ρ x = clV a) (hy : ρ y = clV b) (h : (!decide (a = b)) = c) : (execOp ρ o).run Tryz.prog w = .ok (.value (.bool c)) w := by
  subst h; exact exec_neT guardC (run_eqC w a b 9997) ho hx hy
end
theorem rdC_new1 (w : World) (c : Cl) : RdE bn (w.alloc (.cells (cp c).toArray 104)) (w.heap.size + 1) (some ⟨w.heap.size, 0, none⟩) 1 [c] :=
  dZ w (cp c).toArray 104 (by simp [bj]; rfl)
def bk (x : Mrk) : List Value := [.int .u64 x.id, .int .i64 x.ring, .int .u64 x.first, .int .u64 x.pos]
def mrk (x : Mrk) : Value := .agg (bk x).toArray
theorem celM_length (x : Mrk) : (bk x).length = 4 := rfl
theorem celM_one (x : Mrk) : ∀ v ∈ bk x, v.oneCell' = true := by
  intro v hv
  simp only [bk, List.mem_cons, List.not_mem_nil, or_false] at hv
  rcases hv with rfl | rfl | rfl | rfl <;> rfl
theorem sizeM : (Tryz.prog.info? 67).map (·.size) = some 4 := by kernel_rfl
theorem zeroM_info : (Tryz.prog.info? 67).map (fun i => i.zero) = some (some (mrk bI)) := by kernel_rfl
section
variable {ρ : Operand → Value} {o : Oper} {x y : Operand} {w : World} {b off : Nat}
theorem bC {c : Mrk} (ho : o.op = .load 67 x) (hx : ρ x = .pointer (some ⟨b, off, none⟩)) (hc : w.rangeAt b off (bk c)) : (execOp ρ o).run Tryz.prog w = .ok (.value (mrk c)) w :=
  dy Tryz.underlying67 rfl sizeM ho hx hc
theorem exec_boxM {c : Mrk} (ho : o.op = .box 67 x) (hx : ρ x = mrk c) : (execOp ρ o).run Tryz.prog w = .ok (.value (.pointer (some ⟨w.heap.size, 0, none⟩))) (w.alloc (.cells (bk c).toArray 67)) := exec_boxT ho hx
theorem bJ (ho : o.op = .alloc 67) : (execOp ρ o).run Tryz.prog w = .ok (.value (.pointer (some ⟨w.heap.size, 0, none⟩))) (w.alloc (.cells (bk bI).toArray 67)) := df zeroM_info ho
theorem dj {c d : Mrk} (ho : o.op = .store 67 x y) (hx : ρ x = .pointer (some ⟨w.heap.size, 0, none⟩)) (hy : ρ y = mrk c) : (execOp ρ o).run Tryz.prog (w.alloc (.cells (bk d).toArray 67)) = .ok .skip (w.alloc (.cells (bk c).toArray 67)) :=
  dP sizeM rfl (celM_one c) ho hx hy
theorem cQ {c : Mrk} (ho : o.op = .store 67 x y) (hx : ρ x = .pointer (some ⟨b, off, none⟩)) (hy : ρ y = mrk c) (ht : w.there b off 4) : (execOp ρ o).run Tryz.prog w = .ok .skip (w.setCells b off (bk c)) :=
  exec_putT sizeM (celM_one c) ho hx hy ht
theorem run_bldM (w : World) : (Instr.build 67 #[]).run Tryz.prog w = .ok (mrk bI) w := by kernel_rfl
theorem exec_bldM (ho : o.op = .build 67 #[]) : (execOp ρ o).run Tryz.prog w = .ok (.value (mrk bI)) w := exec_bld0 ho (run_bldM w)
end
def bG (w : World) (b : Nat) (x : Mrk) : Prop := w.heap[b]? = some (.cells (bk x).toArray 67 (0, 0))
section
variable {w w' : World} {b : Nat} {x : Mrk}
theorem bG.range (h : bG w b x) : w.rangeAt b 0 (bk x) := d7 h
theorem bG.cells (h : bG w b x) : w.cell? ⟨b, 0, none⟩ = some (.int .u64 x.id) ∧ w.cell? ⟨b, 1, none⟩ = some (.int .i64 x.ring) ∧ w.cell? ⟨b, 2, none⟩ = some (.int .u64 x.first) ∧ w.cell? ⟨b, 3, none⟩ = some (.int .u64 x.pos) :=
  ⟨h.range 0 _ rfl, h.range 1 _ rfl, h.range 2 _ rfl, h.range 3 _ rfl⟩
theorem bG.below {B : Nat} (h : bG w b x) (hB : b < B) (hb : Below B w w') : bG w' b x := blk_keep2 h hB hb
theorem bG.new (w : World) (x : Mrk) : bG (w.alloc (.cells (bk x).toArray 67)) w.heap.size x := heap_alloc_new w _
theorem bG.past (h : bG w b x) (o : Obj) : bG (w.alloc o) b x := bM h o
theorem bG.there (h : bG w b x) : w.there b 0 4 := dI (o := 0) (n := 4) h (Nat.le_refl _)
theorem boxM_new (w : World) (x : Mrk) : bG (w.alloc (.cells (bk x).toArray 67)) w.heap.size x ∧ Below w.heap.size w (w.alloc (.cells (bk x).toArray 67)) ∧ w.heap.size < (w.alloc (.cells (bk x).toArray 67)).heap.size :=
  ⟨bG.new w x, (Below.refl _ w).alloc (Nat.le_refl _) _, by rw [World.size_alloc]; omega⟩
end
def unw (ops : Array Oper) : List Oper → Act → Bool
  | [], _ => true
  | r :: rs, a => !(Region.wanted r (yielded ops a.tmps)) && unw ops rs (a.put r.dst undef)
def bc : List Oper → Act → Act
  | [], a => a
  | r :: rs, a => bc rs (a.put r.dst undef)
section
variable {P : Program} {ops : Array Oper} {rest l : List Oper} {o : Oper} {a : Act} {w w' : World} {Q : Exit → Act → World → Prop} {v : Value}
theorem wpList_unw : ∀ (rs : List Oper) (a : Act), unw ops rs a = true → wpList P ops Q rest (bc rs a) w → wpList P ops Q (rs ++ rest) a w
  | [], _, _, h => h
  | r :: rs, a, hu, h => by
    simp only [unw, Bool.and_eq_true, Bool.not_eq_true'] at hu
    refine wpList_step fun K hK => ?_
    rw [if_neg (by rw [hu.1]; exact Bool.false_ne_true)]
    exact hK _ _ (wpList_unw rs _ hu.2 h)
theorem aO (n : Nat) (hw : Region.wanted o (yielded ops a.tmps) = true) (h : (execOp a.eval o).run P w = .ok (.value v) w') (hu : unw ops (l.take n) (a.put o.dst v) = true) (hr : wpList P ops Q (l.drop n) (bc (l.take n) (a.put o.dst v)) w') : wpList P ops Q (o :: l) a w :=
  ai hw h (by have := wpList_unw (P := P) (Q := Q) (l.take n) _ hu hr; rwa [List.take_append_drop] at this)
end
end Go.Proofs.YtcafafdimcecpaaGreatDoor
