/-
  The program's seal: cut, told, lay.
  The program's seal.Put.
  The program's seal.Put of a number and a body that may be.
  The program's seal.Get, and Newest.
  The document's seal: Get.
  The document's seal: Put.
-/
import Derived.Test.YtiilclncedipiaaDoorMB
import Derived.OrdersHeld
import Derived.Test.YtiilclncedipiaaDoorMA
namespace Go.Proofs.YtiilclncedipiaaDoor
open Go.RowKit
set_option linter.unusedVariables false
set_option maxRecDepth 100000

section
variable {ρ : Operand → Value} {o : Oper} {x y z u : Operand} {w : World} {t : TypeId} {p q a b c : Value}
theorem exec_cut3 (ho : o.op = .slice t x (some y) (some z) (some u)) (hx : ρ x = p) (hy : ρ y = a) (hz : ρ z = b) (hu : ρ u = c) (h : (Instr.sliceAt t p (some a) (some b) (some c)).run Tryd.prog w = .ok q w) : (execOp ρ o).run Tryd.prog w = .ok (.value q) w := by
  unfold execOp
  simp only [ho, hx, hy, hz, hu, Option.map_some, Sem.run_bind, h, Result.andThen_ok, Sem.run_pure]
end
section
variable (g : Nat) (w : World)
theorem cut_gen {i j k : Nat} (h1 : i ≤ j) (h2 : j ≤ k) (h3 : k ≤ 64) (h4 : i < k) : (Instr.sliceAt 31 (.pointer (some ⟨g, 0, none⟩)) (some (.int .i64 (i : Int))) (some (.int .i64 (j : Int))) (some (.int .i64 (k : Int)))).run Tryd.prog w = .ok (.slice (some ⟨g, i, none⟩) (j - i) (k - i)) w := by
  have e1 : (0 ≤ (k : Int) ∧ (k : Int) ≤ 64) := by omega
  have e2 : (0 ≤ (j : Int) ∧ (j : Int) ≤ (k : Int)) := by omega
  have e3 : (0 ≤ (i : Int) ∧ (i : Int) ≤ (j : Int)) := by omega
  have e4 : k ≠ i := by omega
  simp [Instr.sliceAt, Instr.sliceBounds, Instr.sliceBound, Instr.sureAddr, asIntOf, run_underlying undB, Tryd.sizeOf5, Addr.add_mid, e1, e2, e3, e4, h1, h2, h3]
theorem cut_a : (Instr.sliceAt 31 (.pointer (some ⟨g, 0, none⟩)) (some (.int .i64 0)) (some (.int .i64 8)) (some (.int .i64 8))).run Tryd.prog w = .ok (.slice (some ⟨g, 0, none⟩) 8 8) w := cut_gen g w (i := 0) (j := 8) (k := 8) (by omega) (by omega) (by omega) (by omega)
theorem cut_b : (Instr.sliceAt 31 (.pointer (some ⟨g, 0, none⟩)) (some (.int .i64 8)) (some (.int .i64 52)) (some (.int .i64 52))).run Tryd.prog w = .ok (.slice (some ⟨g, 8, none⟩) 44 44) w := cut_gen g w (i := 8) (j := 52) (k := 52) (by omega) (by omega) (by omega) (by omega)
theorem cut_c : (Instr.sliceAt 31 (.pointer (some ⟨g, 0, none⟩)) (some (.int .i64 52)) (some (.int .i64 56)) (some (.int .i64 56))).run Tryd.prog w = .ok (.slice (some ⟨g, 52, none⟩) 4 4) w := cut_gen g w (i := 52) (j := 56) (k := 56) (by omega) (by omega) (by omega) (by omega)
theorem cut_d : (Instr.sliceAt 31 (.pointer (some ⟨g, 0, none⟩)) (some (.int .i64 56)) (some (.int .i64 64)) (some (.int .i64 64))).run Tryd.prog w = .ok (.slice (some ⟨g, 56, none⟩) 8 8) w := cut_gen g w (i := 56) (j := 64) (k := 64) (by omega) (by omega) (by omega) (by omega)
theorem cut_e : (Instr.sliceAt 31 (.pointer (some ⟨g, 0, none⟩)) (some (.int .i64 0)) (some (.int .i64 52)) (some (.int .i64 52))).run Tryd.prog w = .ok (.slice (some ⟨g, 0, none⟩) 52 52) w := cut_gen g w (i := 0) (j := 52) (k := 52) (by omega) (by omega) (by omega) (by omega)
end
section
variable {ρ : Operand → Value} {o : Oper} {x y : Operand} {w : World} {t : TypeId} {old cs : Array Value}
theorem exec_fillT (hz : (Tryd.prog.info? t).map (·.size) = some cs.size) (he : old.size = cs.size) (h1 : cs.toList.all Value.oneCell' = true) (ho : o.op = .store t x y) (hx : ρ x = .pointer (some ⟨w.heap.size, 0, none⟩)) (hy : ρ y = .agg cs) :
    (execOp ρ o).run Tryd.prog (w.alloc (.cells old t)) = .ok .skip (w.alloc (.cells cs t)) := by
  have h := run_storeAt_new (P := Tryd.prog) w t old cs hz he (by simpa using h1)
  unfold execOp
  simp only [ho, hx, hy, Sem.run_bind, h, Result.andThen_ok, Sem.run_pure]
theorem exec_fillD (hz : (Tryd.prog.info? t).map (·.size) = some cs.size) (he : old.size = cs.size) (h1 : cs.toList.all Value.oneCell' = true) (ho : o.op = .store t x y) (hx : ρ x = .pointer (some ⟨w.heap.size, 0, none⟩)) (hy : ρ y = .agg cs) :
    (execOp ρ o).run Tryd.prog (w.alloc (.cells old t)).drew = .ok .skip (w.alloc (.cells cs t)).drew := exec_fillT (w := w.drew) hz he h1 ho hx hy
end
theorem exec_bld5 {ρ : Operand → Value} {o : Oper} {w : World} {t : TypeId} {v : Value} {x0 x1 x2 x3 x4 : Operand} {y0 y1 y2 y3 y4 : Value} (ho : o.op = .build t #[(0, x0), (1, x1), (2, x2), (3, x3), (4, x4)]) (h0 : ρ x0 = y0) (h1 : ρ x1 = y1) (h2 : ρ x2 = y2) (h3 : ρ x3 = y3) (h4 : ρ x4 = y4)
    (h : (Instr.build t #[(0, y0), (1, y1), (2, y2), (3, y3), (4, y4)]).run Tryd.prog w = .ok v w) : (execOp ρ o).run Tryd.prog w = .ok (.value v) w := by
  subst h0 h1 h2 h3 h4
  unfold execOp
  simp only [ho, List.map_toArray, List.map_cons, List.map_nil, Sem.run_bind, h, Result.andThen_ok, Sem.run_pure]
theorem res_row {fn : Func} {p : Tmp} {t : TypeId} {cs : Array Value} {d : TypeDesc} (h0 : fn.results = #[.cell p t]) (tmps : Array Value) (w : World) (b : Nat) (hp : tmps.getD p undef = .pointer (some ⟨b, 0, none⟩)) (h : w.heap[b]? = some (.cells cs t (0, 0))) (hu : Tryd.prog.underlying t = some d) (hd : d.isRow = true) (hz : (Tryd.prog.info? t).map (·.size) = some cs.size) :
    (results fn tmps).run Tryd.prog w = .ok (.agg cs) w := by
  have hr : w.rangeAt b 0 cs.toList := fun j v hj => by
    rw [cell_of_row w b (0 + j) cs t (0, 0) h, Nat.zero_add]
    simpa using hj
  have hl : (loadVar t ⟨b, 0, none⟩).run Tryd.prog w = .ok (.agg cs) w := by
    have := run_loadVar_mid (P := Tryd.prog) w b 0 t cs.toList d hr hu hd (by simpa using hz)
    simpa using this
  have hp' : tmps[p]?.getD undef = .pointer (some ⟨b, 0, none⟩) := by simpa using hp
  simp [results, h0, hp', asAddr, hl]
theorem grown_of_below {w w' : World} {row : Option Nat} (hb : Below w.heap.size w w') : w.grownBy w' row := ⟨hb.os, hb.tape, hb.output, hb.size, fun k hk _ => hb.block k hk⟩
/-- A sector's parts: five pieces of one block. -/
def partsA (g : Nat) : Array Value := #[.slice (some ⟨g, 0, none⟩) 8 8, .slice (some ⟨g, 8, none⟩) 44 44, .slice (some ⟨g, 52, none⟩) 4 4, .slice (some ⟨g, 56, none⟩) 8 8, .slice (some ⟨g, 0, none⟩) 52 52]

theorem parts5 (g : Nat) (w : World) : (Instr.build 77 #[(0, .slice (some ⟨g, 0, none⟩) 8 8), (1, .slice (some ⟨g, 8, none⟩) 44 44), (2, .slice (some ⟨g, 52, none⟩) 4 4), (3, .slice (some ⟨g, 56, none⟩) 8 8), (4, .slice (some ⟨g, 0, none⟩) 52 52)]).run Tryd.prog w = .ok (.agg (partsA g)) w := by kernel_rfl
set_option maxHeartbeats 1000000 in
theorem cut_any (g : Nat) (w : World) : Calls Tryd.prog 46 #[.pointer (some ⟨g, 0, none⟩)] w fun e w' => e = .returned (.agg #[.slice (some ⟨g, 0, none⟩) 8 8, .slice (some ⟨g, 8, none⟩) 44 44, .slice (some ⟨g, 52, none⟩) 4 4, .slice (some ⟨g, 56, none⟩) 8 8, .slice (some ⟨g, 0, none⟩) 52 52]) ∧ Below w.heap.size w w' := by
  go_enter Tryd.func46, Tryd.ntmps46
  go_wp2_with fail
  refine wp_region_still_tail 15 (by kernel_rfl) (by kernel_rfl) ?_
  simp only [List.take_succ_cons, List.take_zero, List.drop_succ_cons, List.drop_zero]
  refine st_val rfl (exec_mv rfl (ev rfl)) ?_
  simp only [Act.put, List.setIfInBounds_toArray, List.set_cons_succ, List.set_cons_zero]
  refine st_val rfl (exec_nil rfl (ev rfl)) ?_
  simp only [Act.put, List.setIfInBounds_toArray, List.set_cons_succ, List.set_cons_zero]
  refine st_val rfl (exec_cut3 rfl (ev rfl) evk evk evk (cut_a g _)) ?_
  simp only [Act.put, List.setIfInBounds_toArray, List.set_cons_succ, List.set_cons_zero]
  refine st_val rfl (exec_mv rfl (ev rfl)) ?_
  simp only [Act.put, List.setIfInBounds_toArray, List.set_cons_succ, List.set_cons_zero]
  refine st_val rfl (exec_nil rfl (ev rfl)) ?_
  simp only [Act.put, List.setIfInBounds_toArray, List.set_cons_succ, List.set_cons_zero]
  refine st_val rfl (exec_cut3 rfl (ev rfl) evk evk evk (cut_b g _)) ?_
  simp only [Act.put, List.setIfInBounds_toArray, List.set_cons_succ, List.set_cons_zero]
  refine st_val rfl (exec_mv rfl (ev rfl)) ?_
  simp only [Act.put, List.setIfInBounds_toArray, List.set_cons_succ, List.set_cons_zero]
  refine st_val rfl (exec_nil rfl (ev rfl)) ?_
  simp only [Act.put, List.setIfInBounds_toArray, List.set_cons_succ, List.set_cons_zero]
  refine st_val rfl (exec_cut3 rfl (ev rfl) evk evk evk (cut_c g _)) ?_
  simp only [Act.put, List.setIfInBounds_toArray, List.set_cons_succ, List.set_cons_zero]
  refine st_val rfl (exec_mv rfl (ev rfl)) ?_
  simp only [Act.put, List.setIfInBounds_toArray, List.set_cons_succ, List.set_cons_zero]
  refine st_val rfl (exec_nil rfl (ev rfl)) ?_
  simp only [Act.put, List.setIfInBounds_toArray, List.set_cons_succ, List.set_cons_zero]
  refine st_val rfl (exec_cut3 rfl (ev rfl) evk evk evk (cut_d g _)) ?_
  simp only [Act.put, List.setIfInBounds_toArray, List.set_cons_succ, List.set_cons_zero]
  refine st_val rfl (exec_mv rfl (ev rfl)) ?_
  simp only [Act.put, List.setIfInBounds_toArray, List.set_cons_succ, List.set_cons_zero]
  refine st_val rfl (exec_nil rfl (ev rfl)) ?_
  simp only [Act.put, List.setIfInBounds_toArray, List.set_cons_succ, List.set_cons_zero]
  refine st_val rfl (exec_cut3 rfl (ev rfl) evk evk evk (cut_e g _)) ?_
  simp only [Act.put, List.setIfInBounds_toArray, List.set_cons_succ, List.set_cons_zero]
  refine wpStill_nil ?_
  change wpList _ _ _ _ _ (World.drew _)
  refine wpList_val rfl (exec_bld5 (v := .agg (partsA g)) rfl (ev rfl) (ev rfl) (ev rfl) (ev rfl) (ev rfl) (parts5 g _)) ?_
  simp only [Act.put, List.setIfInBounds_toArray, List.set_cons_succ, List.set_cons_zero]
  refine wpList_nul rfl (exec_fillD (w := w) (cs := partsA g) ?s1 ?s2 ?s3 rfl (ev rfl) (ev rfl)) ?_
  case s1 => kernel_rfl
  case s2 => rfl
  case s3 => rfl
  refine wpList_nil ?_
  go_wp2_with fail
  refine bodyPost_ret (res_row (cs := partsA g) (t := 77) rfl _ _ w.heap.size rfl ?h1 Tryd.underlying77 rfl ?h2) rfl ⟨rfl, ?h3⟩
  case h1 => exact heap_alloc_new w.drew _
  case h2 => kernel_rfl
  case h3 => exact bd ((Below.refl _ w).alloc (Nat.le_refl _) _)

theorem piece_all {b : List UInt8} {n : Nat} (h : b.length = n) : piece b 0 n = b := by
  subst h
  simp [piece]
set_option maxHeartbeats 400000 in
theorem told_any (A : Option Addr) (n c N : Nat) (b : List UInt8) (w : World) (hb : Rd w N A n b) (h1 : 1 ≤ n) (h2 : n ≤ 8) :
    Calls Tryd.prog 55 #[.slice A n c] w fun e w' => e = .returned (.int .u64 (val 8 b)) ∧ w = w' := by
  have hp := piece_all hb.1
  have HP := Lib.hid hp
  clear hp
  go_enter Tryd.func55, Tryd.ntmps55
  go_wp2_with fail
  refine (get_ok A n c N b 0 n _ hb (by unfold maxLen; omega) h1 h2 (by omega)).mono ?_
  rintro e w' ⟨rfl, rfl⟩
  rw [HP.out]
  go_wp2
  go_ret
  exact ⟨rfl, rfl⟩
set_option maxHeartbeats 400000 in
theorem lay_any (g off k n : Nat) (t : TypeId) (l : List UInt8) (w : World) (hs : RowL w g t l) (h1 : 1 ≤ k) (h2 : k ≤ 8) (ho : off + k ≤ l.length) (hn : n < 256 ^ k) :
    Calls Tryd.prog 47 #[.slice (some ⟨g, off, none⟩) k k, .int .u64 n] w fun e w' => e = .returned (.tuple #[]) ∧ RowL w' g t (splice l off (digL 8 k n)) ∧ w.grownBy w' (some g) := by
  have HS := Lib.hid hs
  have HL := Lib.hid (length_digL 8 k n)
  clear hs
  go_enter Tryd.func47, Tryd.ntmps47
  go_wp2_with fail
  refine (put_ok n k w h1 h2 hn).mono ?_
  rintro e w1 ⟨v, rfl, hv, hb⟩
  obtain ⟨A, c, rfl, hrd, _, _⟩ := hv.made.open_ HL.out
  have HR := Lib.hid hrd
  have HS1 := Lib.hid (HS.out.below HS.out.lt hb)
  have HB := Lib.hid hb
  clear hv hrd hb
  go_wp2_with (with_reducible refine wpList_copyL rfl _ _ rfl g off k k k c _ A t l (digL 8 k n) rfl rfl HS1.out HR.out (Nat.le_refl _) ho ?_)
  intro w2 hr2 hg2
  have HR2 := Lib.hid hr2
  have HG2 := Lib.hid hg2
  clear hr2 hg2
  go_wp2
  go_end0
  exact ⟨rfl, HR2.out, (grown_of_below HB.out).trans HG2.out⟩
end Go.Proofs.YtiilclncedipiaaDoor
namespace Go.Proofs.YtiilclncedipiaaDoor
open Go.RowKit
set_option linter.unusedVariables false
set_option maxRecDepth 100000

/-! What the copies come to. -/
theorem bt_append_lo {x y : List UInt8} {j : Nat} (h : j < x.length) : bt (x ++ y) j = bt x j := by
  unfold bt
  simp [List.getD, List.getElem?_append_left h]
theorem bt_append_hi {x y : List UInt8} {j : Nat} (h : x.length ≤ j) : bt (x ++ y) j = bt y (j - x.length) := by
  unfold bt
  simp [List.getD, List.getElem?_append_right h]
theorem bt_noughts {n j : Nat} : bt (List.replicate n 0) j = 0 := by
  unfold bt
  by_cases h : j < n
  · simp [List.getD, h]
  · simp [List.getD, h]
theorem bt_splice {l x : List UInt8} {off j : Nat} (h : off + x.length ≤ l.length) : bt (splice l off x) j = if off ≤ j ∧ j < off + x.length then bt x (j - off) else bt l j := by
  unfold splice
  have h1 : (l.take off).length = off := by simp; omega
  by_cases hlo : j < off
  · rw [if_neg (by omega), bt_append_lo (by omega)]
    unfold bt
    simp [List.getD, List.getElem?_take_of_lt hlo]
  · rw [bt_append_hi (by omega), h1]
    by_cases hhi : j < off + x.length
    · rw [if_pos (by omega), bt_append_lo (by omega)]
    · rw [if_neg (by omega), bt_append_hi (by omega)]
      unfold bt
      simp only [List.getD, List.getElem?_drop]
      rw [show off + x.length + (j - off - x.length) = j from by omega]
theorem bt_pad {b : List UInt8} {j : Nat} : bt (padL b) j = if j < b.length then bt b j else 0 := by
  unfold padL
  split
  · rename_i h; exact bt_append_lo h
  · rename_i h; rw [bt_append_hi (by omega), bt_noughts]
theorem bt_head {n : Nat} {b : List UInt8} {j : Nat} : bt (headL n b) j = if j < 8 then bt (digL 8 8 n) j else if j < 8 + b.length then bt b (j - 8) else 0 := by
  unfold headL
  split
  · rename_i h; exact bt_append_lo (by rw [length_digL]; exact h)
  · rename_i h
    rw [bt_append_hi (by rw [length_digL]; omega), length_digL, bt_pad]
    by_cases h2 : j < 8 + b.length
    · rw [if_pos (by omega), if_pos h2]
    · rw [if_neg (by omega), if_neg h2]
theorem bt_seal {n : Nat} {b : List UInt8} {j : Nat} (hb : b.length ≤ 44) : bt (sealL n b) j = if j < 52 then bt (headL n b) j else if j < 56 then bt (digL 8 4 (more 0 (headL n b))) (j - 52) else bt (digL 8 8 n) (j - 56) := by
  have h52 := headL_length n hb
  unfold sealL
  split
  · rename_i h; exact bt_append_lo (by omega)
  · rename_i h
    rw [bt_append_hi (by omega), h52]
    split
    · rename_i h2; exact bt_append_lo (by rw [length_digL]; omega)
    · rename_i h2; rw [bt_append_hi (by rw [length_digL]; omega), length_digL, show j - 52 - 4 = j - 56 from by omega]
/-- A sector ahead of its sum. -/
def noSum (n : Nat) (b : List UInt8) : List UInt8 := splice (splice (splice zeroB.toList 0 (digL 8 8 n)) 56 (digL 8 8 n)) 8 b
theorem noSum_1 (n : Nat) : (splice zeroB.toList 0 (digL 8 8 n)).length = 64 := by rw [length_splice _ _ _ (by simp [length_digL])]; simp
theorem noSum_2 (n : Nat) : (splice (splice zeroB.toList 0 (digL 8 8 n)) 56 (digL 8 8 n)).length = 64 := by rw [length_splice _ _ _ (by rw [noSum_1, length_digL]; omega), noSum_1]
section
variable {n : Nat} {b : List UInt8} (hb : b.length ≤ 44)
include hb
theorem noSum_length : (noSum n b).length = 64 := by unfold noSum; rw [length_splice _ _ _ (by rw [noSum_2]; omega), noSum_2]
theorem bt_noSum {j : Nat} : bt (noSum n b) j = if 8 ≤ j ∧ j < 8 + b.length then bt b (j - 8) else if 56 ≤ j ∧ j < 64 then bt (digL 8 8 n) (j - 56) else if j < 8 then bt (digL 8 8 n) j else 0 := by
  unfold noSum
  have hz : bt zeroB.toList j = 0 := by
    have : zeroB.toList = List.replicate 64 0 := by decide
    rw [this, bt_noughts]
  rw [bt_splice (by rw [noSum_2]; omega), bt_splice (by rw [noSum_1, length_digL]; omega), bt_splice (by simp [length_digL]), length_digL, hz]
  congr 2
  by_cases h : j < 8
  · rw [if_pos (by omega), if_pos h, Nat.sub_zero]
  · rw [if_neg (by omega), if_neg h]
theorem noSum_head : piece (noSum n b) 0 52 = headL n b := by
  refine eq_of_bt (by rw [length_piece (by rw [noSum_length hb]; omega), headL_length n hb]) fun j hj => ?_
  rw [length_piece (by rw [noSum_length hb]; omega)] at hj
  rw [bt_piece hj, Nat.zero_add, bt_noSum hb, bt_head]
  by_cases h8 : j < 8
  · rw [if_neg (by omega), if_neg (by omega), if_pos h8, if_pos h8]
  · by_cases h2 : j < 8 + b.length
    · rw [if_pos (by omega), if_neg h8, if_pos h2]
    · rw [if_neg (by omega), if_neg (by omega), if_neg h8, if_neg h8, if_neg h2]
theorem noSum_seal : splice (noSum n b) 52 (digL 8 4 (more 0 (headL n b))) = sealL n b := by
  have h64 := noSum_length (n := n) hb
  refine eq_of_bt (by rw [length_splice _ _ _ (by rw [h64, length_digL]; omega), h64, sealL_length n hb]) fun j hj => ?_
  rw [length_splice _ _ _ (by rw [h64, length_digL]; omega), h64] at hj
  rw [bt_splice (by rw [h64, length_digL]; omega), bt_seal hb, length_digL, bt_noSum hb, bt_head]
  by_cases h52 : j < 52
  · rw [if_neg (by omega), if_pos h52]
    by_cases h8 : j < 8
    · rw [if_neg (by omega), if_neg (by omega), if_pos h8, if_pos h8]
    · by_cases h2 : j < 8 + b.length
      · rw [if_pos (by omega), if_neg h8, if_pos h2]
      · rw [if_neg (by omega), if_neg (by omega), if_neg h8, if_neg h8, if_neg h2]
  · by_cases h56 : j < 56
    · rw [if_pos (by omega), if_neg h52, if_pos h56]
    · rw [if_neg (by omega), if_neg h52, if_neg h56, if_neg (by omega), if_pos (by omega)]
end

/-! The parts in memory. -/
theorem cells5 {w : World} {b : Nat} {t : TypeId} {x y z u v : Value} (h : w.heap[b]? = some (.cells #[x, y, z, u, v] t (0, 0))) : w.cell? ⟨b, 0, none⟩ = some x ∧ w.cell? ⟨b, 1, none⟩ = some y ∧ w.cell? ⟨b, 2, none⟩ = some z ∧ w.cell? ⟨b, 3, none⟩ = some u ∧ w.cell? ⟨b, 4, none⟩ = some v := by
  refine ⟨?_, ?_, ?_, ?_, ?_⟩
  · rw [cell_of_row w b 0 _ t (0, 0) h]; rfl
  · rw [cell_of_row w b 1 _ t (0, 0) h]; rfl
  · rw [cell_of_row w b 2 _ t (0, 0) h]; rfl
  · rw [cell_of_row w b 3 _ t (0, 0) h]; rfl
  · rw [cell_of_row w b 4 _ t (0, 0) h]; rfl
/-- Block p holds the parts of block g. -/
def PartsAt (w : World) (p g : Nat) : Prop := w.heap[p]? = some (.cells (partsA g) 77 (0, 0))
theorem PartsAt.cells {w : World} {p g : Nat} (h : PartsAt w p g) : w.cell? ⟨p, 0, none⟩ = some (.slice (some ⟨g, 0, none⟩) 8 8) ∧ w.cell? ⟨p, 1, none⟩ = some (.slice (some ⟨g, 8, none⟩) 44 44) ∧ w.cell? ⟨p, 2, none⟩ = some (.slice (some ⟨g, 52, none⟩) 4 4) ∧ w.cell? ⟨p, 3, none⟩ = some (.slice (some ⟨g, 56, none⟩) 8 8) ∧ w.cell? ⟨p, 4, none⟩ = some (.slice (some ⟨g, 0, none⟩) 52 52) := cells5 h
theorem PartsAt.grown {w w' : World} {p g k : Nat} (h : PartsAt w p g) (hk : p ≠ k) (hb : w.grownBy w' (some k)) : PartsAt w' p g := (hb.block p (blk_lt h) (fun e => hk (by injection e))).trans h
theorem PartsAt.below {w w' : World} {p g B : Nat} (h : PartsAt w p g) (hB : p < B) (hb : Below B w w') : PartsAt w' p g := blk_keep2 h hB hb
/-- What stands while a sector is put. -/
structure PutW (B : Nat) (w w' : World) (r g p : Nat) (l : List UInt8) : Prop where
  res : RowL w' r 31 zeroB.toList
  row : RowL w' g 31 l
  par : PartsAt w' p g
  bel : Below B w w'
  r0 : B ≤ r
  g0 : B ≤ g
  rg : r ≠ g
  pg : p ≠ g
theorem PutW.turn {B : Nat} {w w1 w2 : World} {r g p : Nat} {l l' : List UInt8} (h : PutW B w w1 r g p l) (hr : RowL w2 g 31 l') (hg : w1.grownBy w2 (some g)) (hB : B ≤ w.heap.size) : PutW B w w2 r g p l' :=
  ⟨h.res.grown h.rg hg, hr, h.par.grown h.pg hg, h.bel.grown hg (Nat.le_trans hB h.bel.size) (fun k hk => by injection hk with e; have := h.g0; omega), h.r0, h.g0, h.rg, h.pg⟩
theorem PutW.draw {B : Nat} {w w1 : World} {r g p : Nat} {l : List UInt8} (h : PutW B w w1 r g p l) : PutW B w w1.drew r g p l := ⟨h.res, h.row, h.par, bd h.bel, h.r0, h.g0, h.rg, h.pg⟩

section
variable {ρ : Operand → Value} {o : Oper} {x y z : Operand} {w : World} {t : TypeId} {n : Nat} {a : Value} {ad : Addr} {A : Option Addr} {m c : Nat}
theorem exec_cv32 (ho : o.op = .convert 68 22 x) (hx : ρ x = .int .u32 (n : Int)) (hn : n < 4294967296) : (execOp ρ o).run Tryd.prog w = .ok (.value (.int .u64 (n : Int))) w := by
  have h : IntKind.u64.wrap (n : Int) = (n : Int) := IntWalk.u64_in _ ⟨by omega, by omega⟩
  have hc : (convert 68 22 (.int .u32 (n : Int))).run Tryd.prog w = .ok (.int .u64 (n : Int)) w := by simp [convert, go_sem, h]
  unfold execOp
  simp only [ho, hx, Sem.run_bind, hc, Result.andThen_ok, Sem.run_pure]
theorem ldS (h : w.cell? ad = some (.slice A m c)) : (Instr.loadAt 39 (.pointer (some ad))).run Tryd.prog w = .ok (.slice A m c) w := by simp [go_sem, h]
theorem faP2 {b : Nat} : (Instr.fieldAt 77 (.pointer (some ⟨b, 0, none⟩)) 2).run Tryd.prog w = .ok (.pointer (some ⟨b, 2, none⟩)) w := by kernel_rfl
theorem faP4 {b : Nat} : (Instr.fieldAt 77 (.pointer (some ⟨b, 0, none⟩)) 4).run Tryd.prog w = .ok (.pointer (some ⟨b, 4, none⟩)) w := by kernel_rfl
end

set_option maxHeartbeats 1000000 in
theorem put_arg (m c : Nat) (A : Option Addr) (b : List UInt8) (w : World) (hb : b.length = m) :
    Calls Tryd.prog 25 #[.int .u64 0, .slice A m c] w fun e w' => e = .returned (.tuple #[blk (putB 0 b), .int .i64 (putE 0 b : Nat)]) ∧ Below w.heap.size w w' := by
  have hA := (Below.refl w.heap.size w).alloc (Nat.le_refl _) (.cells (cel zeroB).toArray 31)
  have HT := Lib.hid (there_new w zeroB 31)
  have HA := Lib.hid hA
  clear hA
  rw [show putB 0 b = zeroB from rfl, show putE 0 b = 2 from rfl]
  go_enter Tryd.func25, Tryd.ntmps25
  go_wp2_with (first | (refine wpList_val rfl (exec_alloc rfl) ?_) | (refine wpList_val rfl (exec_build (c := zeroB) (parts := []) rfl rfl) ?_) | (refine wpList_nul rfl (exec_store rfl rfl rfl HT.out) ?_))
  refine bodyPost_ret (res_blk2 rfl _ _ _ rfl (World.rangeAt_setCells_same _ _ _ _ (by rw [cel_length]; exact HT.out))) rfl ⟨rfl, below_setCells HA.out (Nat.le_refl _) _⟩
set_option maxHeartbeats 1000000 in
theorem put_long (n m c : Nat) (A : Option Addr) (b : List UInt8) (w : World) (hb : b.length = m) (h0 : 0 < n) (hm : 44 < m) (hm2 : m ≤ maxLen) :
    Calls Tryd.prog 25 #[.int .u64 n, .slice A m c] w fun e w' => e = .returned (.tuple #[blk (putB n b), .int .i64 (putE n b : Nat)]) ∧ Below w.heap.size w w' := by
  have hA := (Below.refl w.heap.size w).alloc (Nat.le_refl _) (.cells (cel zeroB).toArray 31)
  have HT := Lib.hid (there_new w zeroB 31)
  have HA := Lib.hid hA
  have hE : putE n b = 3 := by unfold putE; rw [if_neg (by omega), if_pos (by omega)]
  have hB : putB n b = zeroB := by unfold putB; rw [hE]; rfl
  rw [hE, hB]
  unfold maxLen at hm2
  clear hA hE hB hb
  have hz : ((n : Int) == 0) = false := by simp; omega
  go_enter Tryd.func25, Tryd.ntmps25
  go_wp2_with (first | (refine wpList_val rfl (exec_alloc rfl) ?_) | (refine wpList_val rfl (exec_build (c := zeroB) (parts := []) rfl rfl) ?_) | (refine wpList_nul rfl (exec_store rfl rfl rfl HT.out) ?_))
  refine bodyPost_ret (res_blk2 rfl _ _ _ rfl (World.rangeAt_setCells_same _ _ _ _ (by rw [cel_length]; exact HT.out))) rfl ⟨rfl, below_setCells HA.out (Nat.le_refl _) _⟩
end Go.Proofs.YtiilclncedipiaaDoor
namespace Go.Proofs.YtiilclncedipiaaDoor
open Go.RowKit
set_option linter.unusedVariables false
set_option maxRecDepth 100000

theorem exec_fillP {ρ : Operand → Value} {o : Oper} {x y : Operand} {w : World} (g : Nat) (ho : o.op = .store 77 x y) (hx : ρ x = .pointer (some ⟨w.heap.size, 0, none⟩)) (hy : ρ y = .agg (partsA g)) :
    (execOp ρ o).run Tryd.prog (w.alloc (.cells #[.slice none 0 0, .slice none 0 0, .slice none 0 0, .slice none 0 0, .slice none 0 0] 77)) = .ok .skip (w.alloc (.cells (partsA g) 77)) :=
  exec_fillT (by kernel_rfl) rfl rfl ho hx hy
/-- What stands when the parts have been cut. -/
theorem putW_start (w w1 : World) (hb : Below ((w.alloc (.cells (cel zeroB).toArray 31)).alloc (.cells (cel zeroB).toArray 31)).heap.size ((w.alloc (.cells (cel zeroB).toArray 31)).alloc (.cells (cel zeroB).toArray 31)) w1) :
    PutW w.heap.size w (w1.alloc (.cells (partsA (w.heap.size + 1)) 77)) w.heap.size (w.heap.size + 1) w1.heap.size zeroB.toList := by
  have h1 := (Below.refl w.heap.size w).alloc (Nat.le_refl _) (.cells (cel zeroB).toArray 31)
  have h2 := h1.alloc h1.size (.cells (cel zeroB).toArray 31)
  have hs := hb.size
  simp only [World.size_alloc] at hs
  have hr : RowL w1 w.heap.size 31 zeroB.toList := RowL.below ((RowL.blk w zeroB 31).past _) (by simp only [World.size_alloc]; omega) hb
  have hg : RowL w1 (w.heap.size + 1) 31 zeroB.toList := RowL.below (by have := RowL.blk (w.alloc (.cells (cel zeroB).toArray 31)) zeroB 31; rwa [World.size_alloc] at this) (by simp only [World.size_alloc]; omega) hb
  have hbel : Below w.heap.size w w1 := h2.trans (hb.mono (by simp only [World.size_alloc]; omega))
  exact ⟨hr.past _, hg.past _, heap_alloc_new w1 _, hbel.alloc (by omega) _, Nat.le_refl _, by omega, by omega, by omega⟩
set_option maxHeartbeats 4000000 in
theorem put_yes (n m c N : Nat) (A : Option Addr) (b : List UInt8) (w : World) (T : Tab w) (hn : n < 18446744073709551616) (h0 : 0 < n) (hb : Rd w N A m b) (hN : N ≤ w.heap.size) (hm : m ≤ 44) :
    Calls Tryd.prog 25 #[.int .u64 n, .slice A m c] w fun e w' => e = .returned (.tuple #[blk (putB n b), .int .i64 (putE n b : Nat)]) ∧ Below w.heap.size w w' := by
  have hl := hb.1
  have hbl : b.length ≤ 44 := by omega
  have hE : putE n b = 0 := putE_ok (by omega) hbl
  have hB : putB n b = ofL (sealL n b) := putB_ok hE
  rw [hE, hB]
  have HS := Lib.hid (noSum_seal (n := n) hbl)
  have HH := Lib.hid (noSum_head (n := n) hbl)
  have HL := Lib.hid (noSum_length (n := n) hbl)
  have HL64 := Lib.hid (sealL_length n hbl)
  have HC := Lib.hid (more_lt (s := 0) (by omega) (headL n b))
  have HT := Lib.hid T
  have HR := Lib.hid hb
  have HB := Lib.hid hl
  have HN := Lib.hid hn
  have HNN := Lib.hid hN
  clear hE hB T hb hl hbl hn hN
  have hz : ((n : Int) == 0) = false := by simp; omega
  go_enter Tryd.func25, Tryd.ntmps25
  go_wp2_with (first | (refine wpList_val rfl (exec_alloc rfl) ?_) | fail)
  refine (cut_any (w.heap.size + 1) _).mono ?_
  rintro e w1 ⟨rfl, hb1⟩
  have hW := putW_start w w1 hb1
  have HBW := Lib.hid hb1.size
  clear hb1
  have HFP := HBW.out
  obtain ⟨c0, c1, c2, c3, c4⟩ := hW.par.cells
  obtain ⟨g, hg⟩ : ∃ g, w.heap.size + 1 = g := ⟨_, rfl⟩
  rw [hg] at hW c0 c1 c2 c3 c4
  rw [hg]
  have HGG := Lib.hid hg
  clear HFP hg
  have HW := Lib.hid hW
  clear hW
  go_wp2_with (first | (refine wpList_nul rfl (exec_fillP g rfl rfl rfl) ?_) | fail)
  clear c0 c1 c2 c3 c4 HBW HGG
  have HN8 := HN.out
  refine (lay_any g 0 8 n 31 zeroB.toList _ HW.out.row (by omega) (by omega) (by simp) (by simpa using HN8)).mono ?_
  rintro e w2 ⟨rfl, hr2, hg2⟩
  have HW2 := Lib.hid (HW.out.turn hr2 hg2 (Nat.le_refl _))
  clear hr2 hg2 HW
  obtain ⟨c0, c1, c2, c3, c4⟩ := HW2.out.par.cells
  generalize w1.heap.size = p at *
  obtain ⟨r, hr⟩ : ∃ r, r = w.heap.size := ⟨_, rfl⟩
  have HRR := Lib.hid hr
  rw [← hr] at HNN HW2 ⊢
  clear hr
  clear HN8
  go_wp2_with fail
  clear c0 c1 c2 c3 c4
  have HN8 := HN.out
  refine (lay_any g 56 8 n 31 _ _ HW2.out.row (by omega) (by omega) (by rw [noSum_1]; omega) (by simpa using HN8)).mono ?_
  rintro e w3 ⟨rfl, hr3, hg3⟩
  have HW3 := Lib.hid (HW2.out.turn hr3 hg3 (Nat.le_of_eq HRR.out))
  clear hr3 hg3 HW2 HN8
  obtain ⟨c0, c1, c2, c3, c4⟩ := HW3.out.par.cells
  have HR3 := Lib.hid (HR.out.below (HW3.out.bel.mono HNN.out))
  have HL2 := Lib.hid (noSum_2 n)
  obtain ⟨l2, hl2⟩ : ∃ l2, splice (splice zeroB.toList 0 (digL 8 8 n)) 56 (digL 8 8 n) = l2 := ⟨_, rfl⟩
  have HNS : Hid (splice l2 8 b = noSum n b) := Lib.hid (by rw [← hl2]; rfl)
  rw [hl2] at HW3 HL2
  clear hl2
  go_wp2_with (with_reducible refine wpList_copyL rfl _ _ rfl g 8 44 44 m c N A 31 l2 b rfl rfl HW3.out.row HR3.out hm ?c1 ?_)
  case c1 => rw [HL2.out]; omega
  intro w4 hr4 hg4
  rw [HNS.out] at hr4
  have HW4 := Lib.hid (HW3.out.turn hr4 hg4 (Nat.le_of_eq HRR.out))
  clear hr4 hg4 HW3 HR3 HL2 c0 c1 c2 c3 c4
  go_wp2_with fail
  refine wp_region_held (S := fun w' => Hid (PutW r w w' r g p (noSum n b) ∨ PutW r w w' r g p (sealL n b))) (by kernel_rfl) ?_
  change wpAnyH _ _ _ _ _ 7 _ _ w4.drew
  have hS : Hid (PutW r w w4.drew r g p (noSum n b) ∨ PutW r w w4.drew r g p (sealL n b)) := Lib.hid (.inl HW4.out.draw)
  refine held_val 0 rfl (by kernel_rfl) (by kernel_rfl) (by kernel_rfl) rfl (fun w' hw => exec_faddr rfl (ev rfl) faP2) (fun _ _ _ h => h) hS ?_
  simp only [Act.put, List.setIfInBounds_toArray, List.set_cons_succ, List.set_cons_zero]
  refine held_val 1 rfl (by kernel_rfl) (by kernel_rfl) (by kernel_rfl) rfl (fun w' hw => exec_ld rfl (ev rfl) (ldS (hw.out.elim (fun h => h.par.cells.2.2.1) (fun h => h.par.cells.2.2.1)))) (fun _ _ _ h => h) hS ?_
  simp only [Act.put, List.setIfInBounds_toArray, List.set_cons_succ, List.set_cons_zero]
  refine held_val 2 rfl (by kernel_rfl) (by kernel_rfl) (by kernel_rfl) rfl (fun w' hw => exec_faddr rfl (ev rfl) faP4) (fun _ _ _ h => h) hS ?_
  simp only [Act.put, List.setIfInBounds_toArray, List.set_cons_succ, List.set_cons_zero]
  refine held_val 3 rfl (by kernel_rfl) (by kernel_rfl) (by kernel_rfl) rfl (fun w' hw => exec_ld rfl (ev rfl) (ldS (hw.out.elim (fun h => h.par.cells.2.2.2.2) (fun h => h.par.cells.2.2.2.2)))) (fun _ _ _ h => h) hS ?_
  simp only [Act.put, List.setIfInBounds_toArray, List.set_cons_succ, List.set_cons_zero]
  refine held_call 4 rfl (by kernel_rfl) rfl (exec_cl Tryd.call48 rfl (evc (ev rfl) evn)) ?_
  have T4 : Tab w4.drew := (HT.out.below (by rw [← HRR.out]; exact HW4.out.draw.bel))
  have R4 := HW4.out.draw.row.rd (p := 0) (k := 52) (by rw [HL.out]; omega)
  rw [HH.out] at R4
  refine (of_any _ 52 52 _ (headL n b) _ T4 R4 (by unfold maxLen; omega)).mono ?_
  rintro e w' ⟨rfl, rfl⟩
  refine ⟨_, rfl, hS, ?_⟩
  simp only [Act.put, List.setIfInBounds_toArray, List.set_cons_succ, List.set_cons_zero]
  clear T4 R4
  refine held_val 5 rfl (by kernel_rfl) (by kernel_rfl) (by kernel_rfl) rfl (fun w' hw => exec_cv32 rfl (ev rfl) HC.out) (fun _ _ _ h => h) hS ?_
  simp only [Act.put, List.setIfInBounds_toArray, List.set_cons_succ, List.set_cons_zero]
  refine held_call 6 rfl (by kernel_rfl) rfl (exec_cl Tryd.call47 rfl (evc (ev rfl) (evc (ev rfl) evn))) ?_
  refine (lay_any g 52 4 (more 0 (headL n b)) 31 _ _ HW4.out.draw.row (by omega) (by omega) (by rw [HL.out]; omega) (by have := HC.out; simpa using this)).mono ?_
  rintro e w5 ⟨rfl, hr5, hg5⟩
  rw [HS.out] at hr5
  have HW5 := Lib.hid (HW4.out.draw.turn hr5 hg5 (Nat.le_of_eq HRR.out))
  refine ⟨_, rfl, Lib.hid (.inr HW5.out), ?_⟩
  simp only [Act.put, List.setIfInBounds_toArray, List.set_cons_succ, List.set_cons_zero]
  clear hr5 hg5 hS HW4
  refine wpAnyH_done (by kernel_rfl) ?_ _
  have HG := Lib.hid (HW5.out.row.range HL64.out)
  have HTH : Hid (w5.there r 0 64) := Lib.hid (there_row HW5.out.res.row (by simp))
  have HBB : Hid (Below w.heap.size w w5) := Lib.hid (by rw [← HRR.out]; exact HW5.out.bel)
  go_wp2_with (first | (refine wpList_val rfl (exec_load rfl rfl HG.out) ?_) | (refine wpList_nul rfl (exec_store rfl rfl rfl HTH.out) ?_) | fail)
  refine bodyPost_ret (res_blk2 rfl _ _ _ rfl (World.rangeAt_setCells_same _ _ _ _ (by rw [cel_length]; exact HTH.out))) rfl ⟨rfl, below_setCells HBB.out (Nat.le_of_eq HRR.out.symm) _⟩

/-- The program's Put, whatever it is given. -/
theorem put_all (n m c N : Nat) (A : Option Addr) (b : List UInt8) (w : World) (T : Tab w) (hn : n < 18446744073709551616) (hb : Rd w N A m b) (hN : N ≤ w.heap.size) (hm : m ≤ maxLen) :
    Calls Tryd.prog 25 #[.int .u64 n, .slice A m c] w fun e w' => e = .returned (.tuple #[blk (putB n b), .int .i64 (putE n b : Nat)]) ∧ Below w.heap.size w w' := by
  by_cases h0 : n = 0
  · subst h0
    exact put_arg m c A b w hb.1
  · by_cases h44 : m ≤ 44
    · exact put_yes n m c N A b w T hn (by omega) hb hN h44
    · exact put_long n m c A b w hb.1 (by omega) (by omega) hm
end Go.Proofs.YtiilclncedipiaaDoor
namespace Go.Proofs.YtiilclncedipiaaDoor
open Go.RowKit
set_option linter.unusedVariables false
set_option maxRecDepth 100000

/-- A body that was got: none, or a row of the call's own, its room filled. -/
def Bod (w : World) (B : Nat) (v : Value) (l : List UInt8) : Prop := (v = .slice none 0 0 ∧ l = []) ∨ ∃ g, v = .slice (some ⟨g, 0, none⟩) l.length l.length ∧ B ≤ g ∧ RowL w g 5 l ∧ l.length ≤ maxLen
theorem Bod.made {w : World} {B : Nat} {v : Value} {l : List UInt8} (h : Bod w B v l) : Made w B v l := by
  rcases h with ⟨rfl, rfl⟩ | ⟨g, rfl, hg, hr, hm⟩
  · exact World.ownsRow_nil _ _ _ _
  · exact (hr.own hg hm).made
theorem Bod.below {w w' : World} {B : Nat} {v : Value} {l : List UInt8} (h : Bod w B v l) (hb : Below w.heap.size w w') : Bod w' B v l := by
  rcases h with ⟨rfl, rfl⟩ | ⟨g, rfl, hg, hr, hm⟩
  · exact .inl ⟨rfl, rfl⟩
  · exact .inr ⟨g, rfl, hg, hr.below hr.lt hb, hm⟩
/-- What stands while a sector is got. -/
structure GetW (B : Nat) (w w' : World) (g p : Nat) (l : List UInt8) : Prop where
  row : RowL w' g 31 l
  par : PartsAt w' p g
  bel : Below B w w'
  tab : Tab w'
theorem GetW.below {B : Nat} {w w1 w2 : World} {g p : Nat} {l : List UInt8} (h : GetW B w w1 g p l) (hb : Below w1.heap.size w1 w2) (hB : B ≤ w.heap.size) : GetW B w w2 g p l :=
  ⟨h.row.below h.row.lt hb, h.par.below (blk_lt h.par) hb, h.bel.trans (hb.mono (Nat.le_trans hB h.bel.size)), h.tab.below hb⟩
theorem getW_start (w w1 : World) (b : Blk) (hbA : Below w.heap.size w (w.alloc (.cells (cel b).toArray 31))) (hT : Tab (w.alloc (.cells (cel b).toArray 31))) (hb : Below (w.alloc (.cells (cel b).toArray 31)).heap.size (w.alloc (.cells (cel b).toArray 31)) w1) :
    GetW w.heap.size w (w1.alloc (.cells (partsA w.heap.size) 77)) w.heap.size w1.heap.size b.toList := by
  have hs := hb.size
  simp only [World.size_alloc] at hs
  have hr : RowL w1 w.heap.size 31 b.toList := (RowL.blk w b 31).below (by simp only [World.size_alloc]; omega) hb
  have hbel : Below w.heap.size w w1 := hbA.trans (hb.mono (by simp only [World.size_alloc]; omega))
  exact ⟨hr.past _, heap_alloc_new w1 _, hbel.alloc (by omega) _, (hT.below hb).below ((Below.refl _ _).alloc (Nat.le_refl _) _)⟩
/-- told, of a piece of a block, in whatever later world. -/
theorem told_above {W w' : World} {g : Nat} {t : TypeId} {l : List UInt8} (h : RowL W g t l) (hb : Below W.heap.size W w') (off k : Nat) (hk : off + k ≤ l.length) (h1 : 1 ≤ k) (h8 : k ≤ 8) :
    Calls Tryd.prog 55 #[.slice (some ⟨g, off, none⟩) k k] w' fun e w'' => e = .returned (.int .u64 (val 8 (piece l off k) : Nat)) ∧ Below w'.heap.size w' w'' :=
  (told_any _ k k _ _ w' ((h.below h.lt hb).rd hk) h1 h8).mono fun e w'' ⟨he, hw⟩ => ⟨he, by subst hw; exact Below.refl _ _⟩
theorem of_above {W w' : World} {g : Nat} {t : TypeId} {l : List UInt8} (h : RowL W g t l) (T : Tab W) (hb : Below W.heap.size W w') (off k : Nat) (hk : off + k ≤ l.length) (hm : k ≤ maxLen) :
    Calls Tryd.prog 48 #[.slice (some ⟨g, off, none⟩) k k] w' fun e w'' => e = .returned (.int .u32 (more 0 (piece l off k) : Nat)) ∧ Below w'.heap.size w' w'' :=
  (of_any _ k k _ _ w' (T.below hb) ((h.below h.lt hb).rd hk) hm).mono fun e w'' ⟨he, hw⟩ => ⟨he, by subst hw; exact Below.refl _ _⟩
theorem exec_neU {ρ : Operand → Value} {o : Oper} {x y : Operand} {w : World} {t r : TypeId} {a b : Nat} (c : Bool) (ho : o.op = .binOp .neq t x y r) (hx : ρ x = .int .u64 (a : Int)) (hy : ρ y = .int .u64 (b : Int)) (h : ((a : Int) != (b : Int)) = c) : (execOp ρ o).run Tryd.prog w = .ok (.value (.bool c)) w := exec_neInt c ho hx hy h
theorem splice_all (l : List UInt8) (n : Nat) (h : l.length = n) : splice (List.replicate n 0) 0 l = l := by
  subst h
  simp [splice]
def nil44 : List UInt8 := List.replicate 44 0
theorem splice_44 {l : List UInt8} (h : l.length = 44) : splice nil44 0 l = l := splice_all l 44 h
/-- The room for a body. -/
def row44 : Array Value := (vals (List.replicate 44 0)).toArray
theorem make44 (w : World) : (Instr.makeSlice 39 (.int .i64 44) (.int .i64 44)).run Tryd.prog w = .ok (.slice (some ⟨w.heap.size, 0, none⟩) 44 44) (w.alloc (.cells row44 5)) := by kernel_rfl

set_option maxHeartbeats 4000000 in
theorem pget_zero (b : Blk) (B : Nat) (w : World) (HB : Hid (B = w.heap.size)) (T : Tab w) (h0 : numO b.toList = 0) :
    Calls Tryd.prog 32 #[blk b] w fun e w' => ∃ v, e = .returned (.tuple #[.int .u64 (getN b.toList : Nat), v, .int .i64 (getE b.toList : Nat)]) ∧ Bod w' B v (getB b.toList) ∧ Below B w w' := by
  have hA := RowL.blk w b 31
  have hbA := (Below.refl w.heap.size w).alloc (Nat.le_refl _) (.cells (cel b).toArray 31)
  have HTA := Lib.hid (T.below hbA)
  have HA := Lib.hid hA
  have HBA := Lib.hid hbA
  have HL := Lib.hid (toList_len b)
  have hE := getE_form (.inl h0)
  have HE := Lib.hid hE
  have HN := Lib.hid (getN_no (l := b.toList) (by omega))
  have HBB := Lib.hid (getB_no (l := b.toList) (by omega))
  have HX : Hid (val 8 (piece b.toList 0 8) = 0) := Lib.hid h0
  clear hE h0
  clear hA hbA T
  go_enter Tryd.func32, Tryd.ntmps32
  go_wp2_with (first | (refine wpList_val rfl (exec_box rfl rfl) ?_) | fail)
  refine (cut_any w.heap.size _).mono ?_
  rintro e w1 ⟨rfl, hb1⟩
  have HG := Lib.hid (getW_start w w1 b HBA.out HTA.out hb1)
  clear HTA HA HBA hb1
  obtain ⟨g, hg⟩ : ∃ g, w.heap.size = g := ⟨_, rfl⟩
  have HGE := Lib.hid (Nat.le_of_eq hg.symm)
  rw [hg] at HG HB
  rw [hg]
  clear hg
  obtain ⟨c0, c1, c2, c3, c4⟩ := HG.out.par.cells
  go_wp2_with (first | (refine wpList_nul rfl (exec_fillP g rfl rfl rfl) ?_) | fail)
  clear c0 c1 c2 c3 c4
  generalize w1.heap.size = p at *
  generalize w1.alloc (.cells (partsA g) 77) = w2 at *
  obtain ⟨c0, c1, c2, c3, c4⟩ := HG.out.par.cells
  have hr0 := HG.out.row.rd (p := 0) (k := 8) (by rw [HL.out]; omega)
  refine (told_any _ 8 8 _ _ _ hr0 (by omega) (by omega)).mono ?_
  rintro e w3 ⟨rfl, rfl⟩
  clear hr0
  rw [HX.out]
  go_wp2_with fail
  refine bodyPost_ret (v := .tuple #[.int .u64 0, .slice none 0 0, .int .i64 5]) (by simp [results, Tryd.results32, go_sem]) rfl ⟨_, by rw [HE.out, HN.out]; rfl, .inl ⟨rfl, HBB.out⟩, by rw [HB.out]; exact HG.out.bel⟩
set_option maxHeartbeats 4000000 in
theorem pget_unlike (b : Blk) (B : Nat) (w : World) (HB : Hid (B = w.heap.size)) (T : Tab w) (h0 : numO b.toList ≠ 0) (h1 : numO b.toList ≠ agO b.toList) :
    Calls Tryd.prog 32 #[blk b] w fun e w' => ∃ v, e = .returned (.tuple #[.int .u64 (getN b.toList : Nat), v, .int .i64 (getE b.toList : Nat)]) ∧ Bod w' B v (getB b.toList) ∧ Below B w w' := by
  have hA := RowL.blk w b 31
  have hbA := (Below.refl w.heap.size w).alloc (Nat.le_refl _) (.cells (cel b).toArray 31)
  have HTA := Lib.hid (T.below hbA)
  have HA := Lib.hid hA
  have HBA := Lib.hid hbA
  have HL := Lib.hid (toList_len b)
  have hE := getE_form (.inr h1)
  have HE := Lib.hid hE
  have HN := Lib.hid (getN_no (l := b.toList) (by omega))
  have HBB := Lib.hid (getB_no (l := b.toList) (by omega))
  obtain ⟨x, hx⟩ : ∃ x, numO b.toList = x := ⟨_, rfl⟩
  obtain ⟨y, hy⟩ : ∃ y, agO b.toList = y := ⟨_, rfl⟩
  rw [hx] at h0 h1
  rw [hy] at h1
  have hz : ((x : Int) == 0) = false := by simp; omega
  have hn : ((x : Int) != (y : Int)) = true := by simp; omega
  have HX : Hid (val 8 (piece b.toList 0 8) = x) := Lib.hid hx
  have HY : Hid (val 8 (piece b.toList 56 8) = y) := Lib.hid hy
  clear hE h0 h1 hx hy
  clear hA hbA T
  go_enter Tryd.func32, Tryd.ntmps32
  go_wp2_with (first | (refine wpList_val rfl (exec_box rfl rfl) ?_) | fail)
  refine (cut_any w.heap.size _).mono ?_
  rintro e w1 ⟨rfl, hb1⟩
  have HG := Lib.hid (getW_start w w1 b HBA.out HTA.out hb1)
  clear HTA HA HBA hb1
  obtain ⟨g, hg⟩ : ∃ g, w.heap.size = g := ⟨_, rfl⟩
  have HGE := Lib.hid (Nat.le_of_eq hg.symm)
  rw [hg] at HG HB
  rw [hg]
  clear hg
  obtain ⟨c0, c1, c2, c3, c4⟩ := HG.out.par.cells
  go_wp2_with (first | (refine wpList_nul rfl (exec_fillP g rfl rfl rfl) ?_) | fail)
  clear c0 c1 c2 c3 c4
  generalize w1.heap.size = p at *
  generalize w1.alloc (.cells (partsA g) 77) = w2 at *
  obtain ⟨c0, c1, c2, c3, c4⟩ := HG.out.par.cells
  have hr0 := HG.out.row.rd (p := 0) (k := 8) (by rw [HL.out]; omega)
  refine (told_any _ 8 8 _ _ _ hr0 (by omega) (by omega)).mono ?_
  rintro e w3 ⟨rfl, rfl⟩
  clear hr0
  rw [HX.out]
  go_wp2_with fail
  have hr3 := HG.out.row.rd (p := 56) (k := 8) (by rw [HL.out]; omega)
  refine (told_any _ 8 8 _ _ _ hr3 (by omega) (by omega)).mono ?_
  rintro e w3 ⟨rfl, rfl⟩
  clear hr3
  rw [HY.out]
  go_wp2_with fail
  refine bodyPost_ret (v := .tuple #[.int .u64 0, .slice none 0 0, .int .i64 5]) (by simp [results, Tryd.results32, go_sem]) rfl ⟨_, by rw [HE.out, HN.out]; rfl, .inl ⟨rfl, HBB.out⟩, by rw [HB.out]; exact HG.out.bel⟩
set_option maxHeartbeats 4000000 in
theorem pget_sum (b : Blk) (B : Nat) (w : World) (HB : Hid (B = w.heap.size)) (T : Tab w) (h0 : numO b.toList ≠ 0) (h1 : numO b.toList = agO b.toList) (h2 : sumO b.toList ≠ crcO b.toList) :
    Calls Tryd.prog 32 #[blk b] w fun e w' => ∃ v, e = .returned (.tuple #[.int .u64 (getN b.toList : Nat), v, .int .i64 (getE b.toList : Nat)]) ∧ Bod w' B v (getB b.toList) ∧ Below B w w' := by
  have hA := RowL.blk w b 31
  have hbA := (Below.refl w.heap.size w).alloc (Nat.le_refl _) (.cells (cel b).toArray 31)
  have HTA := Lib.hid (T.below hbA)
  have HA := Lib.hid hA
  have HBA := Lib.hid hbA
  have HL := Lib.hid (toList_len b)
  have hE := getE_sum h0 h1 h2
  have HE := Lib.hid hE
  have HN := Lib.hid (getN_no (l := b.toList) (by omega))
  have HBB := Lib.hid (getB_no (l := b.toList) (by omega))
  obtain ⟨x, hx⟩ : ∃ x, numO b.toList = x := ⟨_, rfl⟩
  rw [hx] at h0
  have HX : Hid (val 8 (piece b.toList 0 8) = x) := Lib.hid hx
  have HY : Hid (val 8 (piece b.toList 56 8) = x) := Lib.hid (by rw [← hx]; exact h1.symm)
  have HS4 := Lib.hid (sumO_lt (toList_len b))
  have HCL := Lib.hid (crcO_lt b.toList)
  have hz : ((x : Int) == 0) = false := by simp; omega
  have hn : ((x : Int) != (x : Int)) = false := by simp
  have hc : ((sumO b.toList : Nat) : Int) != ((crcO b.toList : Nat) : Int) := by simp; omega
  clear hE h0 h1 hx h2
  clear hA hbA T
  go_enter Tryd.func32, Tryd.ntmps32
  go_wp2_with (first | (refine wpList_val rfl (exec_box rfl rfl) ?_) | fail)
  refine (cut_any w.heap.size _).mono ?_
  rintro e w1 ⟨rfl, hb1⟩
  have HG := Lib.hid (getW_start w w1 b HBA.out HTA.out hb1)
  clear HTA HA HBA hb1
  obtain ⟨g, hg⟩ : ∃ g, w.heap.size = g := ⟨_, rfl⟩
  have HGE := Lib.hid (Nat.le_of_eq hg.symm)
  rw [hg] at HG HB
  rw [hg]
  clear hg
  obtain ⟨c0, c1, c2, c3, c4⟩ := HG.out.par.cells
  go_wp2_with (first | (refine wpList_nul rfl (exec_fillP g rfl rfl rfl) ?_) | fail)
  clear c0 c1 c2 c3 c4
  generalize w1.heap.size = p at *
  generalize w1.alloc (.cells (partsA g) 77) = w2 at *
  obtain ⟨c0, c1, c2, c3, c4⟩ := HG.out.par.cells
  have hr0 := HG.out.row.rd (p := 0) (k := 8) (by rw [HL.out]; omega)
  refine (told_any _ 8 8 _ _ _ hr0 (by omega) (by omega)).mono ?_
  rintro e w3 ⟨rfl, rfl⟩
  clear hr0
  rw [HX.out]
  go_wp2_with fail
  have hr3 := HG.out.row.rd (p := 56) (k := 8) (by rw [HL.out]; omega)
  refine (told_any _ 8 8 _ _ _ hr3 (by omega) (by omega)).mono ?_
  rintro e w3 ⟨rfl, rfl⟩
  clear hr3
  rw [HY.out]
  go_wp2_with fail
  clear c0 c1 c2 c3 c4
  have hle : w2.heap.size ≤ w2.heap.size := Nat.le_refl _
  refine wp_region_above (B := w2.heap.size) (by kernel_rfl) ?_
  refine qv_val rfl (fun w' hw => exec_faddr rfl (ev rfl) faP2) ?_
  simp only [Act.put, List.setIfInBounds_toArray, List.set_cons_succ, List.set_cons_zero]
  refine qv_val rfl (fun w' hw => exec_ld rfl (ev rfl) (ldS (HG.out.par.below (blk_lt HG.out.par) hw).cells.2.2.1)) ?_
  simp only [Act.put, List.setIfInBounds_toArray, List.set_cons_succ, List.set_cons_zero]
  refine qv_call rfl (fun _ => exec_cl Tryd.call55 rfl (evc (ev rfl) evn)) (above_of hle fun w' hw => told_above HG.out.row hw 52 4 (by rw [HL.out]; omega) (by omega) (by omega)) ?_
  simp only [Act.put, List.setIfInBounds_toArray, List.set_cons_succ, List.set_cons_zero]
  refine qv_val rfl (fun w' hw => exec_faddr rfl (ev rfl) faP4) ?_
  simp only [Act.put, List.setIfInBounds_toArray, List.set_cons_succ, List.set_cons_zero]
  refine qv_val rfl (fun w' hw => exec_ld rfl (ev rfl) (ldS (HG.out.par.below (blk_lt HG.out.par) hw).cells.2.2.2.2)) ?_
  simp only [Act.put, List.setIfInBounds_toArray, List.set_cons_succ, List.set_cons_zero]
  refine qv_call rfl (fun _ => exec_cl Tryd.call48 rfl (evc (ev rfl) evn)) (above_of hle fun w' hw => of_above HG.out.row HG.out.tab hw 0 52 (by rw [HL.out]; omega) (by unfold maxLen; omega)) ?_
  simp only [Act.put, List.setIfInBounds_toArray, List.set_cons_succ, List.set_cons_zero]
  refine qv_val rfl (fun w' hw => exec_cv32 rfl (ev rfl) HCL.out) ?_
  simp only [Act.put, List.setIfInBounds_toArray, List.set_cons_succ, List.set_cons_zero]
  refine qv_val rfl (fun w' hw => exec_neU true rfl (ev rfl) (ev rfl) hc) ?_
  simp only [Act.put, List.setIfInBounds_toArray, List.set_cons_succ, List.set_cons_zero]
  refine wpQuiet_nil ?_
  intro w3 hb3
  have HG3 := Lib.hid (HG.out.below hb3 HGE.out)
  clear hb3 HG
  go_wp2_with fail
  refine bodyPost_ret (v := .tuple #[.int .u64 0, .slice none 0 0, .int .i64 6]) (by simp [results, Tryd.results32, go_sem]) rfl ⟨_, by rw [HE.out, HN.out]; rfl, .inl ⟨rfl, HBB.out⟩, by rw [HB.out]; exact HG3.out.bel⟩
set_option maxHeartbeats 4000000 in
theorem pget_ok (b : Blk) (B : Nat) (w : World) (HB : Hid (B = w.heap.size)) (T : Tab w) (h0 : numO b.toList ≠ 0) (h1 : numO b.toList = agO b.toList) (h2 : sumO b.toList = crcO b.toList) :
    Calls Tryd.prog 32 #[blk b] w fun e w' => ∃ v, e = .returned (.tuple #[.int .u64 (getN b.toList : Nat), v, .int .i64 (getE b.toList : Nat)]) ∧ Bod w' B v (getB b.toList) ∧ Below B w w' := by
  have hA := RowL.blk w b 31
  have hbA := (Below.refl w.heap.size w).alloc (Nat.le_refl _) (.cells (cel b).toArray 31)
  have HTA := Lib.hid (T.below hbA)
  have HA := Lib.hid hA
  have HBA := Lib.hid hbA
  have HL := Lib.hid (toList_len b)
  have hE := getE_ok h0 h1 h2
  have HE := Lib.hid hE
  have HN := Lib.hid (getN_of hE)
  have HBB := Lib.hid (getB_of hE)
  obtain ⟨x, hx⟩ : ∃ x, numO b.toList = x := ⟨_, rfl⟩
  rw [hx] at h0
  have HX : Hid (val 8 (piece b.toList 0 8) = x) := Lib.hid hx
  have HY : Hid (val 8 (piece b.toList 56 8) = x) := Lib.hid (by rw [← hx]; exact h1.symm)
  have HS4 := Lib.hid (sumO_lt (toList_len b))
  have HCL := Lib.hid (crcO_lt b.toList)
  have hz : ((x : Int) == 0) = false := by simp; omega
  have hn : ((x : Int) != (x : Int)) = false := by simp
  have hc : (((sumO b.toList : Nat) : Int) != ((crcO b.toList : Nat) : Int)) = false := by rw [h2]; simp
  have HXX := Lib.hid hx
  clear hE h0 h1 hx h2
  clear hA hbA T
  go_enter Tryd.func32, Tryd.ntmps32
  go_wp2_with (first | (refine wpList_val rfl (exec_box rfl rfl) ?_) | fail)
  refine (cut_any w.heap.size _).mono ?_
  rintro e w1 ⟨rfl, hb1⟩
  have HG := Lib.hid (getW_start w w1 b HBA.out HTA.out hb1)
  clear HTA HA HBA hb1
  obtain ⟨g, hg⟩ : ∃ g, w.heap.size = g := ⟨_, rfl⟩
  have HGE := Lib.hid (Nat.le_of_eq hg.symm)
  rw [hg] at HG HB
  rw [hg]
  clear hg
  obtain ⟨c0, c1, c2, c3, c4⟩ := HG.out.par.cells
  go_wp2_with (first | (refine wpList_nul rfl (exec_fillP g rfl rfl rfl) ?_) | fail)
  clear c0 c1 c2 c3 c4
  generalize w1.heap.size = p at *
  generalize w1.alloc (.cells (partsA g) 77) = w2 at *
  obtain ⟨c0, c1, c2, c3, c4⟩ := HG.out.par.cells
  have hr0 := HG.out.row.rd (p := 0) (k := 8) (by rw [HL.out]; omega)
  refine (told_any _ 8 8 _ _ _ hr0 (by omega) (by omega)).mono ?_
  rintro e w3 ⟨rfl, rfl⟩
  clear hr0
  rw [HX.out]
  go_wp2_with fail
  have hr3 := HG.out.row.rd (p := 56) (k := 8) (by rw [HL.out]; omega)
  refine (told_any _ 8 8 _ _ _ hr3 (by omega) (by omega)).mono ?_
  rintro e w3 ⟨rfl, rfl⟩
  clear hr3
  rw [HY.out]
  go_wp2_with fail
  clear c0 c1 c2 c3 c4
  have hle : w2.heap.size ≤ w2.heap.size := Nat.le_refl _
  refine wp_region_above (B := w2.heap.size) (by kernel_rfl) ?_
  refine qv_val rfl (fun w' hw => exec_faddr rfl (ev rfl) faP2) ?_
  simp only [Act.put, List.setIfInBounds_toArray, List.set_cons_succ, List.set_cons_zero]
  refine qv_val rfl (fun w' hw => exec_ld rfl (ev rfl) (ldS (HG.out.par.below (blk_lt HG.out.par) hw).cells.2.2.1)) ?_
  simp only [Act.put, List.setIfInBounds_toArray, List.set_cons_succ, List.set_cons_zero]
  refine qv_call rfl (fun _ => exec_cl Tryd.call55 rfl (evc (ev rfl) evn)) (above_of hle fun w' hw => told_above HG.out.row hw 52 4 (by rw [HL.out]; omega) (by omega) (by omega)) ?_
  simp only [Act.put, List.setIfInBounds_toArray, List.set_cons_succ, List.set_cons_zero]
  refine qv_val rfl (fun w' hw => exec_faddr rfl (ev rfl) faP4) ?_
  simp only [Act.put, List.setIfInBounds_toArray, List.set_cons_succ, List.set_cons_zero]
  refine qv_val rfl (fun w' hw => exec_ld rfl (ev rfl) (ldS (HG.out.par.below (blk_lt HG.out.par) hw).cells.2.2.2.2)) ?_
  simp only [Act.put, List.setIfInBounds_toArray, List.set_cons_succ, List.set_cons_zero]
  refine qv_call rfl (fun _ => exec_cl Tryd.call48 rfl (evc (ev rfl) evn)) (above_of hle fun w' hw => of_above HG.out.row HG.out.tab hw 0 52 (by rw [HL.out]; omega) (by unfold maxLen; omega)) ?_
  simp only [Act.put, List.setIfInBounds_toArray, List.set_cons_succ, List.set_cons_zero]
  refine qv_val rfl (fun w' hw => exec_cv32 rfl (ev rfl) HCL.out) ?_
  simp only [Act.put, List.setIfInBounds_toArray, List.set_cons_succ, List.set_cons_zero]
  refine qv_val rfl (fun w' hw => exec_neU false rfl (ev rfl) (ev rfl) hc) ?_
  simp only [Act.put, List.setIfInBounds_toArray, List.set_cons_succ, List.set_cons_zero]
  refine wpQuiet_nil ?_
  intro w3 hb3
  have HG3 := Lib.hid (HG.out.below hb3 HGE.out)
  clear hb3 HG
  have HG4 := Lib.hid (HG3.out.below ((Below.refl w3.heap.size w3).alloc (Nat.le_refl _) (.cells row44 5)) HGE.out)
  obtain ⟨c0, c1, c2, c3, c4⟩ := HG4.out.par.cells
  have HNEW : Hid (RowL (w3.alloc (.cells row44 5)) w3.heap.size 5 nil44) := Lib.hid (RowL.new w3 nil44 _)
  have HSRC := Lib.hid (HG4.out.row.rd (p := 8) (k := 44) (by rw [HL.out]; omega))
  have HPL : Hid ((piece b.toList 8 44).length = 44) := Lib.hid (length_piece (by rw [HL.out]; omega))
  have HW3 := Lib.hid (Nat.le_trans HGE.out HG3.out.bel.size)
  clear HG3
  obtain ⟨q, hq⟩ : ∃ q, w3.heap.size = q := ⟨_, rfl⟩
  rw [hq] at HNEW HW3
  have HQ := Lib.hid hq
  generalize hw4 : w3.alloc (.cells row44 5) = w4 at *
  have HM : Hid (∀ w : World, w = w3 → (Instr.makeSlice 39 (.int .i64 44) (.int .i64 44)).run Tryd.prog w = .ok (.slice (some ⟨q, 0, none⟩) 44 44) w4) := Lib.hid (fun w e => by subst e; rw [make44, hq, hw4])
  have hmk := HM.out w3 rfl
  clear hq hw4
  go_wp2_with (with_reducible refine wpList_copyL rfl _ _ rfl q 0 44 44 44 44 _ _ 5 _ (piece b.toList 8 44) rfl rfl HNEW.out HSRC.out (Nat.le_refl _) ?c1 ?_)
  case c1 => simp [nil44]
  intro w5 hr5 hg5
  rw [splice_44 HPL.out] at hr5
  have HB5 := Lib.hid (HG4.out.bel.grown hg5 (Nat.le_trans HGE.out HG4.out.bel.size) (fun k hk => by injection hk with e; subst e; exact HW3.out))
  have HR5 := Lib.hid hr5
  clear hr5 hg5 c0 c1 c2 c3 c4
  go_wp2_with fail
  refine bodyPost_ret (v := .tuple #[.int .u64 (x : Int), .slice (some ⟨q, 0, none⟩) 44 44, .int .i64 0]) (by simp [results, Tryd.results32, go_sem]) rfl ⟨_, by rw [HE.out, HN.out, HXX.out]; rfl, .inr ⟨q, ?_, ?_, ?_, ?_⟩, ?_⟩
  · rw [HBB.out, HPL.out]
  · rw [HB.out]; exact HW3.out
  · rw [HBB.out]; exact HR5.out
  · rw [HBB.out, HPL.out]; unfold maxLen; omega
  · rw [HB.out]; exact HB5.out
/-- The program's Get, whatever sector it is given. -/
theorem pget_any (b : Blk) (B : Nat) (w : World) (HB : Hid (B = w.heap.size)) (T : Tab w) : Calls Tryd.prog 32 #[blk b] w fun e w' => ∃ v, e = .returned (.tuple #[.int .u64 (getN b.toList : Nat), v, .int .i64 (getE b.toList : Nat)]) ∧ Bod w' B v (getB b.toList) ∧ Below B w w' := by
  by_cases h0 : numO b.toList = 0
  · exact pget_zero b B w HB T h0
  · by_cases h1 : numO b.toList = agO b.toList
    · by_cases h2 : sumO b.toList = crcO b.toList
      · exact pget_ok b B w HB T h0 h1 h2
      · exact pget_sum b B w HB T h0 h1 h2
    · exact pget_unlike b B w HB T h0 h1
end Go.Proofs.YtiilclncedipiaaDoor
namespace Go.Proofs.YtiilclncedipiaaDoor
open Go.RowKit
set_option linter.unusedVariables false
set_option maxRecDepth 100000

theorem Made.some {w : World} {B : Nat} {v : Value} {l : List UInt8} (h : Made w B v l) (h0 : 0 < l.length) : ∃ g c, v = .slice (some ⟨g, 0, none⟩) l.length c ∧ B ≤ g ∧ l.length ≤ c ∧ c ≤ maxLen := by
  rcases h.2 with ⟨_, h1⟩ | ⟨g, cap, cur, rfl, hB, _, h1, h2, _⟩
  · omega
  · exact ⟨g, cap, rfl, hB, h1, h2⟩
section
variable {ρ : Operand → Value} {o : Oper} {x y z : Operand} {w : World} {b off n c t u : Nat}
theorem undU : Tryd.prog.underlying 39 = some (.slice 5) := Tryd.underlying39
theorem run_headU (h : t ≤ c) : (Instr.sliceAt 39 (.slice (some ⟨b, off, none⟩) n c) none (some (.int .i64 (t : Int))) none).run Tryd.prog w = .ok (.slice (some ⟨b, off, none⟩) t c) w := by
  simp [Instr.sliceAt, Instr.slice, Instr.sliceBounds, Instr.sliceBound, asIntOf, run_underlying undU, Tryd.sizeOf5, Addr.add_mid]
  intro hh; omega
theorem run_midU (h1 : u ≤ t) (h : t ≤ c) (h2 : u < c) : (Instr.sliceAt 39 (.slice (some ⟨b, off, none⟩) n c) (some (.int .i64 (u : Int))) (some (.int .i64 (t : Int))) none).run Tryd.prog w = .ok (.slice (some ⟨b, off + u, none⟩) (t - u) (c - u)) w := by
  have e1 : (0 ≤ (t : Int) ∧ (t : Int) ≤ (c : Int)) := by omega
  have e2 : (0 ≤ (u : Int) ∧ (u : Int) ≤ (t : Int)) := by omega
  have e3 : c ≠ u := by omega
  simp [Instr.sliceAt, Instr.slice, Instr.sliceBounds, Instr.sliceBound, asIntOf, run_underlying undU, Tryd.sizeOf5, Addr.add_mid, e1, e2, e3, h, h1]
theorem head52 (h : 64 ≤ c) : (Instr.sliceAt 39 (.slice (some ⟨b, off, none⟩) n c) none (some (.int .i64 52)) none).run Tryd.prog w = .ok (.slice (some ⟨b, off, none⟩) 52 c) w := run_headU (t := 52) (by omega)
theorem mid852 (h : 64 ≤ c) : (Instr.sliceAt 39 (.slice (some ⟨b, 0, none⟩) n c) (some (.int .i64 8)) (some (.int .i64 52)) none).run Tryd.prog w = .ok (.slice (some ⟨b, 8, none⟩) 44 (c - 8)) w := by
  have := run_midU (b := b) (off := 0) (n := n) (w := w) (u := 8) (t := 52) (c := c) (by omega) (by omega) (by omega)
  simpa using this
theorem exec_headU (ho : o.op = .slice 39 x none (some (.const (.int .i64 52))) none) (hx : ρ x = .slice (some ⟨b, off, none⟩) n c) (hy : ρ (.const (.int .i64 52)) = .int .i64 52) (h : 64 ≤ c) : (execOp ρ o).run Tryd.prog w = .ok (.value (.slice (some ⟨b, off, none⟩) 52 c)) w := by
  unfold execOp
  simp only [ho, hx, hy, Option.map_some, Option.map_none, Sem.run_bind, head52 h, Result.andThen_ok, Sem.run_pure]
theorem exec_midU (ho : o.op = .slice 39 x (some (.const (.int .i64 8))) (some (.const (.int .i64 52))) none) (hx : ρ x = .slice (some ⟨b, 0, none⟩) n c) (hy : ρ (.const (.int .i64 52)) = .int .i64 52) (hz : ρ (.const (.int .i64 8)) = .int .i64 8) (h : 64 ≤ c) : (execOp ρ o).run Tryd.prog w = .ok (.value (.slice (some ⟨b, 8, none⟩) 44 (c - 8))) w := by
  unfold execOp
  simp only [ho, hx, hy, hz, Option.map_some, Option.map_none, Sem.run_bind, mid852 h, Result.andThen_ok, Sem.run_pure]
theorem run_wholeB : (Instr.sliceAt 31 (.pointer (some ⟨b, 0, none⟩)) none none none).run Tryd.prog w = .ok (.slice (some ⟨b, 0, none⟩) 64 64) w := by
  simp [Instr.sliceAt, Instr.sliceBounds, Instr.sureAddr, run_underlying undB, Tryd.sizeOf5, Addr.add_mid]
theorem exec_wholeB (ho : o.op = .slice 31 x none none none) (hx : ρ x = .pointer (some ⟨b, 0, none⟩)) : (execOp ρ o).run Tryd.prog w = .ok (.value (.slice (some ⟨b, 0, none⟩) 64 64)) w := by
  unfold execOp
  simp only [ho, hx, Option.map_none, Sem.run_bind, run_wholeB, Result.andThen_ok, Sem.run_pure]
end
/-- A piece of what reads as a list. -/
theorem Rd.piece {w : World} {N g n p k : Nat} {l : List UInt8} (h : Rd w N (some ⟨g, 0, none⟩) n l) (hk : p + k ≤ n) : Rd w N (some ⟨g, p, none⟩) k (piece l p k) :=
  ⟨length_piece (by have := h.1; omega), fun j hj => by
    obtain ⟨b, off, e, hb, hc⟩ := h.2 (p + j) (by omega)
    injection e with e
    injection e with e1 e2
    subst e1 e2
    refine ⟨g, p, rfl, hb, ?_⟩
    rw [bt_piece hj, ← hc, Nat.zero_add]⟩
/-! Get. -/
set_option maxHeartbeats 4000000 in
theorem rget_zero (b : Blk) (B : Nat) (w : World) (HB : Hid (B = w.heap.size)) (h0 : numO b.toList = 0) :
    Calls Tryd.prog 34 #[blk b] w fun e w' => ∃ v, e = .returned (.tuple #[.int .u64 (getN b.toList : Nat), v, .int .i64 (getE b.toList : Nat)]) ∧ Made w' B v (getB b.toList) ∧ Below B w w' := by
  have hA := RowL.blk w b 31
  have hbA := (Below.refl w.heap.size w).alloc (Nat.le_refl _) (.cells (cel b).toArray 31)
  have hRA := hA.rd (p := 0) (k := 64) (by simp)
  rw [piece_all (toList_len b)] at hRA
  have HRA := Lib.hid hRA
  have HBA := Lib.hid hbA
  have HL := Lib.hid (toList_len b)
  have hE := getE_form (.inl h0)
  have HE := Lib.hid hE
  have HN := Lib.hid (getN_no (l := b.toList) (by omega))
  have HBB := Lib.hid (getB_no (l := b.toList) (by omega))
  have HX : Hid (val 8 (piece b.toList 0 8) = 0) := Lib.hid h0
  obtain ⟨y, hy⟩ : ∃ y, agO b.toList = y := ⟨_, rfl⟩
  have HY : Hid (val 8 (piece b.toList 56 8) = y) := Lib.hid hy
  clear hE h0 hy
  clear hA hbA hRA
  go_enter Tryd.func34, Tryd.ntmps34
  go_wp2_with (first | (refine wpList_val rfl (exec_box rfl rfl) ?_) | (refine wpList_val rfl (exec_wholeB rfl rfl) ?_) | fail)
  refine (copy_any _ 64 64 _ _ b.toList _ (Lib.hid rfl) HRA.out (Nat.le_refl _) (by omega)).mono ?_
  rintro e w1 ⟨v1, rfl, hm1, hb1⟩
  obtain ⟨q, c, rfl, hq, hc1, hc2⟩ := hm1.some (by rw [HL.out]; omega)
  rw [HL.out] at hm1 hc1 ⊢
  have hrd := hm1.rd
  have HBL := Lib.hid (HBA.out.trans (hb1.mono (by simp only [World.size_alloc]; omega)))
  have HR := Lib.hid hrd
  have HC2 := Lib.hid hc2
  clear hb1 hrd hm1 HBA HRA hq hc2
  generalize hrr : w.heap.size = r at *
  have HSZ : Hid (r ≤ w1.heap.size) := Lib.hid (Nat.le_trans (Nat.le_of_eq hrr.symm) HBL.out.size)
  clear hrr
  go_wp2_with fail
  refine (rget_ok _ 64 c _ b.toList 0 8 _ HR.out (by unfold maxLen; omega) (by omega) (by omega) (by omega)).mono ?_
  rintro e w2 ⟨rfl, rfl⟩
  rw [HX.out]
  go_wp2_with fail
  refine (rget_ok _ 64 c _ b.toList 56 8 _ HR.out (by unfold maxLen; omega) (by omega) (by omega) (by omega)).mono ?_
  rintro e w2 ⟨rfl, rfl⟩
  rw [HY.out]
  go_wp2_with fail
  refine bodyPost_ret (v := .tuple #[.int .u64 0, .slice none 0 0, .int .i64 5]) (by simp [results, Tryd.results34, go_sem]) rfl ⟨_, by rw [HE.out, HN.out]; rfl, by rw [HBB.out]; exact World.ownsRow_nil _ _ _ _, by rw [HB.out]; exact HBL.out⟩
set_option maxHeartbeats 4000000 in
theorem rget_unlike (b : Blk) (B : Nat) (w : World) (HB : Hid (B = w.heap.size)) (h0 : numO b.toList ≠ 0) (h1 : numO b.toList ≠ agO b.toList) :
    Calls Tryd.prog 34 #[blk b] w fun e w' => ∃ v, e = .returned (.tuple #[.int .u64 (getN b.toList : Nat), v, .int .i64 (getE b.toList : Nat)]) ∧ Made w' B v (getB b.toList) ∧ Below B w w' := by
  have hA := RowL.blk w b 31
  have hbA := (Below.refl w.heap.size w).alloc (Nat.le_refl _) (.cells (cel b).toArray 31)
  have hRA := hA.rd (p := 0) (k := 64) (by simp)
  rw [piece_all (toList_len b)] at hRA
  have HRA := Lib.hid hRA
  have HBA := Lib.hid hbA
  have HL := Lib.hid (toList_len b)
  have hE := getE_form (.inr h1)
  have HE := Lib.hid hE
  have HN := Lib.hid (getN_no (l := b.toList) (by omega))
  have HBB := Lib.hid (getB_no (l := b.toList) (by omega))
  obtain ⟨x, hx⟩ : ∃ x, numO b.toList = x := ⟨_, rfl⟩
  have HX : Hid (val 8 (piece b.toList 0 8) = x) := Lib.hid hx
  obtain ⟨y, hy⟩ : ∃ y, agO b.toList = y := ⟨_, rfl⟩
  have HY : Hid (val 8 (piece b.toList 56 8) = y) := Lib.hid hy
  rw [hx] at h0 h1
  rw [hy] at h1
  have hz : ((x : Int) == 0) = false := by simp; omega
  have hn : ((x : Int) != (y : Int)) = true := by simp; omega
  clear hE h0 h1 hx hy
  clear hA hbA hRA
  go_enter Tryd.func34, Tryd.ntmps34
  go_wp2_with (first | (refine wpList_val rfl (exec_box rfl rfl) ?_) | (refine wpList_val rfl (exec_wholeB rfl rfl) ?_) | fail)
  refine (copy_any _ 64 64 _ _ b.toList _ (Lib.hid rfl) HRA.out (Nat.le_refl _) (by omega)).mono ?_
  rintro e w1 ⟨v1, rfl, hm1, hb1⟩
  obtain ⟨q, c, rfl, hq, hc1, hc2⟩ := hm1.some (by rw [HL.out]; omega)
  rw [HL.out] at hm1 hc1 ⊢
  have hrd := hm1.rd
  have HBL := Lib.hid (HBA.out.trans (hb1.mono (by simp only [World.size_alloc]; omega)))
  have HR := Lib.hid hrd
  have HC2 := Lib.hid hc2
  clear hb1 hrd hm1 HBA HRA hq hc2
  generalize hrr : w.heap.size = r at *
  have HSZ : Hid (r ≤ w1.heap.size) := Lib.hid (Nat.le_trans (Nat.le_of_eq hrr.symm) HBL.out.size)
  clear hrr
  go_wp2_with fail
  refine (rget_ok _ 64 c _ b.toList 0 8 _ HR.out (by unfold maxLen; omega) (by omega) (by omega) (by omega)).mono ?_
  rintro e w2 ⟨rfl, rfl⟩
  rw [HX.out]
  go_wp2_with fail
  refine (rget_ok _ 64 c _ b.toList 56 8 _ HR.out (by unfold maxLen; omega) (by omega) (by omega) (by omega)).mono ?_
  rintro e w2 ⟨rfl, rfl⟩
  rw [HY.out]
  go_wp2_with fail
  refine bodyPost_ret (v := .tuple #[.int .u64 0, .slice none 0 0, .int .i64 5]) (by simp [results, Tryd.results34, go_sem]) rfl ⟨_, by rw [HE.out, HN.out]; rfl, by rw [HBB.out]; exact World.ownsRow_nil _ _ _ _, by rw [HB.out]; exact HBL.out⟩
set_option maxHeartbeats 4000000 in
theorem rget_sum (b : Blk) (B : Nat) (w : World) (HB : Hid (B = w.heap.size)) (h0 : numO b.toList ≠ 0) (h1 : numO b.toList = agO b.toList) (h2 : sumO b.toList ≠ crcO b.toList) :
    Calls Tryd.prog 34 #[blk b] w fun e w' => ∃ v, e = .returned (.tuple #[.int .u64 (getN b.toList : Nat), v, .int .i64 (getE b.toList : Nat)]) ∧ Made w' B v (getB b.toList) ∧ Below B w w' := by
  have hA := RowL.blk w b 31
  have hbA := (Below.refl w.heap.size w).alloc (Nat.le_refl _) (.cells (cel b).toArray 31)
  have hRA := hA.rd (p := 0) (k := 64) (by simp)
  rw [piece_all (toList_len b)] at hRA
  have HRA := Lib.hid hRA
  have HBA := Lib.hid hbA
  have HL := Lib.hid (toList_len b)
  have hE := getE_sum h0 h1 h2
  have HE := Lib.hid hE
  have HN := Lib.hid (getN_no (l := b.toList) (by omega))
  have HBB := Lib.hid (getB_no (l := b.toList) (by omega))
  obtain ⟨x, hx⟩ : ∃ x, numO b.toList = x := ⟨_, rfl⟩
  have HX : Hid (val 8 (piece b.toList 0 8) = x) := Lib.hid hx
  have HY : Hid (val 8 (piece b.toList 56 8) = x) := Lib.hid (by rw [← hx]; exact h1.symm)
  rw [hx] at h0
  obtain ⟨s, hs⟩ : ∃ s, sumO b.toList = s := ⟨_, rfl⟩
  obtain ⟨k, hk⟩ : ∃ k, crcO b.toList = k := ⟨_, rfl⟩
  have HSU : Hid (val 8 (piece b.toList 52 4) = s) := Lib.hid hs
  have HCR : Hid (more 0 (piece b.toList 0 52) = k) := Lib.hid hk
  have hsl := sumO_lt (toList_len b)
  have hkl := crcO_lt b.toList
  rw [hs] at hsl h2
  rw [hk] at hkl h2
  have hz : ((x : Int) == 0) = false := by simp; omega
  have hn : ((x : Int) != (x : Int)) = false := by simp
  have hc : ((k : Int) != (s : Int)) = true := by simp; omega
  clear hE h0 h1 hx h2 hs hk
  clear hA hbA hRA
  go_enter Tryd.func34, Tryd.ntmps34
  go_wp2_with (first | (refine wpList_val rfl (exec_box rfl rfl) ?_) | (refine wpList_val rfl (exec_wholeB rfl rfl) ?_) | fail)
  refine (copy_any _ 64 64 _ _ b.toList _ (Lib.hid rfl) HRA.out (Nat.le_refl _) (by omega)).mono ?_
  rintro e w1 ⟨v1, rfl, hm1, hb1⟩
  obtain ⟨q, c, rfl, hq, hc1, hc2⟩ := hm1.some (by rw [HL.out]; omega)
  rw [HL.out] at hm1 hc1 ⊢
  have hrd := hm1.rd
  have HBL := Lib.hid (HBA.out.trans (hb1.mono (by simp only [World.size_alloc]; omega)))
  have HR := Lib.hid hrd
  have HC2 := Lib.hid hc2
  clear hb1 hrd hm1 HBA HRA hq hc2
  generalize hrr : w.heap.size = r at *
  have HSZ : Hid (r ≤ w1.heap.size) := Lib.hid (Nat.le_trans (Nat.le_of_eq hrr.symm) HBL.out.size)
  clear hrr
  go_wp2_with fail
  refine (rget_ok _ 64 c _ b.toList 0 8 _ HR.out (by unfold maxLen; omega) (by omega) (by omega) (by omega)).mono ?_
  rintro e w2 ⟨rfl, rfl⟩
  rw [HX.out]
  go_wp2_with fail
  refine (rget_ok _ 64 c _ b.toList 56 8 _ HR.out (by unfold maxLen; omega) (by omega) (by omega) (by omega)).mono ?_
  rintro e w2 ⟨rfl, rfl⟩
  rw [HY.out]
  go_wp2_with fail
  refine (rget_ok _ 64 c _ b.toList 52 4 _ HR.out (by unfold maxLen; omega) (by omega) (by omega) (by omega)).mono ?_
  rintro e w2 ⟨rfl, rfl⟩
  rw [HSU.out]
  go_wp2_with (first | (refine wpList_val rfl (exec_headU rfl rfl rfl hc1) ?_) | fail)
  refine (refOf_any _ 52 c _ (piece b.toList 0 52) _ (HR.out.piece (p := 0) (k := 52) (by omega)) (by unfold maxLen; omega)).mono ?_
  rintro e w2 ⟨rfl, rfl⟩
  rw [HCR.out]
  go_wp2_with fail
  refine bodyPost_ret (v := .tuple #[.int .u64 0, .slice none 0 0, .int .i64 6]) (by simp [results, Tryd.results34, go_sem]) rfl ⟨_, by rw [HE.out, HN.out]; rfl, by rw [HBB.out]; exact World.ownsRow_nil _ _ _ _, by rw [HB.out]; exact HBL.out⟩
set_option maxHeartbeats 4000000 in
theorem rget_fine (b : Blk) (B : Nat) (w : World) (HB : Hid (B = w.heap.size)) (h0 : numO b.toList ≠ 0) (h1 : numO b.toList = agO b.toList) (h2 : sumO b.toList = crcO b.toList) :
    Calls Tryd.prog 34 #[blk b] w fun e w' => ∃ v, e = .returned (.tuple #[.int .u64 (getN b.toList : Nat), v, .int .i64 (getE b.toList : Nat)]) ∧ Made w' B v (getB b.toList) ∧ Below B w w' := by
  have hA := RowL.blk w b 31
  have hbA := (Below.refl w.heap.size w).alloc (Nat.le_refl _) (.cells (cel b).toArray 31)
  have hRA := hA.rd (p := 0) (k := 64) (by simp)
  rw [piece_all (toList_len b)] at hRA
  have HRA := Lib.hid hRA
  have HBA := Lib.hid hbA
  have HL := Lib.hid (toList_len b)
  have hE := getE_ok h0 h1 h2
  have HE := Lib.hid hE
  have HN := Lib.hid (getN_of hE)
  have HBB := Lib.hid (getB_of hE)
  obtain ⟨x, hx⟩ : ∃ x, numO b.toList = x := ⟨_, rfl⟩
  have HX : Hid (val 8 (piece b.toList 0 8) = x) := Lib.hid hx
  have HY : Hid (val 8 (piece b.toList 56 8) = x) := Lib.hid (by rw [← hx]; exact h1.symm)
  rw [hx] at h0
  obtain ⟨s, hs⟩ : ∃ s, sumO b.toList = s := ⟨_, rfl⟩
  obtain ⟨k, hk⟩ : ∃ k, crcO b.toList = k := ⟨_, rfl⟩
  have HSU : Hid (val 8 (piece b.toList 52 4) = s) := Lib.hid hs
  have HCR : Hid (more 0 (piece b.toList 0 52) = k) := Lib.hid hk
  have hsl := sumO_lt (toList_len b)
  have hkl := crcO_lt b.toList
  rw [hs] at hsl h2
  rw [hk] at hkl h2
  have hz : ((x : Int) == 0) = false := by simp; omega
  have hn : ((x : Int) != (x : Int)) = false := by simp
  have hc : ((k : Int) != (s : Int)) = false := by simp; omega
  have HXX := Lib.hid hx
  clear hE h0 h1 hx h2 hs hk
  clear hA hbA hRA
  go_enter Tryd.func34, Tryd.ntmps34
  go_wp2_with (first | (refine wpList_val rfl (exec_box rfl rfl) ?_) | (refine wpList_val rfl (exec_wholeB rfl rfl) ?_) | fail)
  refine (copy_any _ 64 64 _ _ b.toList _ (Lib.hid rfl) HRA.out (Nat.le_refl _) (by omega)).mono ?_
  rintro e w1 ⟨v1, rfl, hm1, hb1⟩
  obtain ⟨q, c, rfl, hq, hc1, hc2⟩ := hm1.some (by rw [HL.out]; omega)
  rw [HL.out] at hm1 hc1 ⊢
  have hrd := hm1.rd
  have HBL := Lib.hid (HBA.out.trans (hb1.mono (by simp only [World.size_alloc]; omega)))
  have HR := Lib.hid hrd
  have HC2 := Lib.hid hc2
  clear hb1 hrd hm1 HBA HRA hq hc2
  generalize hrr : w.heap.size = r at *
  have HSZ : Hid (r ≤ w1.heap.size) := Lib.hid (Nat.le_trans (Nat.le_of_eq hrr.symm) HBL.out.size)
  clear hrr
  go_wp2_with fail
  refine (rget_ok _ 64 c _ b.toList 0 8 _ HR.out (by unfold maxLen; omega) (by omega) (by omega) (by omega)).mono ?_
  rintro e w2 ⟨rfl, rfl⟩
  rw [HX.out]
  go_wp2_with fail
  refine (rget_ok _ 64 c _ b.toList 56 8 _ HR.out (by unfold maxLen; omega) (by omega) (by omega) (by omega)).mono ?_
  rintro e w2 ⟨rfl, rfl⟩
  rw [HY.out]
  go_wp2_with fail
  refine (rget_ok _ 64 c _ b.toList 52 4 _ HR.out (by unfold maxLen; omega) (by omega) (by omega) (by omega)).mono ?_
  rintro e w2 ⟨rfl, rfl⟩
  rw [HSU.out]
  go_wp2_with (first | (refine wpList_val rfl (exec_headU rfl rfl rfl hc1) ?_) | fail)
  refine (refOf_any _ 52 c _ (piece b.toList 0 52) _ (HR.out.piece (p := 0) (k := 52) (by omega)) (by unfold maxLen; omega)).mono ?_
  rintro e w2 ⟨rfl, rfl⟩
  rw [HCR.out]
  go_wp2_with (first | (refine wpList_val rfl (exec_midU rfl rfl rfl rfl hc1) ?_) | fail)
  refine (copy_any _ 44 (c - 8) _ _ (piece b.toList 8 44) _ (Lib.hid rfl) (HR.out.piece (p := 8) (k := 44) (by omega)) (Nat.le_refl _) (by omega)).mono ?_
  rintro e w2 ⟨v2, rfl, hm2, hb2⟩
  have HM2 := Lib.hid hm2
  have HB2 := Lib.hid (HBL.out.trans (hb2.mono HSZ.out))
  clear hm2 hb2
  go_wp2_with fail
  refine bodyPost_ret (v := .tuple #[.int .u64 (x : Int), v2, .int .i64 0]) (by simp [results, Tryd.results34, go_sem]) rfl ⟨_, by rw [HE.out, HN.out, HXX.out]; rfl, by rw [HBB.out, HB.out]; exact HM2.out.base HSZ.out, by rw [HB.out]; exact HB2.out⟩
/-- The document's Get, whatever sector it is given. -/
theorem rget_any (b : Blk) (B : Nat) (w : World) (HB : Hid (B = w.heap.size)) : Calls Tryd.prog 34 #[blk b] w fun e w' => ∃ v, e = .returned (.tuple #[.int .u64 (getN b.toList : Nat), v, .int .i64 (getE b.toList : Nat)]) ∧ Made w' B v (getB b.toList) ∧ Below B w w' := by
  by_cases h0 : numO b.toList = 0
  · exact rget_zero b B w HB h0
  · by_cases h1 : numO b.toList = agO b.toList
    · by_cases h2 : sumO b.toList = crcO b.toList
      · exact rget_fine b B w HB h0 h1 h2
      · exact rget_sum b B w HB h0 h1 h2
    · exact rget_unlike b B w HB h0 h1
end Go.Proofs.YtiilclncedipiaaDoor
namespace Go.Proofs.YtiilclncedipiaaDoor
open Go.RowKit
set_option linter.unusedVariables false
set_option maxRecDepth 100000

set_option maxHeartbeats 1000000 in
theorem rsput_arg (m c : Nat) (A : Option Addr) (b : List UInt8) (w : World) :
    Calls Tryd.prog 17 #[.int .u64 0, .slice A m c] w fun e w' => e = .returned (.tuple #[blk (putB 0 b), .int .i64 (putE 0 b : Nat)]) ∧ Below w.heap.size w w' := by
  have hA := (Below.refl w.heap.size w).alloc (Nat.le_refl _) (.cells (cel zeroB).toArray 31)
  have HT := Lib.hid (there_new w zeroB 31)
  have HA := Lib.hid hA
  clear hA
  rw [show putB 0 b = zeroB from rfl, show putE 0 b = 2 from rfl]
  go_enter Tryd.func17, Tryd.ntmps17
  go_wp2_with (first | (refine wpList_val rfl (exec_alloc rfl) ?_) | (refine wpList_val rfl (exec_build (c := zeroB) (parts := []) rfl rfl) ?_) | (refine wpList_nul rfl (exec_store rfl rfl rfl HT.out) ?_))
  refine bodyPost_ret (res_blk2 rfl _ _ _ rfl (World.rangeAt_setCells_same _ _ _ _ (by rw [cel_length]; exact HT.out))) rfl ⟨rfl, below_setCells HA.out (Nat.le_refl _) _⟩
set_option maxHeartbeats 1000000 in
theorem rsput_long (n m c : Nat) (A : Option Addr) (b : List UInt8) (w : World) (hb : b.length = m) (h0 : 0 < n) (hm : 44 < m) (hm2 : m ≤ maxLen) :
    Calls Tryd.prog 17 #[.int .u64 n, .slice A m c] w fun e w' => e = .returned (.tuple #[blk (putB n b), .int .i64 (putE n b : Nat)]) ∧ Below w.heap.size w w' := by
  have hA := (Below.refl w.heap.size w).alloc (Nat.le_refl _) (.cells (cel zeroB).toArray 31)
  have HT := Lib.hid (there_new w zeroB 31)
  have HA := Lib.hid hA
  have hE : putE n b = 3 := by unfold putE; rw [if_neg (by omega), if_pos (by omega)]
  have hB : putB n b = zeroB := by unfold putB; rw [hE]; rfl
  rw [hE, hB]
  unfold maxLen at hm2
  clear hA hE hB hb
  have hz : ((n : Int) == 0) = false := by simp; omega
  go_enter Tryd.func17, Tryd.ntmps17
  go_wp2_with (first | (refine wpList_val rfl (exec_alloc rfl) ?_) | (refine wpList_val rfl (exec_build (c := zeroB) (parts := []) rfl rfl) ?_) | (refine wpList_nul rfl (exec_store rfl rfl rfl HT.out) ?_))
  refine bodyPost_ret (res_blk2 rfl _ _ _ rfl (World.rangeAt_setCells_same _ _ _ _ (by rw [cel_length]; exact HT.out))) rfl ⟨rfl, below_setCells HA.out (Nat.le_refl _) _⟩

/-- The document's Put of a number that has the size. -/
theorem rput_ok (n k B : Nat) (w : World) (HB : Hid (B = w.heap.size)) (hn : n < 18446744073709551616) (h1 : 1 ≤ k) (h2 : k ≤ 8) (hk : n < 2 ^ (8 * k)) :
    Calls Tryd.prog 38 #[.int .u64 n, .int .i64 k] w fun e w' => ∃ v, e = .returned (.tuple #[v, .int .i64 0]) ∧ Made w' B v (digL 8 k n) ∧ Below B w w' :=
  (rput_any n k B w HB hn h1 h2).mono fun e w' ⟨⟨hy, _⟩, hb⟩ => by
    obtain ⟨v, he, hm⟩ := hy hk
    exact ⟨v, he, hm, hb⟩
/-- A row as the document pads it. -/
def padK (n : Nat) (b : List UInt8) (k : Nat) : List UInt8 := digL 8 8 n ++ b ++ List.replicate k 0
theorem padK_length (n : Nat) (b : List UInt8) (k : Nat) : (padK n b k).length = 8 + b.length + k := by simp [padK, length_digL]; omega
theorem padK_zero (n : Nat) (b : List UInt8) : padK n b 0 = digL 8 8 n ++ b := by simp [padK]
theorem padK_succ (n : Nat) (b : List UInt8) (k : Nat) : padK n b k ++ [0] = padK n b (k + 1) := by simp [padK, List.replicate_succ']
theorem padK_head (n : Nat) (b : List UInt8) (k : Nat) (h : 8 + b.length + k = 52) : padK n b k = headL n b := by
  unfold padK headL padL
  rw [show 44 - b.length = k from by omega, List.append_assoc]

def lenV : Value → Nat
  | .slice _ n _ => n
  | _ => 0
/-- What the document's Put has laid by then: a row that is padded. -/
def PadAt (n m : Nat) (b : List UInt8) (B : Nat) (w1 : World) (v : Value) (wr : World) : Prop := ∃ k : Nat, 8 + m + k ≤ 52 ∧ Made wr B v (padK n b k) ∧ Below B w1 wr
theorem rd_zero (w : World) : Rd (w.alloc (.cells #[.int .u8 0] 5)) (w.heap.size + 1) (some ⟨w.heap.size, 0, none⟩) 1 [0] := rd_new w [0] #[.int .u8 0] rfl
set_option maxHeartbeats 4000000 in
theorem rsput_yes (n m c N : Nat) (A : Option Addr) (b : List UInt8) (w : World) (hn : n < 18446744073709551616) (h0 : 0 < n) (hb : Rd w N A m b) (hN : N ≤ w.heap.size) (hm : m ≤ 44) :
    Calls Tryd.prog 17 #[.int .u64 n, .slice A m c] w fun e w' => e = .returned (.tuple #[blk (putB n b), .int .i64 (putE n b : Nat)]) ∧ Below w.heap.size w w' := by
  have hl := hb.1
  have hbl : b.length ≤ 44 := by omega
  have hE : putE n b = 0 := putE_ok (by omega) hbl
  have hB : putB n b = ofL (sealL n b) := putB_ok hE
  rw [hE, hB]
  have hA := (Below.refl w.heap.size w).alloc (Nat.le_refl _) (.cells (cel zeroB).toArray 31)
  have HA := Lib.hid hA
  have HR := Lib.hid (hb.below (hA.mono hN))
  have HRES := Lib.hid (RowL.blk w zeroB 31)
  have HLB := Lib.hid hl
  have HN := Lib.hid hn
  have HNN := Lib.hid hN
  have HL64 := Lib.hid (sealL_length n hbl)
  have HH52 := Lib.hid (headL_length n hbl)
  have HC := Lib.hid (more_lt (s := 0) (by omega) (headL n b))
  clear hl hbl hE hB hA hn hb hN
  have hz : ((n : Int) == 0) = false := by simp; omega
  go_enter Tryd.func17, Tryd.ntmps17
  go_wp2_with (first | (refine wpList_val rfl (exec_alloc rfl) ?_) | fail)
  have hn := HN.out
  refine (rput_ok n 8 _ _ (Lib.hid rfl) hn (by omega) (by omega) hn).mono ?_
  rintro e w1 ⟨v1, rfl, hm1, hb1⟩
  obtain ⟨A1, c1, rfl, hr1, hcc1, hcc2⟩ := hm1.open_ (length_digL 8 8 n)
  clear hn hm1 hcc1 hcc2
  have hs1 := hb1.size
  have HRES1 := Lib.hid (RowL.below HRES.out (by simp only [World.size_alloc]; omega) hb1)
  have HR1 := Lib.hid (HR.out.below (hb1.mono (by have := HNN.out; simp only [World.size_alloc]; omega)))
  have HB1 := Lib.hid (HA.out.trans (hb1.mono (by simp only [World.size_alloc]; omega)))
  have HD1 := Lib.hid hr1
  have HS1 : Hid (w.heap.size + 1 ≤ w1.heap.size) := Lib.hid (by simpa only [World.size_alloc] using hs1)
  clear hr1 hb1 hs1 HR HRES HA
  obtain ⟨r, hr⟩ : ∃ r, w.heap.size = r := ⟨_, rfl⟩
  have HRR := Lib.hid hr
  rw [hr] at HRES1 HS1 HNN
  rw [hr]
  clear hr
  go_wp2_with fail
  obtain ⟨B, hB⟩ : ∃ B, B = w1.heap.size := ⟨_, rfl⟩
  have HB := Lib.hid hB
  rw [← hB] at HD1 HS1
  clear hB
  refine (copy_any A1 8 c1 B B (digL 8 8 n) _ HB HD1.out (Nat.le_refl _) (by omega)).mono ?_
  rintro e w2 ⟨v2, rfl, hm2, hb2⟩
  have hR2 := HR1.out.below (hb2.mono (by have := HNN.out; have := HS1.out; omega))
  have HBle := Lib.hid (show B ≤ w2.heap.size from Nat.le_trans (Nat.le_of_eq HB.out) hb2.size)
  go_wp2_with (at_builtin; refine wpList_app rfl _ _ rfl B N m c _ (digL 8 8 n) b A rfl rfl hm2 hR2 HBle.out ?c1 ?_)
  case c1 => rw [length_digL]; omega
  intro v3 w3 hm3 hg3
  have hb3 : Below B w1 w3 := hb2.grown hg3 HBle.out (fun k hk => (hm2.lt k hk).1)
  rw [← padK_zero] at hm3
  have HM3 := Lib.hid hm3
  have HB3 := Lib.hid hb3
  clear hm2 hb2 hR2 hm3 hg3 hb3 HBle
  go_wp2
  go_loopw [8] (fun v wr => PadAt n m b B w1 v wr) (fun v _ => 52 - lenV v)
  case atStart => exact ⟨0, by omega, HM3.out, HB3.out⟩
  case round =>
    obtain ⟨k, hk, hmr, hbr⟩ := hrel
    obtain ⟨A', c', rfl, hr', hc1, hc2⟩ := hmr.open_ (n := 8 + m + k) (by rw [padK_length, HLB.out])
    unfold maxLen at hc2
    have hBr : B ≤ wr.heap.size := Nat.le_trans (Nat.le_of_eq HB.out) hbr.size
    have HMR := Lib.hid hmr
    have HBR := Lib.hid hbr
    have HRR' := Lib.hid hr'
    by_cases hlt : 8 + m + k < 52
    · have hma := hmr.below ((Below.refl wr.heap.size wr).alloc (Nat.le_refl _) (.cells #[.int .u8 0] 5))
      have hba : Below B w1 (wr.alloc (.cells #[.int .u8 0] 5)) := hbr.alloc hBr _
      have hra := rd_zero wr
      clear hmr hbr hr'
      go_wp2_with (at_builtin; refine wpList_app rfl _ _ rfl B _ 1 1 _ (padK n b k) [0] _ rfl rfl hma hra ?c2 ?c3 ?_)
      case c2 => simp only [World.size_alloc]; omega
      case c3 => rw [padK_length, HLB.out]; omega
      intro v4 w4 hm4 hg4
      rw [padK_succ] at hm4
      have HM4 := Lib.hid hm4
      have HB4 := Lib.hid (hba.grown hg4 (by simp only [World.size_alloc]; omega) (fun k hk => (hma.lt k hk).1))
      obtain ⟨A5, c5, rfl, _, _, _⟩ := hm4.open_ (n := 8 + m + (k + 1)) (by rw [padK_length, HLB.out])
      clear hm4 hg4 hma hba hra
      go_wp2
      go_roundw
      case rel => exact ⟨k + 1, by omega, HM4.out, HB4.out⟩
      case measure => simp [lenV]; omega
    · have hk52 : 8 + m + k = 52 := by omega
      have HPK := Lib.hid (padK_head n b k (by rw [HLB.out]; exact hk52))
      rw [hk52] at HMR HRR' hc1 ⊢
      rw [HPK.out] at HMR HRR'
      clear hmr hbr hr' hlt hk hk52 HPK
      go_wp2_with fail
      refine (refOf_any A' 52 c' _ (headL n b) _ HRR'.out (by unfold maxLen; omega)).mono ?_
      rintro e w5 ⟨rfl, rfl⟩
      obtain ⟨s, hs⟩ : ∃ s, more 0 (headL n b) = s := ⟨_, rfl⟩
      have hs32 := HC.out
      rw [hs] at hs32 ⊢
      have HSS := Lib.hid hs
      clear hs
      go_wp2_with fail
      refine (rput_ok s 4 _ _ (Lib.hid rfl) (by omega) (by omega) (by omega) (by omega)).mono ?_
      rintro e w5 ⟨v5, rfl, hm5, hb5⟩
      obtain ⟨A5, c5, rfl, hr5, hcc1, hcc2⟩ := hm5.open_ (length_digL 8 4 s)
      have hmr5 := HMR.out.below hb5
      have hbr5 : Below B w1 w5 := HBR.out.trans (hb5.mono hBr)
      have hB5 : B ≤ w5.heap.size := Nat.le_trans hBr hb5.size
      clear hm5 hb5 hcc1 hcc2 hs32
      go_wp2_with (at_builtin; refine wpList_app rfl _ _ rfl B _ 4 c5 _ (headL n b) (digL 8 4 s) A5 rfl rfl hmr5 hr5 hB5 ?c4 ?_)
      case c4 => rw [HH52.out]; omega
      intro v6 w6 hm6 hg6
      have HM6 := Lib.hid hm6
      have HB6 := Lib.hid (hbr5.grown hg6 hB5 (fun k hk => (hmr5.lt k hk).1))
      clear hmr5 hbr5 hm6 hg6 hr5
      have hB6 : B ≤ w6.heap.size := Nat.le_trans (Nat.le_of_eq HB.out) HB6.out.size
      have hm6 := HM6.out
      have hr6 := HD1.out.below HB6.out
      go_wp2_with (at_builtin; refine wpList_app rfl _ _ rfl B B 8 c1 _ (headL n b ++ digL 8 4 s) (digL 8 8 n) A1 rfl rfl hm6 hr6 hB6 ?c5 ?_)
      case c5 => rw [List.length_append, HH52.out, length_digL]; omega
      intro v7 w7 hm7 hg7
      have hseal : headL n b ++ (digL 8 4 s ++ digL 8 8 n) = sealL n b := by rw [← HSS.out]; rfl
      rw [hseal] at hm7
      obtain ⟨q, c7, rfl, hq7, hc71, hc72⟩ := hm7.some (by rw [HL64.out]; omega)
      rw [HL64.out] at hm7 hc71 ⊢
      unfold maxLen at hc72
      have hrd7 := hm7.rd
      have HB7 := Lib.hid (HB6.out.grown hg7 hB6 (fun k hk => (hm6.lt k hk).1))
      have HRD7 := Lib.hid hrd7
      clear hm7 hg7 hm6 hr6 hseal hrd7 HM6 HB6 HMR HRR' HBR
      have hO := row_new w7 zeroB 31
      have hb8 := (Below.refl w7.heap.size w7).alloc (Nat.le_refl _) (.cells (cel zeroB).toArray 31)
      go_wp2_with (first | (refine wpList_val rfl (exec_alloc rfl) ?_) | fail)
      generalize hg2 : w7.heap.size = g2 at *
      have HG2 := Lib.hid hg2
      have HB8 := Lib.hid hb8
      have HO := Lib.hid hO
      clear hg2 hb8 hO
      go_loopw [12] (fun i wr => ∃ (j : Nat) (f : Nat → Int), j ≤ 64 ∧ i = .int .i64 j ∧ wr.rowIs g2 31 64 (fun j => .int .u8 (f j)) ∧ (∀ m, m < j → f m = bt (sealL n b) m) ∧ Below g2 w7 wr) (fun i _ => 64 - (intOf i).toNat)
      case atStart => exact ⟨0, byt zeroB, by omega, rfl, HO.out, fun m hm => absurd hm (by omega), HB8.out⟩
      case round =>
        clear HO HB8
        obtain ⟨j, f, hj, rfl, hrow, hf, hbl⟩ := hrel
        have HF := Lib.hid hf
        clear hf
        by_cases hlt : j < 64
        · have hc1 := hrow.cell (i := j) (by omega)
          have hfr := hrow.frozen j
          have hrd := (HRD7.out.below hbl).2 j hlt
          obtain ⟨bA, oA, hA1, hA2, hA3⟩ := hrd
          injection hA1 with hA1
          injection hA1 with e1 e2
          subst e1 e2
          rw [Nat.zero_add] at hA3
          go_wp2_with fail
          go_roundw
          case rel =>
            refine ⟨j + 1, upd f j (bt (sealL n b) j), by omega, by go_num, row_put hrow _, ?_, hbl.setCell (by simp) _⟩
            intro m hm
            by_cases e : m = j
            · subst e; exact upd_at _ _ _
            · rw [upd_off _ _ e]; exact HF.out m (by omega)
          case measure => simp [intOf]; omega
        · have hj64 : j = 64 := by omega
          subst hj64
          have hr := range_row (c := ofL (sealL n b)) (o := 0) hrow (by omega) (fun m hm => by rw [Nat.zero_add, HF.out m hm, ofL_byt _ hm])
          have HR2 := Lib.hid hr
          have hBX : Below B w1 wr := HB7.out.trans (hbl.mono (by rw [← HG2.out]; exact Nat.le_trans (Nat.le_of_eq HB.out) HB7.out.size))
          have HRX := HRES1.out.below (by have := HS1.out; omega) hBX
          have HTH : Hid (wr.there r 0 64) := Lib.hid (there_row HRX.row (by simp))
          have HBB : Hid (Below w.heap.size w wr) := Lib.hid (HB1.out.trans (hBX.mono (by rw [HRR.out]; have := HS1.out; omega)))
          clear hr hbl hrow hBX HRX
          go_wp2_with (first | (refine wpList_val rfl (exec_load rfl rfl HR2.out) ?_) | (refine wpList_nul rfl (exec_store rfl rfl rfl HTH.out) ?_) | fail)
          refine bodyPost_ret (res_blk2 rfl _ _ _ rfl (World.rangeAt_setCells_same _ _ _ _ (by rw [cel_length]; exact HTH.out))) rfl ⟨rfl, below_setCells HBB.out (Nat.le_of_eq HRR.out) _⟩

/-- The document's Put, whatever it is given. -/
theorem rsput_all (n m c N : Nat) (A : Option Addr) (b : List UInt8) (w : World) (hn : n < 18446744073709551616) (hb : Rd w N A m b) (hN : N ≤ w.heap.size) (hm : m ≤ maxLen) :
    Calls Tryd.prog 17 #[.int .u64 n, .slice A m c] w fun e w' => e = .returned (.tuple #[blk (putB n b), .int .i64 (putE n b : Nat)]) ∧ Below w.heap.size w w' := by
  by_cases h0 : n = 0
  · subst h0
    exact rsput_arg m c A b w
  · by_cases h44 : m ≤ 44
    · exact rsput_yes n m c N A b w hn (by omega) hb hN h44
    · exact rsput_long n m c A b w hb.1 (by omega) (by omega) hm
end Go.Proofs.YtiilclncedipiaaDoor
