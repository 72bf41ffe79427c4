/-
  DiskTorn's walk.
-/
import Derived.Test.YtokdmcikoaagmaaDlives
import Derived.Test.YtokdmcikoaagmaaRTorn
namespace Go.Proofs.Ytokdmcikoaagmaa
open Go.RowKit
set_option linter.unusedVariables false

theorem exec_eqs {ρ : Operand → Value} {o : Oper} {x y : Operand} {w : World} {t : TypeId} {c : Blk} (ho : o.op = .binOp .eql 33 x y t) (hx : ρ x = blk c) (hy : ρ y = blk c) : (execOp ρ o).run Try.prog w = .ok (.value (.bool true)) w := by
  rw [exec_eql ho hx hy, decide_eq_true rfl]
theorem blk_byte {w : World} {b i : Nat} {t : TypeId} {c : Blk} (v : UInt8) (h : w.heap[b]? = some (.cells (cel c).toArray t (0, 0))) (hi : i < 64) : (w.setCell ⟨b, i, none⟩ (.int .u8 (v.toNat : Int))).heap[b]? = some (.cells (cel (c.set i v)).toArray t (0, 0)) := by
  have e : cel c = (cel c).take i ++ (cel c).drop i := (List.take_append_drop _ _).symm
  have e2 : (cel c).drop i = (cel c)[i]'(by rw [cel_length]; exact hi) :: (cel c).drop (i + 1) := List.drop_eq_getElem_cons (by rw [cel_length]; exact hi)
  have := heap_put b t ((cel c).drop (i + 1)) [.int .u8 (v.toNat : Int)] [(cel c)[i]'(by rw [cel_length]; exact hi)] ((cel c).take i) w rfl (by rw [h, List.append_assoc, List.singleton_append, ← e2, ← e])
  rw [List.length_take, cel_length, Nat.min_eq_left (by omega)] at this
  rw [← cel_set _ hi, List.set_eq_take_append_cons_drop, if_pos (by rw [cel_length]; exact hi)]
  simpa [World.setCells] using this
theorem tn_rotE {x : Blk} {q : Nat} (h : q < 64) : rotE [zeroB, x, zeroB] false 1 (q : Int) = 0 := by
  unfold rotE
  rw [if_pos ⟨by omega, by show (1 : Int) < 3; omega, by omega, by omega⟩]
  rfl
theorem tn_rotS {x : Blk} {q : Nat} (u : UInt8) (h : q < 64) : rotS [zeroB, x, zeroB] false 1 (q : Int) u = [zeroB, rotB x q u, zeroB] := by
  unfold rotS
  rw [if_pos (tn_rotE h)]
  rfl
set_option maxRecDepth 100000 in
set_option maxHeartbeats 4000000 in
theorem torn_walk (D : Dev) (x y : Blk) (n : Int) (t : Nat) (u : UInt8) (w : World) (ht : t < 256) :
    Calls Try.prog 6 #[blk x, blk y, .int .i64 n, .int .u8 t, .int .u8 (u.toNat : Int)] w fun e w' => e = .returned (.bool true) ∧ Below w.heap.size w w' := by
  have K0 := blk_past (new1 w (cel x).toArray 33) (.cells (cel y).toArray 33)
  have J0 := new1 (w.alloc (.cells (cel x).toArray 33)) (cel y).toArray 33
  have hb0 : Below w.heap.size w ((w.alloc (.cells (cel x).toArray 33)).alloc (.cells (cel y).toArray 33)) := ((Below.refl _ _).alloc (Nat.le_refl _) _).alloc (by rw [World.size_alloc]; omega) _
  rw [World.size_alloc] at J0
  have hs0 : ((w.alloc (.cells (cel x).toArray 33)).alloc (.cells (cel y).toArray 33)).heap.size = w.heap.size + 2 := by rw [World.size_alloc, World.size_alloc]
  go_enter Try.func6, Try.ntmps6
  go_wp2_with (first | (refine wpList_val rfl (exec_box rfl rfl) ?_) | fail)
  generalize (w.alloc (.cells (cel x).toArray 33)).alloc (.cells (cel y).toArray 33) = w0 at *
  refine (D.new_ok 3 w0 (by omega) (by omega)).mono ?_
  rintro e w1 ⟨p, F1, rfl, h1, hb1, hf1⟩
  have X1 := blk_keep K0 hb1
  have Y1 := blk_keep J0 hb1
  have hb1' := hb0.trans (hb1.mono hb0.size)
  have HX1 := Lib.hid (blk_range X1)
  have hf1' : ∀ b, F1 b → w.heap.size + 2 ≤ b := fun b hb => by have := hf1 b hb; omega
  clear K0 J0 hb0 hb1 hf1 hs0
  go_wp2_with (first | (refine wpList_val rfl (exec_load rfl rfl HX1.out) ?_) | fail)
  refine (D.write 1 x (by simp) h1).mono ?_
  rintro e w2 ⟨rfl, F2, h2, ho2, hg2⟩
  rw [show askE (List.replicate 3 zeroB) false 1 = 0 from rfl]
  rw [show wrL (List.replicate 3 zeroB) [] false 1 x = [((1 : Int), x)] from rfl] at h2
  have hs1 : w.heap.size + 2 ≤ w1.heap.size := by have := blk_lt Y1; omega
  have hf2 := hg2.above hf1' hs1
  have X2 := ho2.keep X1 (fun e => by have := hf1' _ e; omega)
  have Y2 := ho2.keep Y1 (fun e => by have := hf1' _ e; omega)
  have hb2 := hb1'.trans (ho2.below (fun b hb => Nat.le_trans (by omega) (hf1' b hb)) hb1'.size)
  clear HX1 h1 hb1' X1 Y1 ho2 hg2 hs1 hf1'
  go_wp2_with fail
  refine (D.flush h2).mono ?_
  rintro e w3 ⟨rfl, F3, h3, ho3, hg3⟩
  rw [if_neg (by simp), if_neg (by simp)] at h3
  rw [show flS (List.replicate 3 zeroB) [((1 : Int), x)] = [zeroB, x, zeroB] from rfl] at h3
  have hs2 : w.heap.size + 2 ≤ w2.heap.size := by have := blk_lt Y2; omega
  have hf3 := hg3.above hf2 hs2
  have X3 := ho3.keep X2 (fun e => by have := hf2 _ e; omega)
  have Y3 := ho3.keep Y2 (fun e => by have := hf2 _ e; omega)
  have hb3 := hb2.trans (ho3.below (fun b hb => Nat.le_trans (by omega) (hf2 b hb)) hb2.size)
  have HY3 := Lib.hid (blk_range Y3)
  clear h2 hb2 X2 Y2 ho3 hg3 hs2 hf2
  go_wp2_with (first | (refine wpList_val rfl (exec_load rfl rfl HY3.out) ?_) | fail)
  refine (D.write 1 y (by simp) h3).mono ?_
  rintro e w4 ⟨rfl, F4, h4, ho4, hg4⟩
  rw [show askE [zeroB, x, zeroB] false 1 = 0 from rfl]
  rw [show wrL [zeroB, x, zeroB] [] false 1 y = [((1 : Int), y)] from rfl] at h4
  have hs3 : w.heap.size + 2 ≤ w3.heap.size := by have := blk_lt Y3; omega
  have hf4 := hg4.above hf3 hs3
  have X4 := ho4.keep X3 (fun e => by have := hf3 _ e; omega)
  have Y4 := ho4.keep Y3 (fun e => by have := hf3 _ e; omega)
  have hb4 := hb3.trans (ho4.below (fun b hb => Nat.le_trans (by omega) (hf3 b hb)) hb3.size)
  clear HY3 h3 hb3 X3 Y3 ho4 hg4 hs3 hf3
  have hq : t % 64 < 64 := Nat.mod_lt _ (by omega)
  go_wp2_with fail
  rw [show (t : Int) % 64 = ((t % 64 : Nat) : Int) from rfl]
  generalize t % 64 = q at *
  refine (D.rot 1 (q : Int) u h4).mono ?_
  rintro e w5 ⟨rfl, F5, h5, ho5, hg5⟩
  rw [tn_rotE hq]
  rw [tn_rotS u hq] at h5
  have hs4 : w.heap.size + 2 ≤ w4.heap.size := by have := blk_lt Y4; omega
  have hf5 := hg5.above hf4 hs4
  have X5 := ho5.keep X4 (fun e => by have := hf4 _ e; omega)
  have Y5 := ho5.keep Y4 (fun e => by have := hf4 _ e; omega)
  have hb5 := hb4.trans (ho5.below (fun b hb => Nat.le_trans (by omega) (hf4 b hb)) hb4.size)
  clear h4 hb4 X4 Y4 ho5 hg5 hs4 hf4
  go_wp2_with fail
  refine (D.read 1 h5).mono ?_
  rintro e w6 ⟨rfl, hb6⟩
  rw [show readB [zeroB, rotB x q u, zeroB] [((1 : Int), y)] false 1 = y from rfl, show askE [zeroB, rotB x q u, zeroB] false 1 = 0 from rfl]
  have h6 := D.below h5 hb6
  have X6 := blk_keep X5 hb6
  have Y6 := blk_keep Y5 hb6
  have hb6' := hb5.trans (hb6.mono hb5.size)
  clear h5 X5 Y5 hb5 hb6
  obtain ⟨w7, hw7⟩ : ∃ w7, (w6.alloc (.cells (cel y).toArray 33)).alloc (.cells (cel x).toArray 33) = w7 := ⟨_, rfl⟩
  have hB7 : Below w6.heap.size w6 w7 := by rw [← hw7]; exact ((Below.refl _ _).alloc (Nat.le_refl _) _).alloc (by rw [World.size_alloc]; omega) _
  have S7 : w7.heap[w6.heap.size]? = some (.cells (cel y).toArray 33 (0, 0)) := by rw [← hw7]; exact blk_past (new1 _ _ _) _
  have Z7 : w7.heap[w6.heap.size + 1]? = some (.cells (cel x).toArray 33 (0, 0)) := by rw [← hw7]; have := new1 (w6.alloc (.cells (cel y).toArray 33)) (cel x).toArray 33; rwa [World.size_alloc] at this
  have h7 := D.below h6 hB7
  have HX6 := Lib.hid (range_below (blk_range X6) (blk_lt X6) ((Below.refl _ w6).alloc (Nat.le_refl _) (.cells (cel y).toArray 33)))
  have X7 := blk_keep X6 hB7
  have Y7 := blk_keep Y6 hB7
  have hb7 := hb6'.trans (hB7.mono hb6'.size)
  have hn6 : ∀ b, F5 b → b < w6.heap.size := D.lt h6
  have hlt6 := blk_lt Y6
  have hc := blk_range Z7 q _ (cel_at _ hq)
  rw [Nat.zero_add, byt_get _ hq] at hc
  have hfz : w7.frozen? ⟨w6.heap.size + 1, q, none⟩ = false := by have := (blk_there Z7 q hq).2; simpa using this
  have HC := Lib.hid hc
  have HQ := Lib.hid hq
  clear h6 X6 Y6 hb6' hB7
  go_wp2_with (first | (refine wpList_val rfl (exec_alloc rfl) ?_) | (refine wpList_nul rfl (exec_fill rfl rfl rfl) ?_) | (refine wpList_val rfl (exec_load rfl rfl HX6.out) ?_) | (refine wpList_val rfl (exec_ix rfl rfl rfl (run_ixB HQ.out)) ?_) | (refine wpList_val rfl (exec_ld rfl rfl (ldU HC.out)) ?_) | (refine wpList_val rfl (exec_xor8 rfl rfl rfl) ?_) | fail)
  have Z8 := blk_byte (x[q]'hq ^^^ u) Z7 hq
  have HRB : x.set q (x[q]'hq ^^^ u) hq = rotB x q u := by unfold rotB; rw [dif_pos hq]
  rw [HRB] at Z8
  simp only [UInt8.toNat_xor] at Z8
  have hO8 := only_set w7 (w6.heap.size + 1) q (.int .u8 ((x[q].toNat ^^^ u.toNat : Nat) : Int))
  have hsz8 : (w7.setCell ⟨w6.heap.size + 1, q, none⟩ (.int .u8 ((x[q].toNat ^^^ u.toNat : Nat) : Int))).heap.size = w7.heap.size := by simp [World.setCell]
  have h8 := D.only h7 hO8 (fun b h1 h2 => by have := hn6 b h1; have h2 : b = w6.heap.size + 1 := h2; omega)
  have S8 := hO8.keep S7 (fun e => by have e : w6.heap.size = w6.heap.size + 1 := e; omega)
  have Y8 := hO8.keep Y7 (fun e => by have e : w.heap.size + 1 = w6.heap.size + 1 := e; omega)
  have hb8 := hb7.trans (hO8.below (fun b e => by have e : b = w6.heap.size + 1 := e; omega) hb7.size)
  clear hc hfz HC HRB hO8 h7 S7 Z7 X7 Y7 hb7 HX6
  rw [← hsz8]
  clear hsz8
  generalize w7.setCell ⟨w6.heap.size + 1, q, none⟩ (.int .u8 ((x[q].toNat ^^^ u.toNat : Nat) : Int)) = w8 at *
  clear hw7
  have hlt8 := blk_lt Z8
  generalize w6.heap.size = z at *
  have hnew : RdE IntE _ _ _ 1 _ := rdE_new (E := IntE) (l := [n]) w8 #[.int .i64 n] 3 rfl
  have hba : Below w8.heap.size w8 (w8.alloc (.cells #[.int .i64 n] 3)) := (Below.refl _ _).alloc (Nat.le_refl _) _
  have h9 := D.below h8 hba
  have hlt := D.lt h8
  have hs9 : (w8.alloc (.cells #[.int .i64 n] 3)).heap.size = w8.heap.size + 1 := World.size_alloc _ _
  refine (D.crash (A := some ⟨w8.heap.size, 0, none⟩) (c := 1) (by rw [World.size_alloc]; exact hnew) (by omega) (by unfold maxLen; omega) (fun x hx _ hF => by injection hx with hx; subst hx; exact absurd (hlt _ hF) (Nat.lt_irrefl _)) h9).mono ?_
  rintro e w10 ⟨rfl, F10, h10, ho10, hg10⟩
  rw [show crI [zeroB, rotB x q u, zeroB] [((1 : Int), y)] [n] [((1 : Int), y)].length = [zeroB, torn (rotB x q u) y n, zeroB] from rfl] at h10
  rw [show min [((1 : Int), y)].length 1 = 1 from rfl]
  have S10 := ho10.keep (blk_past S8 (.cells #[.int .i64 n] 3)) (fun e => by have := hn6 _ e; omega)
  have Z10 := ho10.keep (blk_past Z8 (.cells #[.int .i64 n] 3)) (fun e => by have := hn6 _ e; omega)
  have Y10 := ho10.keep (blk_past Y8 (.cells #[.int .i64 n] 3)) (fun e => by have := hf5 _ e; omega)
  have hb9 := hb8.trans (hba.mono hb8.size)
  have hb10 := hb9.trans (ho10.below (fun b hb => Nat.le_trans (by omega) (hf5 b hb)) hb9.size)
  clear hnew hba h8 h9 hlt hs9 S8 Z8 Y8 hb8 hb9 ho10 hg10 hlt8
  go_wp2_with fail
  refine (D.read 1 h10).mono ?_
  rintro e w11 ⟨rfl, hb11⟩
  rw [show readB [zeroB, torn (rotB x q u) y n, zeroB] [] false 1 = torn (rotB x q u) y n from rfl, show askE [zeroB, torn (rotB x q u) y n, zeroB] false 1 = 0 from rfl]
  have S12 := blk_past (blk_keep S10 hb11) (.cells (cel (torn (rotB x q u) y n)).toArray 33)
  have Z12 := blk_past (blk_keep Z10 hb11) (.cells (cel (torn (rotB x q u) y n)).toArray 33)
  have Y12 := blk_past (blk_keep Y10 hb11) (.cells (cel (torn (rotB x q u) y n)).toArray 33)
  have T12 := new1 w11 (cel (torn (rotB x q u) y n)).toArray 33
  have hb12 := (hb10.trans (hb11.mono hb10.size)).alloc (hb10.trans (hb11.mono hb10.size)).size (.cells (cel (torn (rotB x q u) y n)).toArray 33)
  clear S10 Z10 Y10 hb10 hb11 h10
  go_wp2_with (first | (refine wpList_val rfl (exec_alloc rfl) ?_) | (refine wpList_nul rfl (exec_fill rfl rfl rfl) ?_) | fail)
  generalize w11.heap.size = z2 at *
  generalize w11.alloc (.cells (cel (torn (rotB x q u) y n)).toArray 33) = w12 at *
  have CC := fun (w' : World) (hw : Below w12.heap.size w12 w') => And.intro (blk_range (blk_keep S12 hw)) (And.intro (blk_range (blk_keep Y12 hw)) (And.intro (blk_range (blk_keep T12 hw)) (blk_range (blk_keep Z12 hw))))
  have HB12 := Lib.hid hb12
  clear S12 Y12 T12 Z12 hb12
  refine wp_region_above (B := w12.heap.size) (by kernel_rfl) ?_
  refine qv_val rfl (fun w' hw => exec_mv rfl (ev rfl)) ?_
  simp only [Act.put, List.setIfInBounds_toArray, List.set_cons_succ, List.set_cons_zero]
  refine qv_val rfl (fun w' hw => exec_eqInt true rfl (ev rfl) evk rfl) ?_
  simp only [Act.put, List.setIfInBounds_toArray, List.set_cons_succ, List.set_cons_zero]
  refine qv_val rfl (fun w' hw => exec_mv rfl (ev rfl)) ?_
  simp only [Act.put, List.setIfInBounds_toArray, List.set_cons_succ, List.set_cons_zero]
  refine qv_val (wanted_of rfl rfl rfl rfl) (fun w' hw => exec_load rfl (ev rfl) (CC w' hw).1) ?_
  simp only [Act.put, List.setIfInBounds_toArray, List.set_cons_succ, List.set_cons_zero]
  refine qv_val (wanted_of rfl rfl rfl rfl) (fun w' hw => exec_load rfl (ev rfl) (CC w' hw).2.1) ?_
  simp only [Act.put, List.setIfInBounds_toArray, List.set_cons_succ, List.set_cons_zero]
  refine qv_val (wanted_of rfl rfl rfl rfl) (fun w' hw => exec_eqs rfl (ev rfl) (ev rfl)) ?_
  simp only [Act.put, List.setIfInBounds_toArray, List.set_cons_succ, List.set_cons_zero]
  refine qv_val rfl (fun w' hw => exec_pt rfl (ev rfl) (ev rfl)) ?_
  simp only [Act.put, List.setIfInBounds_toArray, List.set_cons_succ, List.set_cons_zero]
  refine qv_val rfl (fun w' hw => exec_mv rfl (ev rfl)) ?_
  simp only [Act.put, List.setIfInBounds_toArray, List.set_cons_succ, List.set_cons_zero]
  refine qv_val (wanted_of rfl rfl rfl rfl) (fun w' hw => exec_mv rfl (ev rfl)) ?_
  simp only [Act.put, List.setIfInBounds_toArray, List.set_cons_succ, List.set_cons_zero]
  refine qv_val (wanted_of rfl rfl rfl rfl) (fun w' hw => exec_eqInt true rfl (ev rfl) evk rfl) ?_
  simp only [Act.put, List.setIfInBounds_toArray, List.set_cons_succ, List.set_cons_zero]
  refine qv_val rfl (fun w' hw => exec_pt rfl (ev rfl) (ev rfl)) ?_
  simp only [Act.put, List.setIfInBounds_toArray, List.set_cons_succ, List.set_cons_zero]
  refine qv_val rfl (fun w' hw => exec_mv rfl (ev rfl)) ?_
  simp only [Act.put, List.setIfInBounds_toArray, List.set_cons_succ, List.set_cons_zero]
  refine qv_val (wanted_of rfl rfl rfl rfl) (fun w' hw => exec_mv rfl (ev rfl)) ?_
  simp only [Act.put, List.setIfInBounds_toArray, List.set_cons_succ, List.set_cons_zero]
  refine qv_val (wanted_of rfl rfl rfl rfl) (fun w' hw => exec_eqInt true rfl (ev rfl) evk rfl) ?_
  simp only [Act.put, List.setIfInBounds_toArray, List.set_cons_succ, List.set_cons_zero]
  refine qv_val rfl (fun w' hw => exec_pt rfl (ev rfl) (ev rfl)) ?_
  simp only [Act.put, List.setIfInBounds_toArray, List.set_cons_succ, List.set_cons_zero]
  refine qv_val rfl (fun w' hw => exec_mv rfl (ev rfl)) ?_
  simp only [Act.put, List.setIfInBounds_toArray, List.set_cons_succ, List.set_cons_zero]
  refine qv_val (wanted_of rfl rfl rfl rfl) (fun w' hw => exec_mv rfl (ev rfl)) ?_
  simp only [Act.put, List.setIfInBounds_toArray, List.set_cons_succ, List.set_cons_zero]
  refine qv_val (wanted_of rfl rfl rfl rfl) (fun w' hw => exec_eqInt true rfl (ev rfl) evk rfl) ?_
  simp only [Act.put, List.setIfInBounds_toArray, List.set_cons_succ, List.set_cons_zero]
  refine qv_val rfl (fun w' hw => exec_pt rfl (ev rfl) (ev rfl)) ?_
  simp only [Act.put, List.setIfInBounds_toArray, List.set_cons_succ, List.set_cons_zero]
  refine qv_val rfl (fun w' hw => exec_mv rfl (ev rfl)) ?_
  simp only [Act.put, List.setIfInBounds_toArray, List.set_cons_succ, List.set_cons_zero]
  refine qv_val (wanted_of rfl rfl rfl rfl) (fun w' hw => exec_load rfl (ev rfl) (CC w' hw).2.2.1) ?_
  simp only [Act.put, List.setIfInBounds_toArray, List.set_cons_succ, List.set_cons_zero]
  refine qv_val (wanted_of rfl rfl rfl rfl) (fun w' hw => exec_load rfl (ev rfl) (CC w' hw).2.2.2) ?_
  simp only [Act.put, List.setIfInBounds_toArray, List.set_cons_succ, List.set_cons_zero]
  refine qv_val (wanted_of rfl rfl rfl rfl) (fun w' hw => exec_load rfl (ev rfl) (CC w' hw).2.1) ?_
  simp only [Act.put, List.setIfInBounds_toArray, List.set_cons_succ, List.set_cons_zero]
  refine qv_val (wanted_of rfl rfl rfl rfl) (fun w' hw => exec_mv rfl (ev rfl)) ?_
  simp only [Act.put, List.setIfInBounds_toArray, List.set_cons_succ, List.set_cons_zero]
  refine qv_call (wanted_of rfl rfl rfl rfl) (fun _ => exec_cl Try.call22 rfl (evc (ev rfl) (evc (ev rfl) (evc (ev rfl) evn)))) (above_of (Nat.le_refl _) fun w' hw => refTorn_any _ _ _ w') ?_
  simp only [Act.put, List.setIfInBounds_toArray, List.set_cons_succ, List.set_cons_zero]
  refine qv_val (wanted_of rfl rfl rfl rfl) (fun w' hw => exec_eqs rfl (ev rfl) (ev rfl)) ?_
  simp only [Act.put, List.setIfInBounds_toArray, List.set_cons_succ, List.set_cons_zero]
  refine qv_val rfl (fun w' hw => exec_pt rfl (ev rfl) (ev rfl)) ?_
  simp only [Act.put, List.setIfInBounds_toArray, List.set_cons_succ, List.set_cons_zero]
  refine qv_val rfl (fun w' hw => exec_mv rfl (ev rfl)) ?_
  simp only [Act.put, List.setIfInBounds_toArray, List.set_cons_succ, List.set_cons_zero]
  refine qv_call (wanted_of rfl rfl rfl rfl) (fun _ => exec_cl Try.call10 rfl evn) (above_of (Nat.le_refl _) fun w' hw => lives_yes D w') ?_
  simp only [Act.put, List.setIfInBounds_toArray, List.set_cons_succ, List.set_cons_zero]
  refine qv_val rfl (fun w' hw => exec_pt rfl (ev rfl) (ev rfl)) ?_
  simp only [Act.put, List.setIfInBounds_toArray, List.set_cons_succ, List.set_cons_zero]
  refine qv_val rfl (fun w' hw => exec_as rfl (ev rfl)) ?_
  simp only [Act.put, List.setIfInBounds_toArray, List.set_cons_succ, List.set_cons_zero]
  refine wpQuiet_nil ?_
  intro w13 hw13
  have HB13 := Lib.hid (HB12.out.trans (hw13.mono HB12.out.size))
  clear CC hw13
  go_wp2_with fail
  go_ret
  exact ⟨rfl, HB13.out⟩
end Go.Proofs.Ytokdmcikoaagmaa
