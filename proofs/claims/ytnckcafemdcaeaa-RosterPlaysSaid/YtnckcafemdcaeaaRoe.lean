/-
  ashlarlaw10.two, lives, geo.
-/
import Derived.Test.YtnckcafemdcaeaaRod
import Derived.Test.YtnckcafemdcaeaaRlw
import Derived.Test.YtnckcafemdcaeaaSkip
import Derived.Test.YtnckcafemdcaeaaSkq
namespace Go.Proofs.Ytnckcafemdcaeaa
open Go.RowKit
set_option linter.unusedVariables false
set_option linter.unusedSimpArgs false
set_option maxRecDepth 100000

section
variable {x y : Ros} {g b : Bool} {m : Int} {e : Nat} (w : World)
theorem pnew_v (h : newX x = y) (he : newE x = e) : Calls Try.prog 7 #[geo x] w fun r w' => r = .returned (.tuple #[ros y, .int .i64 (e : Nat)]) ∧ Below w.heap.size w w' := by subst h he; exact pnew x w
theorem rnew_v (h : newX x = y) (he : newE x = e) : Calls Try.prog 8 #[geo x] w fun r w' => r = .returned (.tuple #[ros y, .int .i64 (e : Nat)]) ∧ Below w.heap.size w w' := by subst h he; exact rnew x w
theorem plose_v (h : losX x m = y) (hb : losB x m = b) : Calls Try.prog 19 #[ros x, .int .i64 m] w fun r w' => r = .returned (.tuple #[ros y, .bool b]) ∧ Below w.heap.size w w' := by subst h hb; exact plose x m w
theorem rlose_v (h : losX x m = y) (hb : losB x m = b) : Calls Try.prog 20 #[ros x, .int .i64 m] w fun r w' => r = .returned (.tuple #[ros y, .bool b]) ∧ Below w.heap.size w w' := by subst h hb; exact rlose x m w
theorem pbeg_v (h : begX x m = y) (he : begE x m = e) : Calls Try.prog 21 #[ros x, .int .i64 m] w fun r w' => r = .returned (.tuple #[ros y, .int .i64 (e : Nat)]) ∧ Below w.heap.size w w' := by subst h he; exact pbeg x m w
theorem rbeg_v (h : begX x m = y) (he : begE x m = e) : Calls Try.prog 22 #[ros x, .int .i64 m] w fun r w' => r = .returned (.tuple #[ros y, .int .i64 (e : Nat)]) ∧ Below w.heap.size w w' := by subst h he; exact rbeg x m w
theorem pnext_v (h : nexX x = y) (he : nexE x = e) : Calls Try.prog 23 #[ros x] w fun r w' => r = .returned (.tuple #[ros y, .int .i64 (e : Nat)]) ∧ Below w.heap.size w w' := by subst h he; exact pnext x w
theorem rnext_v (h : nexX x = y) (he : nexE x = e) : Calls Try.prog 24 #[ros x] w fun r w' => r = .returned (.tuple #[ros y, .int .i64 (e : Nat)]) ∧ Below w.heap.size w w' := by subst h he; exact rnext x w
theorem pgone_v (h : gonX x g = y) (he : gonE x = e) : Calls Try.prog 25 #[ros x, .bool g] w fun r w' => r = .returned (.tuple #[ros y, .int .i64 (e : Nat)]) ∧ Below w.heap.size w w' := by subst h he; exact pgone x g w
theorem rgone_v (h : gonX x g = y) (he : gonE x = e) : Calls Try.prog 26 #[ros x, .bool g] w fun r w' => r = .returned (.tuple #[ros y, .int .i64 (e : Nat)]) ∧ Below w.heap.size w w' := by subst h he; exact rgone x g w
theorem phas_b {s : Int} (h : hasB x m s = b) : Calls Try.prog 11 #[ros x, .int .i64 m, .int .i64 s] w fun r w' => r = .returned (.bool b) ∧ Below w.heap.size w w' := by subst h; exact phas x m s w
theorem rhas_b {s : Int} (h : hasB x m s = b) : Calls Try.prog 12 #[ros x, .int .i64 m, .int .i64 s] w fun r w' => r = .returned (.bool b) ∧ Below w.heap.size w w' := by subst h; exact rhas x m s w
theorem rstate_n {n : Nat} (h : stN x = n) : Calls Try.prog 16 #[ros x] w fun r w' => r = .returned (.int .i64 (n : Nat)) ∧ Below w.heap.size w w' := by subst h; exact rstate x w
end
def twoX : Ros := gz ⟨3, 2, 40, Vector.replicate 16 0, 0, false⟩
theorem run_bldG3 (a b c : Int) (w : World) : (Instr.build 23 #[(0, .int .i64 a), (1, .int .i64 b), (2, .int .i64 c)]).run Try.prog w = .ok (geo (gz ⟨a, b, c, Vector.replicate 16 0, 0, false⟩)) w := by kernel_rfl
theorem exec_bldG3 {ρ : Operand → Value} {o : Oper} {x y z : Operand} {w : World} {a b c : Int} (ho : o.op = .build 23 #[(0, x), (1, y), (2, z)]) (hx : ρ x = .int .i64 a) (hy : ρ y = .int .i64 b) (hz : ρ z = .int .i64 c) : (execOp ρ o).run Try.prog w = .ok (.value (geo (gz ⟨a, b, c, Vector.replicate 16 0, 0, false⟩))) w := by
  unfold execOp
  simp only [ho, hx, hy, hz, List.map_toArray, List.map_cons, List.map_nil, Sem.run_bind, run_bldG3, Result.andThen_ok, Sem.run_pure]
set_option maxHeartbeats 1000000 in
theorem ptwo (w : World) : Calls Try.prog 38 #[] w fun e w' => e = .returned (ros twoX) ∧ Below w.heap.size w w' := by
  have HT1 : Hid (Blks w (w.alloc (.cells (celR zeroR).toArray 26)) [rc w.heap.size zeroR]) := Lib.hid ((Blks.nil w).allocR zeroR)
  go_enter Try.func38, Try.ntmps38
  go_upto_region 1 with (first | (refine wpList_valn rfl (exec_allocR rfl) ?_) | fail)
  generalize w.alloc (.cells (celR zeroR).toArray 26) = w1 at *
  refine wp_region_lit ?_
  refine wpList_valn rfl (exec_bldG3 rfl evk evk evk) ?_
  simp only [Act.put, List.setIfInBounds_toArray, List.set_cons_succ, List.set_cons_zero]
  refine wpList_call rfl (exec_cl Try.call7 rfl (evc (ev rfl) evn)) ?_
  refine (pnew_v (y := twoX) (e := 0) w1 (by decide +kernel) (by decide +kernel)).mono ?_
  rintro e w2 ⟨rfl, hb⟩
  have HT2 := Lib.hid (HT1.out.call hb)
  clear hb HT1
  refine ⟨_, rfl, ?_⟩
  simp only [Act.put, List.setIfInBounds_toArray, List.set_cons_succ, List.set_cons_zero]
  refine wpList_valn rfl (exec_mv rfl (ev rfl)) ?_
  simp only [Act.put, List.setIfInBounds_toArray, List.set_cons_succ, List.set_cons_zero]
  refine wpList_valn rfl (exec_ext rfl (ev rfl) rfl) ?_
  simp only [Act.put, List.setIfInBounds_toArray, List.set_cons_succ, List.set_cons_zero]
  refine wpList_valn rfl (exec_ext rfl (ev rfl) rfl) ?_
  simp only [Act.put, List.setIfInBounds_toArray, List.set_cons_succ, List.set_cons_zero]
  refine wpList_valn rfl (exec_allocR rfl) ?_
  simp only [Act.put, List.setIfInBounds_toArray, List.set_cons_succ, List.set_cons_zero]
  have HT3 : Hid (Blks w (w2.alloc (.cells (celR zeroR).toArray 26)) [rc w.heap.size (zeroR), rc w2.heap.size (zeroR)]) := Lib.hid (HT2.out.allocR zeroR)
  clear HT2
  generalize w2.alloc (.cells (celR zeroR).toArray 26) = w3 at *
  generalize w2.heap.size = b1 at *
  refine wpList_nuln rfl (exec_putR rfl (ev rfl) (ev rfl) (HT3.out.ros (i := 1) rfl)) ?_
  simp only [Act.put, List.setIfInBounds_toArray, List.set_cons_succ, List.set_cons_zero]
  have HT4 : Hid (Blks w (putW w3 b1 (twoX)) [rc w.heap.size (zeroR), rc b1 (twoX)]) := Lib.hid (HT3.out.putR (i := 1) rfl (twoX))
  clear HT3
  generalize putW w3 b1 (twoX) = w4 at *
  refine wpList_valn rfl (exec_as rfl (ev rfl)) ?_
  simp only [Act.put, List.setIfInBounds_toArray, List.set_cons_succ, List.set_cons_zero]
  refine wpList_nil ?_
  go_upto_region 2 with fail
  refine wp_region_lit ?_
  refine wpList_valn rfl (exec_mv rfl (ev rfl)) ?_
  simp only [Act.put, List.setIfInBounds_toArray, List.set_cons_succ, List.set_cons_zero]
  refine wpList_valn (v := .bool false) rfl (exec_neInt false rfl (ev rfl) evk rfl) ?_
  simp only [Act.put, List.setIfInBounds_toArray, List.set_cons_succ, List.set_cons_zero]
  refine wpList_nil ?_
  go_upto_region 4 with fail
  refine wp_region_lit ?_
  refine wpList_valn rfl (exec_ldR rfl (ev rfl) (HT4.out.ros (i := 1) rfl)) ?_
  simp only [Act.put, List.setIfInBounds_toArray, List.set_cons_succ, List.set_cons_zero]
  refine wpList_nuln rfl (exec_putR rfl (ev rfl) (ev rfl) (HT4.out.ros (i := 0) rfl)) ?_
  simp only [Act.put, List.setIfInBounds_toArray, List.set_cons_succ, List.set_cons_zero]
  have HT5 : Hid (Blks w (putW w4 w.heap.size (twoX)) [rc w.heap.size (twoX), rc b1 (twoX)]) := Lib.hid (HT4.out.putR (i := 0) rfl (twoX))
  clear HT4
  generalize putW w4 w.heap.size (twoX) = w5 at *
  refine wpList_nil ?_
  go_wp2_with fail
  exact bodyPost_ret (res_r1 rfl _ _ _ rfl (HT5.out.ros (i := 0) rfl)) rfl ⟨rfl, HT5.out.bel⟩
def twoA : Ros := losX twoX 1
def twoB : Ros := begX twoA 1
def twoC : Ros := nexX twoB
def twoD : Ros := nexX twoC
set_option maxHeartbeats 2000000 in
theorem plives (w : World) : Calls Try.prog 27 #[] w fun e w' => e = .returned (.bool true) ∧ Below w.heap.size w w' := by
  have HT1 := Lib.hid (Blks.nil w)
  go_enter Try.func27, Try.ntmps27
  go_upto_region 1 with fail
  refine wp_region_lit ?_
  refine wpList_call rfl (exec_cl Try.call38 rfl evn) ?_
  refine (ptwo w).mono ?_
  rintro e w2 ⟨rfl, hb⟩
  have HT2 := Lib.hid (HT1.out.call hb)
  clear hb HT1
  refine ⟨_, rfl, ?_⟩
  simp only [Act.put, List.setIfInBounds_toArray, List.set_cons_succ, List.set_cons_zero]
  refine wpList_call rfl (exec_cl Try.call19 rfl (evc (ev rfl) (evc evk evn))) ?_
  refine (plose_v (y := twoA) (b := true) w2 (by decide +kernel) (by decide +kernel)).mono ?_
  rintro e w3 ⟨rfl, hb⟩
  have HT3 := Lib.hid (HT2.out.call hb)
  clear hb HT2
  refine ⟨_, rfl, ?_⟩
  simp only [Act.put, List.setIfInBounds_toArray, List.set_cons_succ, List.set_cons_zero]
  refine wpList_valn rfl (exec_mv rfl (ev rfl)) ?_
  simp only [Act.put, List.setIfInBounds_toArray, List.set_cons_succ, List.set_cons_zero]
  refine wpList_valn rfl (exec_ext rfl (ev rfl) rfl) ?_
  simp only [Act.put, List.setIfInBounds_toArray, List.set_cons_succ, List.set_cons_zero]
  refine wpList_valn rfl (exec_ext rfl (ev rfl) rfl) ?_
  simp only [Act.put, List.setIfInBounds_toArray, List.set_cons_succ, List.set_cons_zero]
  refine wpList_valn rfl (exec_allocR rfl) ?_
  simp only [Act.put, List.setIfInBounds_toArray, List.set_cons_succ, List.set_cons_zero]
  have HT4 : Hid (Blks w (w3.alloc (.cells (celR zeroR).toArray 26)) [rc w3.heap.size (zeroR)]) := Lib.hid (HT3.out.allocR zeroR)
  clear HT3
  generalize w3.alloc (.cells (celR zeroR).toArray 26) = w4 at *
  generalize w3.heap.size = b1 at *
  refine wpList_nuln rfl (exec_putR rfl (ev rfl) (ev rfl) (HT4.out.ros (i := 0) rfl)) ?_
  simp only [Act.put, List.setIfInBounds_toArray, List.set_cons_succ, List.set_cons_zero]
  have HT5 : Hid (Blks w (putW w4 b1 (twoA)) [rc b1 (twoA)]) := Lib.hid (HT4.out.putR (i := 0) rfl (twoA))
  clear HT4
  generalize putW w4 b1 (twoA) = w5 at *
  refine wpList_valn rfl (exec_as rfl (ev rfl)) ?_
  simp only [Act.put, List.setIfInBounds_toArray, List.set_cons_succ, List.set_cons_zero]
  refine wpList_nil ?_
  go_upto_region 2 with fail
  refine wp_region_lit ?_
  refine wpList_valn rfl (exec_ldR rfl (ev rfl) (HT5.out.ros (i := 0) rfl)) ?_
  simp only [Act.put, List.setIfInBounds_toArray, List.set_cons_succ, List.set_cons_zero]
  refine wpList_call rfl (exec_cl Try.call21 rfl (evc (ev rfl) (evc evk evn))) ?_
  refine (pbeg_v (y := twoB) (e := 0) w5 (by decide +kernel) (by decide +kernel)).mono ?_
  rintro e w6 ⟨rfl, hb⟩
  have HT6 := Lib.hid (HT5.out.call hb)
  clear hb HT5
  refine ⟨_, rfl, ?_⟩
  simp only [Act.put, List.setIfInBounds_toArray, List.set_cons_succ, List.set_cons_zero]
  refine wpList_valn rfl (exec_mv rfl (ev rfl)) ?_
  simp only [Act.put, List.setIfInBounds_toArray, List.set_cons_succ, List.set_cons_zero]
  refine wpList_valn rfl (exec_ext rfl (ev rfl) rfl) ?_
  simp only [Act.put, List.setIfInBounds_toArray, List.set_cons_succ, List.set_cons_zero]
  refine wpList_valn rfl (exec_ext rfl (ev rfl) rfl) ?_
  simp only [Act.put, List.setIfInBounds_toArray, List.set_cons_succ, List.set_cons_zero]
  refine wpList_valn rfl (exec_allocR rfl) ?_
  simp only [Act.put, List.setIfInBounds_toArray, List.set_cons_succ, List.set_cons_zero]
  have HT7 : Hid (Blks w (w6.alloc (.cells (celR zeroR).toArray 26)) [rc b1 (twoA), rc w6.heap.size (zeroR)]) := Lib.hid (HT6.out.allocR zeroR)
  clear HT6
  generalize w6.alloc (.cells (celR zeroR).toArray 26) = w7 at *
  generalize w6.heap.size = b3 at *
  refine wpList_nuln rfl (exec_putR rfl (ev rfl) (ev rfl) (HT7.out.ros (i := 1) rfl)) ?_
  simp only [Act.put, List.setIfInBounds_toArray, List.set_cons_succ, List.set_cons_zero]
  have HT8 : Hid (Blks w (putW w7 b3 (twoB)) [rc b1 (twoA), rc b3 (twoB)]) := Lib.hid (HT7.out.putR (i := 1) rfl (twoB))
  clear HT7
  generalize putW w7 b3 (twoB) = w8 at *
  refine wpList_valn rfl (exec_as rfl (ev rfl)) ?_
  simp only [Act.put, List.setIfInBounds_toArray, List.set_cons_succ, List.set_cons_zero]
  refine wpList_nil ?_
  go_upto_region 3 with fail
  refine wp_region_lit ?_
  refine wpList_valn rfl (exec_ldR rfl (ev rfl) (HT8.out.ros (i := 1) rfl)) ?_
  simp only [Act.put, List.setIfInBounds_toArray, List.set_cons_succ, List.set_cons_zero]
  refine wpList_call rfl (exec_cl Try.call23 rfl (evc (ev rfl) evn)) ?_
  refine (pnext_v (y := twoC) (e := 0) w8 (by decide +kernel) (by decide +kernel)).mono ?_
  rintro e w9 ⟨rfl, hb⟩
  have HT9 := Lib.hid (HT8.out.call hb)
  clear hb HT8
  refine ⟨_, rfl, ?_⟩
  simp only [Act.put, List.setIfInBounds_toArray, List.set_cons_succ, List.set_cons_zero]
  refine wpList_valn rfl (exec_mv rfl (ev rfl)) ?_
  simp only [Act.put, List.setIfInBounds_toArray, List.set_cons_succ, List.set_cons_zero]
  refine wpList_valn rfl (exec_ext rfl (ev rfl) rfl) ?_
  simp only [Act.put, List.setIfInBounds_toArray, List.set_cons_succ, List.set_cons_zero]
  refine wpList_valn rfl (exec_ext rfl (ev rfl) rfl) ?_
  simp only [Act.put, List.setIfInBounds_toArray, List.set_cons_succ, List.set_cons_zero]
  refine wpList_valn rfl (exec_allocR rfl) ?_
  simp only [Act.put, List.setIfInBounds_toArray, List.set_cons_succ, List.set_cons_zero]
  have HT10 : Hid (Blks w (w9.alloc (.cells (celR zeroR).toArray 26)) [rc b1 (twoA), rc b3 (twoB), rc w9.heap.size (zeroR)]) := Lib.hid (HT9.out.allocR zeroR)
  clear HT9
  generalize w9.alloc (.cells (celR zeroR).toArray 26) = w10 at *
  generalize w9.heap.size = b5 at *
  refine wpList_nuln rfl (exec_putR rfl (ev rfl) (ev rfl) (HT10.out.ros (i := 2) rfl)) ?_
  simp only [Act.put, List.setIfInBounds_toArray, List.set_cons_succ, List.set_cons_zero]
  have HT11 : Hid (Blks w (putW w10 b5 (twoC)) [rc b1 (twoA), rc b3 (twoB), rc b5 (twoC)]) := Lib.hid (HT10.out.putR (i := 2) rfl (twoC))
  clear HT10
  generalize putW w10 b5 (twoC) = w11 at *
  refine wpList_valn rfl (exec_as rfl (ev rfl)) ?_
  simp only [Act.put, List.setIfInBounds_toArray, List.set_cons_succ, List.set_cons_zero]
  refine wpList_nil ?_
  go_upto_region 4 with fail
  refine wp_region_lit ?_
  refine wpList_valn rfl (exec_ldR rfl (ev rfl) (HT11.out.ros (i := 2) rfl)) ?_
  simp only [Act.put, List.setIfInBounds_toArray, List.set_cons_succ, List.set_cons_zero]
  refine wpList_call rfl (exec_cl Try.call23 rfl (evc (ev rfl) evn)) ?_
  refine (pnext_v (y := twoD) (e := 0) w11 (by decide +kernel) (by decide +kernel)).mono ?_
  rintro e w12 ⟨rfl, hb⟩
  have HT12 := Lib.hid (HT11.out.call hb)
  clear hb HT11
  refine ⟨_, rfl, ?_⟩
  simp only [Act.put, List.setIfInBounds_toArray, List.set_cons_succ, List.set_cons_zero]
  refine wpList_valn rfl (exec_mv rfl (ev rfl)) ?_
  simp only [Act.put, List.setIfInBounds_toArray, List.set_cons_succ, List.set_cons_zero]
  refine wpList_valn rfl (exec_ext rfl (ev rfl) rfl) ?_
  simp only [Act.put, List.setIfInBounds_toArray, List.set_cons_succ, List.set_cons_zero]
  refine wpList_valn rfl (exec_ext rfl (ev rfl) rfl) ?_
  simp only [Act.put, List.setIfInBounds_toArray, List.set_cons_succ, List.set_cons_zero]
  refine wpList_valn rfl (exec_allocR rfl) ?_
  simp only [Act.put, List.setIfInBounds_toArray, List.set_cons_succ, List.set_cons_zero]
  have HT13 : Hid (Blks w (w12.alloc (.cells (celR zeroR).toArray 26)) [rc b1 (twoA), rc b3 (twoB), rc b5 (twoC), rc w12.heap.size (zeroR)]) := Lib.hid (HT12.out.allocR zeroR)
  clear HT12
  generalize w12.alloc (.cells (celR zeroR).toArray 26) = w13 at *
  generalize w12.heap.size = b7 at *
  refine wpList_nuln rfl (exec_putR rfl (ev rfl) (ev rfl) (HT13.out.ros (i := 3) rfl)) ?_
  simp only [Act.put, List.setIfInBounds_toArray, List.set_cons_succ, List.set_cons_zero]
  have HT14 : Hid (Blks w (putW w13 b7 (twoD)) [rc b1 (twoA), rc b3 (twoB), rc b5 (twoC), rc b7 (twoD)]) := Lib.hid (HT13.out.putR (i := 3) rfl (twoD))
  clear HT13
  generalize putW w13 b7 (twoD) = w14 at *
  refine wpList_valn rfl (exec_as rfl (ev rfl)) ?_
  simp only [Act.put, List.setIfInBounds_toArray, List.set_cons_succ, List.set_cons_zero]
  refine wpList_nil ?_
  go_upto_region 5 with fail
  refine wp_region_lit ?_
  refine wpList_valn rfl (exec_ldR rfl (ev rfl) (HT14.out.ros (i := 3) rfl)) ?_
  simp only [Act.put, List.setIfInBounds_toArray, List.set_cons_succ, List.set_cons_zero]
  refine wpList_call rfl (exec_cl Try.call23 rfl (evc (ev rfl) evn)) ?_
  refine (pnext_v (y := zeroR) (e := 17) w14 (by decide +kernel) (by decide +kernel)).mono ?_
  rintro e w15 ⟨rfl, hb⟩
  have HT15 := Lib.hid (HT14.out.call hb)
  clear hb HT14
  refine ⟨_, rfl, ?_⟩
  simp only [Act.put, List.setIfInBounds_toArray, List.set_cons_succ, List.set_cons_zero]
  refine wpList_valn rfl (exec_mv rfl (ev rfl)) ?_
  simp only [Act.put, List.setIfInBounds_toArray, List.set_cons_succ, List.set_cons_zero]
  refine wpList_valn rfl (exec_ext rfl (ev rfl) rfl) ?_
  simp only [Act.put, List.setIfInBounds_toArray, List.set_cons_succ, List.set_cons_zero]
  refine wpList_valn rfl (exec_ext rfl (ev rfl) rfl) ?_
  simp only [Act.put, List.setIfInBounds_toArray, List.set_cons_succ, List.set_cons_zero]
  refine wpList_valn rfl (exec_allocR rfl) ?_
  simp only [Act.put, List.setIfInBounds_toArray, List.set_cons_succ, List.set_cons_zero]
  have HT16 : Hid (Blks w (w15.alloc (.cells (celR zeroR).toArray 26)) [rc b1 (twoA), rc b3 (twoB), rc b5 (twoC), rc b7 (twoD), rc w15.heap.size (zeroR)]) := Lib.hid (HT15.out.allocR zeroR)
  clear HT15
  generalize w15.alloc (.cells (celR zeroR).toArray 26) = w16 at *
  generalize w15.heap.size = b9 at *
  refine wpList_nuln rfl (exec_putR rfl (ev rfl) (ev rfl) (HT16.out.ros (i := 4) rfl)) ?_
  simp only [Act.put, List.setIfInBounds_toArray, List.set_cons_succ, List.set_cons_zero]
  have HT17 : Hid (Blks w (putW w16 b9 (zeroR)) [rc b1 (twoA), rc b3 (twoB), rc b5 (twoC), rc b7 (twoD), rc b9 (zeroR)]) := Lib.hid (HT16.out.putR (i := 4) rfl (zeroR))
  clear HT16
  generalize putW w16 b9 (zeroR) = w17 at *
  refine wpList_valn rfl (exec_as rfl (ev rfl)) ?_
  simp only [Act.put, List.setIfInBounds_toArray, List.set_cons_succ, List.set_cons_zero]
  refine wpList_nil ?_
  go_upto_region 6 with fail
  refine wp_region_lit ?_
  refine wpList_call rfl (exec_cl Try.call38 rfl evn) ?_
  refine (ptwo w17).mono ?_
  rintro e w18 ⟨rfl, hb⟩
  have HT18 := Lib.hid (HT17.out.call hb)
  clear hb HT17
  refine ⟨_, rfl, ?_⟩
  simp only [Act.put, List.setIfInBounds_toArray, List.set_cons_succ, List.set_cons_zero]
  refine wpList_call rfl (exec_cl Try.call15 rfl (evc (ev rfl) evn)) ?_
  refine (pstate_n (n := 1) w18 (by decide +kernel)).mono ?_
  rintro e w19 ⟨rfl, hb⟩
  have HT19 := Lib.hid (HT18.out.call hb)
  clear hb HT18
  refine ⟨_, rfl, ?_⟩
  simp only [Act.put, List.setIfInBounds_toArray, List.set_cons_succ, List.set_cons_zero]
  refine wpList_valn (v := .bool true) rfl (exec_eqInt true rfl (ev rfl) evk rfl) ?_
  simp only [Act.put, List.setIfInBounds_toArray, List.set_cons_succ, List.set_cons_zero]
  refine wpList_valn (v := .bool true) rfl (exec_mv rfl (ev rfl)) ?_
  simp only [Act.put, List.setIfInBounds_toArray, List.set_cons_succ, List.set_cons_zero]
  refine wpList_val (v := .bool true) (wanted_of rfl rfl rfl rfl) (exec_mv rfl (ev rfl)) ?_
  simp only [Act.put, List.setIfInBounds_toArray, List.set_cons_succ, List.set_cons_zero]
  refine wpList_valn (v := .bool true) rfl (exec_pt rfl (ev rfl) (ev rfl)) ?_
  simp only [Act.put, List.setIfInBounds_toArray, List.set_cons_succ, List.set_cons_zero]
  refine wpList_valn (v := .bool true) rfl (exec_mv rfl (ev rfl)) ?_
  simp only [Act.put, List.setIfInBounds_toArray, List.set_cons_succ, List.set_cons_zero]
  refine wpList_val (wanted_of rfl rfl rfl rfl) (exec_ldR rfl (ev rfl) (HT19.out.ros (i := 0) rfl)) ?_
  simp only [Act.put, List.setIfInBounds_toArray, List.set_cons_succ, List.set_cons_zero]
  refine wpList_call (wanted_of rfl rfl rfl rfl) (exec_cl Try.call15 rfl (evc (ev rfl) evn)) ?_
  refine (pstate_n (n := 2) w19 (by decide +kernel)).mono ?_
  rintro e w20 ⟨rfl, hb⟩
  have HT20 := Lib.hid (HT19.out.call hb)
  clear hb HT19
  refine ⟨_, rfl, ?_⟩
  simp only [Act.put, List.setIfInBounds_toArray, List.set_cons_succ, List.set_cons_zero]
  refine wpList_val (v := .bool true) (wanted_of rfl rfl rfl rfl) (exec_eqInt true rfl (ev rfl) evk rfl) ?_
  simp only [Act.put, List.setIfInBounds_toArray, List.set_cons_succ, List.set_cons_zero]
  refine wpList_valn (v := .bool true) rfl (exec_pt rfl (ev rfl) (ev rfl)) ?_
  simp only [Act.put, List.setIfInBounds_toArray, List.set_cons_succ, List.set_cons_zero]
  refine wpList_valn (v := .bool true) rfl (exec_mv rfl (ev rfl)) ?_
  simp only [Act.put, List.setIfInBounds_toArray, List.set_cons_succ, List.set_cons_zero]
  refine wpList_val (wanted_of rfl rfl rfl rfl) (exec_ldR rfl (ev rfl) (HT20.out.ros (i := 0) rfl)) ?_
  simp only [Act.put, List.setIfInBounds_toArray, List.set_cons_succ, List.set_cons_zero]
  refine wpList_call (wanted_of rfl rfl rfl rfl) (exec_cl Try.call11 rfl (evc (ev rfl) (evc evk (evc evk evn)))) ?_
  refine (phas_b (b := false) w20 (by decide +kernel)).mono ?_
  rintro e w21 ⟨rfl, hb⟩
  have HT21 := Lib.hid (HT20.out.call hb)
  clear hb HT20
  refine ⟨_, rfl, ?_⟩
  simp only [Act.put, List.setIfInBounds_toArray, List.set_cons_succ, List.set_cons_zero]
  refine wpList_val (v := .bool true) (wanted_of rfl rfl rfl rfl) (exec_not false rfl (ev rfl)) ?_
  simp only [Act.put, List.setIfInBounds_toArray, List.set_cons_succ, List.set_cons_zero]
  refine wpList_valn (v := .bool true) rfl (exec_pt rfl (ev rfl) (ev rfl)) ?_
  simp only [Act.put, List.setIfInBounds_toArray, List.set_cons_succ, List.set_cons_zero]
  refine wpList_valn (v := .bool true) rfl (exec_mv rfl (ev rfl)) ?_
  simp only [Act.put, List.setIfInBounds_toArray, List.set_cons_succ, List.set_cons_zero]
  refine wpList_val (wanted_of rfl rfl rfl rfl) (exec_mv rfl (ev rfl)) ?_
  simp only [Act.put, List.setIfInBounds_toArray, List.set_cons_succ, List.set_cons_zero]
  refine wpList_val (v := .bool true) (wanted_of rfl rfl rfl rfl) (exec_eqInt true rfl (ev rfl) evk rfl) ?_
  simp only [Act.put, List.setIfInBounds_toArray, List.set_cons_succ, List.set_cons_zero]
  refine wpList_valn (v := .bool true) rfl (exec_pt rfl (ev rfl) (ev rfl)) ?_
  simp only [Act.put, List.setIfInBounds_toArray, List.set_cons_succ, List.set_cons_zero]
  refine wpList_valn (v := .bool true) rfl (exec_mv rfl (ev rfl)) ?_
  simp only [Act.put, List.setIfInBounds_toArray, List.set_cons_succ, List.set_cons_zero]
  refine wpList_val (wanted_of rfl rfl rfl rfl) (exec_ldR rfl (ev rfl) (HT21.out.ros (i := 1) rfl)) ?_
  simp only [Act.put, List.setIfInBounds_toArray, List.set_cons_succ, List.set_cons_zero]
  refine wpList_call (wanted_of rfl rfl rfl rfl) (exec_cl Try.call15 rfl (evc (ev rfl) evn)) ?_
  refine (pstate_n (n := 3) w21 (by decide +kernel)).mono ?_
  rintro e w22 ⟨rfl, hb⟩
  have HT22 := Lib.hid (HT21.out.call hb)
  clear hb HT21
  refine ⟨_, rfl, ?_⟩
  simp only [Act.put, List.setIfInBounds_toArray, List.set_cons_succ, List.set_cons_zero]
  refine wpList_val (v := .bool true) (wanted_of rfl rfl rfl rfl) (exec_eqInt true rfl (ev rfl) evk rfl) ?_
  simp only [Act.put, List.setIfInBounds_toArray, List.set_cons_succ, List.set_cons_zero]
  refine wpList_valn (v := .bool true) rfl (exec_pt rfl (ev rfl) (ev rfl)) ?_
  simp only [Act.put, List.setIfInBounds_toArray, List.set_cons_succ, List.set_cons_zero]
  refine wpList_valn (v := .bool true) rfl (exec_mv rfl (ev rfl)) ?_
  simp only [Act.put, List.setIfInBounds_toArray, List.set_cons_succ, List.set_cons_zero]
  refine wpList_val (wanted_of rfl rfl rfl rfl) (exec_mv rfl (ev rfl)) ?_
  simp only [Act.put, List.setIfInBounds_toArray, List.set_cons_succ, List.set_cons_zero]
  refine wpList_val (v := .bool true) (wanted_of rfl rfl rfl rfl) (exec_eqInt true rfl (ev rfl) evk rfl) ?_
  simp only [Act.put, List.setIfInBounds_toArray, List.set_cons_succ, List.set_cons_zero]
  refine wpList_valn (v := .bool true) rfl (exec_pt rfl (ev rfl) (ev rfl)) ?_
  simp only [Act.put, List.setIfInBounds_toArray, List.set_cons_succ, List.set_cons_zero]
  refine wpList_valn (v := .bool true) rfl (exec_mv rfl (ev rfl)) ?_
  simp only [Act.put, List.setIfInBounds_toArray, List.set_cons_succ, List.set_cons_zero]
  refine wpList_val (wanted_of rfl rfl rfl rfl) (exec_ldR rfl (ev rfl) (HT22.out.ros (i := 2) rfl)) ?_
  simp only [Act.put, List.setIfInBounds_toArray, List.set_cons_succ, List.set_cons_zero]
  refine wpList_call (wanted_of rfl rfl rfl rfl) (exec_cl Try.call11 rfl (evc (ev rfl) (evc evk (evc evk evn)))) ?_
  refine (phas_b (b := true) w22 (by decide +kernel)).mono ?_
  rintro e w23 ⟨rfl, hb⟩
  have HT23 := Lib.hid (HT22.out.call hb)
  clear hb HT22
  refine ⟨_, rfl, ?_⟩
  simp only [Act.put, List.setIfInBounds_toArray, List.set_cons_succ, List.set_cons_zero]
  refine wpList_valn (v := .bool true) rfl (exec_pt rfl (ev rfl) (ev rfl)) ?_
  simp only [Act.put, List.setIfInBounds_toArray, List.set_cons_succ, List.set_cons_zero]
  refine wpList_valn (v := .bool true) rfl (exec_mv rfl (ev rfl)) ?_
  simp only [Act.put, List.setIfInBounds_toArray, List.set_cons_succ, List.set_cons_zero]
  refine wpList_val (wanted_of rfl rfl rfl rfl) (exec_ldR rfl (ev rfl) (HT23.out.ros (i := 2) rfl)) ?_
  simp only [Act.put, List.setIfInBounds_toArray, List.set_cons_succ, List.set_cons_zero]
  refine wpList_call (wanted_of rfl rfl rfl rfl) (exec_cl Try.call11 rfl (evc (ev rfl) (evc evk (evc evk evn)))) ?_
  refine (phas_b (b := false) w23 (by decide +kernel)).mono ?_
  rintro e w24 ⟨rfl, hb⟩
  have HT24 := Lib.hid (HT23.out.call hb)
  clear hb HT23
  refine ⟨_, rfl, ?_⟩
  simp only [Act.put, List.setIfInBounds_toArray, List.set_cons_succ, List.set_cons_zero]
  refine wpList_val (v := .bool true) (wanted_of rfl rfl rfl rfl) (exec_not false rfl (ev rfl)) ?_
  simp only [Act.put, List.setIfInBounds_toArray, List.set_cons_succ, List.set_cons_zero]
  refine wpList_valn (v := .bool true) rfl (exec_pt rfl (ev rfl) (ev rfl)) ?_
  simp only [Act.put, List.setIfInBounds_toArray, List.set_cons_succ, List.set_cons_zero]
  refine wpList_valn (v := .bool true) rfl (exec_mv rfl (ev rfl)) ?_
  simp only [Act.put, List.setIfInBounds_toArray, List.set_cons_succ, List.set_cons_zero]
  refine wpList_val (wanted_of rfl rfl rfl rfl) (exec_mv rfl (ev rfl)) ?_
  simp only [Act.put, List.setIfInBounds_toArray, List.set_cons_succ, List.set_cons_zero]
  refine wpList_val (v := .bool true) (wanted_of rfl rfl rfl rfl) (exec_eqInt true rfl (ev rfl) evk rfl) ?_
  simp only [Act.put, List.setIfInBounds_toArray, List.set_cons_succ, List.set_cons_zero]
  refine wpList_valn (v := .bool true) rfl (exec_pt rfl (ev rfl) (ev rfl)) ?_
  simp only [Act.put, List.setIfInBounds_toArray, List.set_cons_succ, List.set_cons_zero]
  refine wpList_valn (v := .bool true) rfl (exec_mv rfl (ev rfl)) ?_
  simp only [Act.put, List.setIfInBounds_toArray, List.set_cons_succ, List.set_cons_zero]
  refine wpList_val (wanted_of rfl rfl rfl rfl) (exec_ldR rfl (ev rfl) (HT24.out.ros (i := 3) rfl)) ?_
  simp only [Act.put, List.setIfInBounds_toArray, List.set_cons_succ, List.set_cons_zero]
  refine wpList_call (wanted_of rfl rfl rfl rfl) (exec_cl Try.call15 rfl (evc (ev rfl) evn)) ?_
  refine (pstate_n (n := 1) w24 (by decide +kernel)).mono ?_
  rintro e w25 ⟨rfl, hb⟩
  have HT25 := Lib.hid (HT24.out.call hb)
  clear hb HT24
  refine ⟨_, rfl, ?_⟩
  simp only [Act.put, List.setIfInBounds_toArray, List.set_cons_succ, List.set_cons_zero]
  refine wpList_val (v := .bool true) (wanted_of rfl rfl rfl rfl) (exec_eqInt true rfl (ev rfl) evk rfl) ?_
  simp only [Act.put, List.setIfInBounds_toArray, List.set_cons_succ, List.set_cons_zero]
  refine wpList_valn (v := .bool true) rfl (exec_pt rfl (ev rfl) (ev rfl)) ?_
  simp only [Act.put, List.setIfInBounds_toArray, List.set_cons_succ, List.set_cons_zero]
  refine wpList_valn (v := .bool true) rfl (exec_mv rfl (ev rfl)) ?_
  simp only [Act.put, List.setIfInBounds_toArray, List.set_cons_succ, List.set_cons_zero]
  refine wpList_val (wanted_of rfl rfl rfl rfl) (exec_mv rfl (ev rfl)) ?_
  simp only [Act.put, List.setIfInBounds_toArray, List.set_cons_succ, List.set_cons_zero]
  refine wpList_val (v := .bool true) (wanted_of rfl rfl rfl rfl) (exec_eqInt true rfl (ev rfl) evk rfl) ?_
  simp only [Act.put, List.setIfInBounds_toArray, List.set_cons_succ, List.set_cons_zero]
  refine wpList_valn (v := .bool true) rfl (exec_pt rfl (ev rfl) (ev rfl)) ?_
  simp only [Act.put, List.setIfInBounds_toArray, List.set_cons_succ, List.set_cons_zero]
  refine wpList_valn (v := .bool true) rfl (exec_as rfl (ev rfl)) ?_
  simp only [Act.put, List.setIfInBounds_toArray, List.set_cons_succ, List.set_cons_zero]
  refine wpList_nil ?_
  go_wp2_with fail
  go_ret
  exact ⟨rfl, HT25.out.bel⟩
end Go.Proofs.Ytnckcafemdcaeaa
