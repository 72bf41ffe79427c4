/-
  ashlarlaw10.geo, acts.
-/
import Derived.Test.YtnckcafemdcaeaaRoe
import Derived.Test.YtnckcafemdcaeaaActT
import Derived.Test.YtnckcafemdcaeaaSkip
import Derived.Test.YtnckcafemdcaeaaSkq
namespace Go.Proofs.Ytnckcafemdcaeaa
open Go.RowKit
set_option linter.unusedVariables false
set_option linter.unusedSimpArgs false
set_option maxRecDepth 100000

section
variable {ρ : Operand → Value} {o : Oper} {x : Operand} {w : World} {a : Int}
theorem run_cvU8 (h : IntKind.i64.wrap a = a) : (convert 5 3 (.int .u8 a)).run Try.prog w = .ok (.int .i64 a) w := by
  simp [go_sem, run_underlying Try.underlying5, run_underlying Try.underlying3, h]
theorem exec_cvU8 (ho : o.op = .convert 5 3 x) (hx : ρ x = .int .u8 a) (h : IntKind.i64.wrap a = a) : (execOp ρ o).run Try.prog w = .ok (.value (.int .i64 a)) w := by
  unfold execOp
  simp only [ho, hx, Sem.run_bind, run_cvU8 h, Result.andThen_ok, Sem.run_pure]
end
/-- The geometry of the law's two numbers. -/
def gX (a b : Nat) : Ros := gz ⟨3 + (a % 14 : Nat), 1 + (b % 64 : Nat), 40, Vector.replicate 16 0, 0, false⟩
theorem exec_bldGX {ρ : Operand → Value} {o : Oper} {x y z : Operand} {w : World} {a b : Nat} (ho : o.op = .build 23 #[(0, x), (1, y), (2, z)]) (hx : ρ x = .int .i64 (3 + (a % 14 : Nat))) (hy : ρ y = .int .i64 (1 + (b % 64 : Nat))) (hz : ρ z = .int .i64 40) : (execOp ρ o).run Try.prog w = .ok (.value (geo (gX a b))) w := exec_bldG3 ho hx hy hz
theorem gX_m (a b : Nat) : (gX a b).m = 3 + (a % 14 : Nat) := rfl
theorem gX_s (a b : Nat) : (gX a b).s = 1 + (b % 64 : Nat) := rfl
theorem gX_geo (a b : Nat) : geoB (gX a b) = true := decide_eq_true (by
  show 3 ≤ (3 : Int) + (a % 14 : Nat) ∧ (3 : Int) + (a % 14 : Nat) ≤ 16 ∧ 1 ≤ (1 : Int) + (b % 64 : Nat) ∧ (1 : Int) + (b % 64 : Nat) ≤ 64 ∧ (40 : Int) ≤ 40 ∧ (40 : Int) ≤ 256
  omega)
theorem gX_gz (a b : Nat) : gz (gX a b) = gX a b := rfl
theorem gX_fine (a b : Nat) : fineB (gX a b) = true := by rw [← gX_gz, fine_gz, gX_geo]
theorem gX_new (a b : Nat) : newX (gX a b) = gX a b := by unfold newX; rw [gX_geo]; rfl
theorem gX_newE (a b : Nat) : newE (gX a b) = 0 := by unfold newE; rw [gX_geo]; rfl
theorem rem_nat {a k : Nat} (h : 0 < k) : ((a : Int)).tmod (k : Int) = ((a % k : Nat) : Int) := by
  rw [Int.ofNat_tmod]
theorem res_g1 {fn : Func} {p : Tmp} {c : Ros} (h : fn.results = #[.cell p 23]) (tmps : Array Value) (w : World) (b : Nat) (hp : tmps.getD p undef = .pointer (some ⟨b, 0, none⟩)) (hc : w.rangeAt b 0 (celG c)) :
    (results fn tmps).run Try.prog w = .ok (geo c) w := res_rng h tmps w b hp hc Try.underlying23 rfl sizeG
set_option maxHeartbeats 1000000 in
theorem pgeo {a b : Nat} (ha : a ≤ 255) (hb : b ≤ 255) (w : World) : Calls Try.prog 28 #[.int .u8 (a : Int), .int .u8 (b : Int)] w fun e w' => e = .returned (geo (gX a b)) ∧ Below w.heap.size w w' := by
  have HT1 : Hid (Blks w (w.alloc (.cells (celG zeroR).toArray 23)) [gc w.heap.size zeroR]) := Lib.hid ((Blks.nil w).allocG zeroR)
  have HCA := Lib.hid (IntWalk.i64_in (a : Int) (by omega))
  have HCB := Lib.hid (IntWalk.i64_in (b : Int) (by omega))
  have HRA : Hid (((a : Int)).tmod 14 = ((a % 14 : Nat) : Int)) := Lib.hid (rem_nat (k := 14) (by omega))
  have HRB : Hid (((b : Int)).tmod 64 = ((b % 64 : Nat) : Int)) := Lib.hid (rem_nat (k := 64) (by omega))
  have HSA := Lib.hid (IntWalk.i64_in ((3 : Int) + (a % 14 : Nat)) (by omega))
  have HSB := Lib.hid (IntWalk.i64_in ((1 : Int) + (b % 64 : Nat)) (by omega))
  go_enter Try.func28, Try.ntmps28
  go_upto_region 1 with (first | (refine wpList_valn rfl (exec_allocG rfl) ?_) | fail)
  generalize w.alloc (.cells (celG zeroR).toArray 23) = w1 at *
  refine wp_region_lit ?_
  refine wpList_valn rfl (exec_mv rfl (ev rfl)) ?_
  simp only [Act.put, List.setIfInBounds_toArray, List.set_cons_succ, List.set_cons_zero]
  refine wpList_valn rfl (exec_cvU8 rfl (ev rfl) HCA.out) ?_
  simp only [Act.put, List.setIfInBounds_toArray, List.set_cons_succ, List.set_cons_zero]
  refine wpList_valn rfl (exec_rem rfl (ev rfl) evk (by omega) HRA.out) ?_
  simp only [Act.put, List.setIfInBounds_toArray, List.set_cons_succ, List.set_cons_zero]
  refine wpList_valn rfl (exec_add rfl evk (ev rfl) HSA.out) ?_
  simp only [Act.put, List.setIfInBounds_toArray, List.set_cons_succ, List.set_cons_zero]
  refine wpList_valn rfl (exec_mv rfl (ev rfl)) ?_
  simp only [Act.put, List.setIfInBounds_toArray, List.set_cons_succ, List.set_cons_zero]
  refine wpList_valn rfl (exec_cvU8 rfl (ev rfl) HCB.out) ?_
  simp only [Act.put, List.setIfInBounds_toArray, List.set_cons_succ, List.set_cons_zero]
  refine wpList_valn rfl (exec_rem rfl (ev rfl) evk (by omega) HRB.out) ?_
  simp only [Act.put, List.setIfInBounds_toArray, List.set_cons_succ, List.set_cons_zero]
  refine wpList_valn rfl (exec_add rfl evk (ev rfl) HSB.out) ?_
  simp only [Act.put, List.setIfInBounds_toArray, List.set_cons_succ, List.set_cons_zero]
  refine wpList_valn rfl (exec_bldGX rfl (ev rfl) (ev rfl) evk) ?_
  simp only [Act.put, List.setIfInBounds_toArray, List.set_cons_succ, List.set_cons_zero]
  refine wpList_nuln rfl (exec_putV rfl (ev rfl) (ev rfl) (HT1.out.thereG (i := 0) rfl)) ?_
  simp only [Act.put, List.setIfInBounds_toArray, List.set_cons_succ, List.set_cons_zero]
  have HT2 : Hid (Blks w (putV w1 w.heap.size (gX a b)) [gc w.heap.size (gX a b)]) := Lib.hid (HT1.out.putG (i := 0) rfl (gX a b))
  clear HT1
  generalize putV w1 w.heap.size (gX a b) = w2 at *
  refine wpList_nil ?_
  go_wp2_with fail
  exact bodyPost_ret (res_g1 rfl _ _ _ rfl (HT2.out.geo (i := 0) rfl)) rfl ⟨rfl, HT2.out.bel⟩
set_option maxHeartbeats 1000000 in
theorem pact_0 {x : Ros} {a : Act10} {y : Ros} {b : Bool} (hy : losX x a.M = y) (hb : losB x a.M = b) (d0 : (a.Do == 0) = true) (w : World) : Calls Try.prog 29 #[ros x, act10V a] w fun e w' => e = .returned (ros (y)) ∧ Below w.heap.size w w' := by
  have HY := Lib.hid hy
  have HB := Lib.hid hb
  have D0 := Lib.hid d0
  clear hy hb d0
  have HT1 := Lib.hid (Blks.nil w)
  go_enter Try.func29, Try.ntmps29
  go_upto_region 0 with fail
  refine wp_region_lit ?_
  refine wpList_valn rfl (exec_boxR rfl (ev rfl)) ?_
  simp only [Act.put, List.setIfInBounds_toArray, List.set_cons_succ, List.set_cons_zero]
  have HT2 : Hid (Blks w (w.alloc (.cells (celR x).toArray 26)) [rc w.heap.size (x)]) := Lib.hid (HT1.out.allocR x)
  clear HT1
  generalize w.alloc (.cells (celR x).toArray 26) = w2 at *
  generalize w.heap.size = b2 at *
  refine wpList_valn rfl (exec_boxA10 rfl (ev rfl)) ?_
  simp only [Act.put, List.setIfInBounds_toArray, List.set_cons_succ, List.set_cons_zero]
  have HT3 : Hid (Blks w (w2.alloc (.cells (act10C a).toArray 46)) [rc b2 (x), ac w2.heap.size (a)]) := Lib.hid (HT2.out.allocA a)
  clear HT2
  generalize w2.alloc (.cells (act10C a).toArray 46) = w3 at *
  generalize w2.heap.size = b3 at *
  refine wpList_valn rfl (exec_allocR rfl) ?_
  simp only [Act.put, List.setIfInBounds_toArray, List.set_cons_succ, List.set_cons_zero]
  have HT4 : Hid (Blks w (w3.alloc (.cells (celR zeroR).toArray 26)) [rc b2 (x), ac b3 (a), rc w3.heap.size (zeroR)]) := Lib.hid (HT3.out.allocR zeroR)
  clear HT3
  generalize w3.alloc (.cells (celR zeroR).toArray 26) = w4 at *
  generalize w3.heap.size = b4 at *
  refine wpList_nil ?_
  go_upto_region 1 with fail
  refine wp_region_lit ?_
  refine wpList_valn rfl (exec_ldR rfl (ev rfl) (HT4.out.ros (i := 0) rfl)) ?_
  simp only [Act.put, List.setIfInBounds_toArray, List.set_cons_succ, List.set_cons_zero]
  refine wpList_valn rfl (exec_allocR rfl) ?_
  simp only [Act.put, List.setIfInBounds_toArray, List.set_cons_succ, List.set_cons_zero]
  have HT5 : Hid (Blks w (w4.alloc (.cells (celR zeroR).toArray 26)) [rc b2 (x), ac b3 (a), rc b4 (zeroR), rc w4.heap.size (zeroR)]) := Lib.hid (HT4.out.allocR zeroR)
  clear HT4
  generalize w4.alloc (.cells (celR zeroR).toArray 26) = w5 at *
  generalize w4.heap.size = b5 at *
  refine wpList_nuln rfl (exec_putR rfl (ev rfl) (ev rfl) (HT5.out.ros (i := 3) rfl)) ?_
  simp only [Act.put, List.setIfInBounds_toArray, List.set_cons_succ, List.set_cons_zero]
  have HT6 : Hid (Blks w (putW w5 b5 (x)) [rc b2 (x), ac b3 (a), rc b4 (zeroR), rc b5 (x)]) := Lib.hid (HT5.out.putR (i := 3) rfl (x))
  clear HT5
  generalize putW w5 b5 (x) = w6 at *
  refine wpList_valn rfl (exec_as rfl evk) ?_
  simp only [Act.put, List.setIfInBounds_toArray, List.set_cons_succ, List.set_cons_zero]
  refine wpList_nil ?_
  go_upto_region 2 with fail
  refine wp_region_lit ?_
  refine wpList_valn rfl (exec_faddr rfl (ev rfl) faA0) ?_
  simp only [Act.put, List.setIfInBounds_toArray, List.set_cons_succ, List.set_cons_zero]
  refine wpList_valn rfl (exec_ld rfl (ev rfl) (ldInt (HT6.out.act (i := 1) rfl).1)) ?_
  simp only [Act.put, List.setIfInBounds_toArray, List.set_cons_succ, List.set_cons_zero]
  refine wpList_nil ?_
  go_upto_region 4 with fail
  refine wp_region_lit ?_
  refine wpList_valn (v := .bool true) rfl (exec_eqInt true rfl (ev rfl) evk D0.out) ?_
  simp only [Act.put, List.setIfInBounds_toArray, List.set_cons_succ, List.set_cons_zero]
  refine wpList_valn (v := .bool true) rfl (exec_as rfl (ev rfl)) ?_
  simp only [Act.put, List.setIfInBounds_toArray, List.set_cons_succ, List.set_cons_zero]
  refine wpList_nil ?_
  go_upto_region 5 with fail
  refine wp_region_lit ?_
  refine wpList_valn rfl (exec_ldR rfl (ev rfl) (HT6.out.ros (i := 0) rfl)) ?_
  simp only [Act.put, List.setIfInBounds_toArray, List.set_cons_succ, List.set_cons_zero]
  refine wpList_valn rfl (exec_faddr rfl (ev rfl) faA1) ?_
  simp only [Act.put, List.setIfInBounds_toArray, List.set_cons_succ, List.set_cons_zero]
  refine wpList_valn rfl (exec_ld rfl (ev rfl) (ldInt (HT6.out.act (i := 1) rfl).2.1)) ?_
  simp only [Act.put, List.setIfInBounds_toArray, List.set_cons_succ, List.set_cons_zero]
  refine wpList_call rfl (exec_cl Try.call19 rfl (evc (ev rfl) (evc (ev rfl) evn))) ?_
  refine (plose_v w6 HY.out HB.out).mono ?_
  rintro e w7 ⟨rfl, hb⟩
  have HT7 := Lib.hid (HT6.out.call hb)
  clear hb HT6
  refine ⟨_, rfl, ?_⟩
  simp only [Act.put, List.setIfInBounds_toArray, List.set_cons_succ, List.set_cons_zero]
  refine wpList_valn rfl (exec_mv rfl (ev rfl)) ?_
  simp only [Act.put, List.setIfInBounds_toArray, List.set_cons_succ, List.set_cons_zero]
  refine wpList_valn rfl (exec_ext rfl (ev rfl) rfl) ?_
  simp only [Act.put, List.setIfInBounds_toArray, List.set_cons_succ, List.set_cons_zero]
  refine wpList_valn rfl (exec_ext rfl (ev rfl) rfl) ?_
  simp only [Act.put, List.setIfInBounds_toArray, List.set_cons_succ, List.set_cons_zero]
  refine wpList_nuln rfl (exec_putR rfl (ev rfl) (ev rfl) (HT7.out.ros (i := 3) rfl)) ?_
  simp only [Act.put, List.setIfInBounds_toArray, List.set_cons_succ, List.set_cons_zero]
  have HT8 : Hid (Blks w (putW w7 b5 (y)) [rc b2 (x), ac b3 (a), rc b4 (zeroR), rc b5 (y)]) := Lib.hid (HT7.out.putR (i := 3) rfl (y))
  clear HT7
  generalize putW w7 b5 (y) = w8 at *
  refine wpList_nil ?_
  go_upto_region 10 with fail
  refine wp_region_lit ?_
  refine wpList_valn rfl (exec_mv rfl (ev rfl)) ?_
  simp only [Act.put, List.setIfInBounds_toArray, List.set_cons_succ, List.set_cons_zero]
  refine wpList_valn (v := .bool false) rfl (exec_neInt false rfl (ev rfl) evk rfl) ?_
  simp only [Act.put, List.setIfInBounds_toArray, List.set_cons_succ, List.set_cons_zero]
  refine wpList_nil ?_
  go_upto_region 12 with fail
  refine wp_region_lit ?_
  refine wpList_valn rfl (exec_ldR rfl (ev rfl) (HT8.out.ros (i := 3) rfl)) ?_
  simp only [Act.put, List.setIfInBounds_toArray, List.set_cons_succ, List.set_cons_zero]
  refine wpList_nuln rfl (exec_putR rfl (ev rfl) (ev rfl) (HT8.out.ros (i := 2) rfl)) ?_
  simp only [Act.put, List.setIfInBounds_toArray, List.set_cons_succ, List.set_cons_zero]
  have HT9 : Hid (Blks w (putW w8 b4 (y)) [rc b2 (x), ac b3 (a), rc b4 (y), rc b5 (y)]) := Lib.hid (HT8.out.putR (i := 2) rfl (y))
  clear HT8
  generalize putW w8 b4 (y) = w9 at *
  refine wpList_nil ?_
  go_wp2_with fail
  exact bodyPost_ret (res_r1 rfl _ _ _ rfl (HT9.out.ros (i := 2) rfl)) rfl ⟨rfl, HT9.out.bel⟩
set_option maxHeartbeats 1000000 in
theorem pact_1e {x : Ros} {a : Act10} {y : Ros} {e : Nat} (hy : begX x a.M = y) (he : begE x a.M = e) (hn : ((e : Int) != 0) = true) (d0 : (a.Do == 0) = false) (d1 : (a.Do == 1) = true) (w : World) : Calls Try.prog 29 #[ros x, act10V a] w fun e w' => e = .returned (ros (x)) ∧ Below w.heap.size w w' := by
  have HY := Lib.hid hy
  have HE := Lib.hid he
  have HN := Lib.hid hn
  have D0 := Lib.hid d0
  have D1 := Lib.hid d1
  clear hy he hn d0 d1
  have HT1 := Lib.hid (Blks.nil w)
  go_enter Try.func29, Try.ntmps29
  go_upto_region 0 with fail
  refine wp_region_lit ?_
  refine wpList_valn rfl (exec_boxR rfl (ev rfl)) ?_
  simp only [Act.put, List.setIfInBounds_toArray, List.set_cons_succ, List.set_cons_zero]
  have HT2 : Hid (Blks w (w.alloc (.cells (celR x).toArray 26)) [rc w.heap.size (x)]) := Lib.hid (HT1.out.allocR x)
  clear HT1
  generalize w.alloc (.cells (celR x).toArray 26) = w2 at *
  generalize w.heap.size = b2 at *
  refine wpList_valn rfl (exec_boxA10 rfl (ev rfl)) ?_
  simp only [Act.put, List.setIfInBounds_toArray, List.set_cons_succ, List.set_cons_zero]
  have HT3 : Hid (Blks w (w2.alloc (.cells (act10C a).toArray 46)) [rc b2 (x), ac w2.heap.size (a)]) := Lib.hid (HT2.out.allocA a)
  clear HT2
  generalize w2.alloc (.cells (act10C a).toArray 46) = w3 at *
  generalize w2.heap.size = b3 at *
  refine wpList_valn rfl (exec_allocR rfl) ?_
  simp only [Act.put, List.setIfInBounds_toArray, List.set_cons_succ, List.set_cons_zero]
  have HT4 : Hid (Blks w (w3.alloc (.cells (celR zeroR).toArray 26)) [rc b2 (x), ac b3 (a), rc w3.heap.size (zeroR)]) := Lib.hid (HT3.out.allocR zeroR)
  clear HT3
  generalize w3.alloc (.cells (celR zeroR).toArray 26) = w4 at *
  generalize w3.heap.size = b4 at *
  refine wpList_nil ?_
  go_upto_region 1 with fail
  refine wp_region_lit ?_
  refine wpList_valn rfl (exec_ldR rfl (ev rfl) (HT4.out.ros (i := 0) rfl)) ?_
  simp only [Act.put, List.setIfInBounds_toArray, List.set_cons_succ, List.set_cons_zero]
  refine wpList_valn rfl (exec_allocR rfl) ?_
  simp only [Act.put, List.setIfInBounds_toArray, List.set_cons_succ, List.set_cons_zero]
  have HT5 : Hid (Blks w (w4.alloc (.cells (celR zeroR).toArray 26)) [rc b2 (x), ac b3 (a), rc b4 (zeroR), rc w4.heap.size (zeroR)]) := Lib.hid (HT4.out.allocR zeroR)
  clear HT4
  generalize w4.alloc (.cells (celR zeroR).toArray 26) = w5 at *
  generalize w4.heap.size = b5 at *
  refine wpList_nuln rfl (exec_putR rfl (ev rfl) (ev rfl) (HT5.out.ros (i := 3) rfl)) ?_
  simp only [Act.put, List.setIfInBounds_toArray, List.set_cons_succ, List.set_cons_zero]
  have HT6 : Hid (Blks w (putW w5 b5 (x)) [rc b2 (x), ac b3 (a), rc b4 (zeroR), rc b5 (x)]) := Lib.hid (HT5.out.putR (i := 3) rfl (x))
  clear HT5
  generalize putW w5 b5 (x) = w6 at *
  refine wpList_valn rfl (exec_as rfl evk) ?_
  simp only [Act.put, List.setIfInBounds_toArray, List.set_cons_succ, List.set_cons_zero]
  refine wpList_nil ?_
  go_upto_region 2 with fail
  refine wp_region_lit ?_
  refine wpList_valn rfl (exec_faddr rfl (ev rfl) faA0) ?_
  simp only [Act.put, List.setIfInBounds_toArray, List.set_cons_succ, List.set_cons_zero]
  refine wpList_valn rfl (exec_ld rfl (ev rfl) (ldInt (HT6.out.act (i := 1) rfl).1)) ?_
  simp only [Act.put, List.setIfInBounds_toArray, List.set_cons_succ, List.set_cons_zero]
  refine wpList_nil ?_
  go_upto_region 4 with fail
  refine wp_region_lit ?_
  refine wpList_valn (v := .bool false) rfl (exec_eqInt false rfl (ev rfl) evk D0.out) ?_
  simp only [Act.put, List.setIfInBounds_toArray, List.set_cons_succ, List.set_cons_zero]
  refine wpList_valn (v := .bool false) rfl (exec_as rfl (ev rfl)) ?_
  simp only [Act.put, List.setIfInBounds_toArray, List.set_cons_succ, List.set_cons_zero]
  refine wpList_nil ?_
  go_upto_region 6 with fail
  refine wp_region_lit ?_
  refine wpList_valn (v := .bool true) rfl (exec_eqInt true rfl (ev rfl) evk D1.out) ?_
  simp only [Act.put, List.setIfInBounds_toArray, List.set_cons_succ, List.set_cons_zero]
  refine wpList_valn (v := .bool true) rfl (exec_as rfl (ev rfl)) ?_
  simp only [Act.put, List.setIfInBounds_toArray, List.set_cons_succ, List.set_cons_zero]
  refine wpList_nil ?_
  go_upto_region 7 with fail
  refine wp_region_lit ?_
  refine wpList_valn rfl (exec_ldR rfl (ev rfl) (HT6.out.ros (i := 0) rfl)) ?_
  simp only [Act.put, List.setIfInBounds_toArray, List.set_cons_succ, List.set_cons_zero]
  refine wpList_valn rfl (exec_faddr rfl (ev rfl) faA1) ?_
  simp only [Act.put, List.setIfInBounds_toArray, List.set_cons_succ, List.set_cons_zero]
  refine wpList_valn rfl (exec_ld rfl (ev rfl) (ldInt (HT6.out.act (i := 1) rfl).2.1)) ?_
  simp only [Act.put, List.setIfInBounds_toArray, List.set_cons_succ, List.set_cons_zero]
  refine wpList_call rfl (exec_cl Try.call21 rfl (evc (ev rfl) (evc (ev rfl) evn))) ?_
  refine (pbeg_v w6 HY.out HE.out).mono ?_
  rintro e w7 ⟨rfl, hb⟩
  have HT7 := Lib.hid (HT6.out.call hb)
  clear hb HT6
  refine ⟨_, rfl, ?_⟩
  simp only [Act.put, List.setIfInBounds_toArray, List.set_cons_succ, List.set_cons_zero]
  refine wpList_valn rfl (exec_mv rfl (ev rfl)) ?_
  simp only [Act.put, List.setIfInBounds_toArray, List.set_cons_succ, List.set_cons_zero]
  refine wpList_valn rfl (exec_ext rfl (ev rfl) rfl) ?_
  simp only [Act.put, List.setIfInBounds_toArray, List.set_cons_succ, List.set_cons_zero]
  refine wpList_valn rfl (exec_ext rfl (ev rfl) rfl) ?_
  simp only [Act.put, List.setIfInBounds_toArray, List.set_cons_succ, List.set_cons_zero]
  refine wpList_nuln rfl (exec_putR rfl (ev rfl) (ev rfl) (HT7.out.ros (i := 3) rfl)) ?_
  simp only [Act.put, List.setIfInBounds_toArray, List.set_cons_succ, List.set_cons_zero]
  have HT8 : Hid (Blks w (putW w7 b5 (y)) [rc b2 (x), ac b3 (a), rc b4 (zeroR), rc b5 (y)]) := Lib.hid (HT7.out.putR (i := 3) rfl (y))
  clear HT7
  generalize putW w7 b5 (y) = w8 at *
  refine wpList_valn rfl (exec_as rfl (ev rfl)) ?_
  simp only [Act.put, List.setIfInBounds_toArray, List.set_cons_succ, List.set_cons_zero]
  refine wpList_nil ?_
  go_upto_region 10 with fail
  refine wp_region_lit ?_
  refine wpList_valn rfl (exec_mv rfl (ev rfl)) ?_
  simp only [Act.put, List.setIfInBounds_toArray, List.set_cons_succ, List.set_cons_zero]
  refine wpList_valn (v := .bool true) rfl (exec_neInt true rfl (ev rfl) evk HN.out) ?_
  simp only [Act.put, List.setIfInBounds_toArray, List.set_cons_succ, List.set_cons_zero]
  refine wpList_nil ?_
  go_upto_region 11 with fail
  refine wp_region_lit ?_
  refine wpList_valn rfl (exec_ldR rfl (ev rfl) (HT8.out.ros (i := 0) rfl)) ?_
  simp only [Act.put, List.setIfInBounds_toArray, List.set_cons_succ, List.set_cons_zero]
  refine wpList_nuln rfl (exec_putR rfl (ev rfl) (ev rfl) (HT8.out.ros (i := 2) rfl)) ?_
  simp only [Act.put, List.setIfInBounds_toArray, List.set_cons_succ, List.set_cons_zero]
  have HT9 : Hid (Blks w (putW w8 b4 (x)) [rc b2 (x), ac b3 (a), rc b4 (x), rc b5 (y)]) := Lib.hid (HT8.out.putR (i := 2) rfl (x))
  clear HT8
  generalize putW w8 b4 (x) = w9 at *
  refine wpList_nil ?_
  go_wp2_with fail
  exact bodyPost_ret (res_r1 rfl _ _ _ rfl (HT9.out.ros (i := 2) rfl)) rfl ⟨rfl, HT9.out.bel⟩
set_option maxHeartbeats 1000000 in
theorem pact_2e {x : Ros} {a : Act10} {y : Ros} {e : Nat} (hy : nexX x = y) (he : nexE x = e) (hn : ((e : Int) != 0) = true) (d0 : (a.Do == 0) = false) (d1 : (a.Do == 1) = false) (d2 : (a.Do == 2) = true) (w : World) : Calls Try.prog 29 #[ros x, act10V a] w fun e w' => e = .returned (ros (x)) ∧ Below w.heap.size w w' := by
  have HY := Lib.hid hy
  have HE := Lib.hid he
  have HN := Lib.hid hn
  have D0 := Lib.hid d0
  have D1 := Lib.hid d1
  have D2 := Lib.hid d2
  clear hy he hn d0 d1 d2
  have HT1 := Lib.hid (Blks.nil w)
  go_enter Try.func29, Try.ntmps29
  go_upto_region 0 with fail
  refine wp_region_lit ?_
  refine wpList_valn rfl (exec_boxR rfl (ev rfl)) ?_
  simp only [Act.put, List.setIfInBounds_toArray, List.set_cons_succ, List.set_cons_zero]
  have HT2 : Hid (Blks w (w.alloc (.cells (celR x).toArray 26)) [rc w.heap.size (x)]) := Lib.hid (HT1.out.allocR x)
  clear HT1
  generalize w.alloc (.cells (celR x).toArray 26) = w2 at *
  generalize w.heap.size = b2 at *
  refine wpList_valn rfl (exec_boxA10 rfl (ev rfl)) ?_
  simp only [Act.put, List.setIfInBounds_toArray, List.set_cons_succ, List.set_cons_zero]
  have HT3 : Hid (Blks w (w2.alloc (.cells (act10C a).toArray 46)) [rc b2 (x), ac w2.heap.size (a)]) := Lib.hid (HT2.out.allocA a)
  clear HT2
  generalize w2.alloc (.cells (act10C a).toArray 46) = w3 at *
  generalize w2.heap.size = b3 at *
  refine wpList_valn rfl (exec_allocR rfl) ?_
  simp only [Act.put, List.setIfInBounds_toArray, List.set_cons_succ, List.set_cons_zero]
  have HT4 : Hid (Blks w (w3.alloc (.cells (celR zeroR).toArray 26)) [rc b2 (x), ac b3 (a), rc w3.heap.size (zeroR)]) := Lib.hid (HT3.out.allocR zeroR)
  clear HT3
  generalize w3.alloc (.cells (celR zeroR).toArray 26) = w4 at *
  generalize w3.heap.size = b4 at *
  refine wpList_nil ?_
  go_upto_region 1 with fail
  refine wp_region_lit ?_
  refine wpList_valn rfl (exec_ldR rfl (ev rfl) (HT4.out.ros (i := 0) rfl)) ?_
  simp only [Act.put, List.setIfInBounds_toArray, List.set_cons_succ, List.set_cons_zero]
  refine wpList_valn rfl (exec_allocR rfl) ?_
  simp only [Act.put, List.setIfInBounds_toArray, List.set_cons_succ, List.set_cons_zero]
  have HT5 : Hid (Blks w (w4.alloc (.cells (celR zeroR).toArray 26)) [rc b2 (x), ac b3 (a), rc b4 (zeroR), rc w4.heap.size (zeroR)]) := Lib.hid (HT4.out.allocR zeroR)
  clear HT4
  generalize w4.alloc (.cells (celR zeroR).toArray 26) = w5 at *
  generalize w4.heap.size = b5 at *
  refine wpList_nuln rfl (exec_putR rfl (ev rfl) (ev rfl) (HT5.out.ros (i := 3) rfl)) ?_
  simp only [Act.put, List.setIfInBounds_toArray, List.set_cons_succ, List.set_cons_zero]
  have HT6 : Hid (Blks w (putW w5 b5 (x)) [rc b2 (x), ac b3 (a), rc b4 (zeroR), rc b5 (x)]) := Lib.hid (HT5.out.putR (i := 3) rfl (x))
  clear HT5
  generalize putW w5 b5 (x) = w6 at *
  refine wpList_valn rfl (exec_as rfl evk) ?_
  simp only [Act.put, List.setIfInBounds_toArray, List.set_cons_succ, List.set_cons_zero]
  refine wpList_nil ?_
  go_upto_region 2 with fail
  refine wp_region_lit ?_
  refine wpList_valn rfl (exec_faddr rfl (ev rfl) faA0) ?_
  simp only [Act.put, List.setIfInBounds_toArray, List.set_cons_succ, List.set_cons_zero]
  refine wpList_valn rfl (exec_ld rfl (ev rfl) (ldInt (HT6.out.act (i := 1) rfl).1)) ?_
  simp only [Act.put, List.setIfInBounds_toArray, List.set_cons_succ, List.set_cons_zero]
  refine wpList_nil ?_
  go_upto_region 4 with fail
  refine wp_region_lit ?_
  refine wpList_valn (v := .bool false) rfl (exec_eqInt false rfl (ev rfl) evk D0.out) ?_
  simp only [Act.put, List.setIfInBounds_toArray, List.set_cons_succ, List.set_cons_zero]
  refine wpList_valn (v := .bool false) rfl (exec_as rfl (ev rfl)) ?_
  simp only [Act.put, List.setIfInBounds_toArray, List.set_cons_succ, List.set_cons_zero]
  refine wpList_nil ?_
  go_upto_region 6 with fail
  refine wp_region_lit ?_
  refine wpList_valn (v := .bool false) rfl (exec_eqInt false rfl (ev rfl) evk D1.out) ?_
  simp only [Act.put, List.setIfInBounds_toArray, List.set_cons_succ, List.set_cons_zero]
  refine wpList_valn (v := .bool false) rfl (exec_as rfl (ev rfl)) ?_
  simp only [Act.put, List.setIfInBounds_toArray, List.set_cons_succ, List.set_cons_zero]
  refine wpList_nil ?_
  go_upto_region 8 with fail
  refine wp_region_lit ?_
  refine wpList_valn (v := .bool true) rfl (exec_eqInt true rfl (ev rfl) evk D2.out) ?_
  simp only [Act.put, List.setIfInBounds_toArray, List.set_cons_succ, List.set_cons_zero]
  refine wpList_valn (v := .bool true) rfl (exec_as rfl (ev rfl)) ?_
  simp only [Act.put, List.setIfInBounds_toArray, List.set_cons_succ, List.set_cons_zero]
  refine wpList_nil ?_
  go_upto_region 9 with fail
  refine wp_region_lit ?_
  refine wpList_valn rfl (exec_ldR rfl (ev rfl) (HT6.out.ros (i := 0) rfl)) ?_
  simp only [Act.put, List.setIfInBounds_toArray, List.set_cons_succ, List.set_cons_zero]
  refine wpList_call rfl (exec_cl Try.call23 rfl (evc (ev rfl) evn)) ?_
  refine (pnext_v w6 HY.out HE.out).mono ?_
  rintro e w7 ⟨rfl, hb⟩
  have HT7 := Lib.hid (HT6.out.call hb)
  clear hb HT6
  refine ⟨_, rfl, ?_⟩
  simp only [Act.put, List.setIfInBounds_toArray, List.set_cons_succ, List.set_cons_zero]
  refine wpList_valn rfl (exec_mv rfl (ev rfl)) ?_
  simp only [Act.put, List.setIfInBounds_toArray, List.set_cons_succ, List.set_cons_zero]
  refine wpList_valn rfl (exec_ext rfl (ev rfl) rfl) ?_
  simp only [Act.put, List.setIfInBounds_toArray, List.set_cons_succ, List.set_cons_zero]
  refine wpList_valn rfl (exec_ext rfl (ev rfl) rfl) ?_
  simp only [Act.put, List.setIfInBounds_toArray, List.set_cons_succ, List.set_cons_zero]
  refine wpList_nuln rfl (exec_putR rfl (ev rfl) (ev rfl) (HT7.out.ros (i := 3) rfl)) ?_
  simp only [Act.put, List.setIfInBounds_toArray, List.set_cons_succ, List.set_cons_zero]
  have HT8 : Hid (Blks w (putW w7 b5 (y)) [rc b2 (x), ac b3 (a), rc b4 (zeroR), rc b5 (y)]) := Lib.hid (HT7.out.putR (i := 3) rfl (y))
  clear HT7
  generalize putW w7 b5 (y) = w8 at *
  refine wpList_valn rfl (exec_as rfl (ev rfl)) ?_
  simp only [Act.put, List.setIfInBounds_toArray, List.set_cons_succ, List.set_cons_zero]
  refine wpList_nil ?_
  go_upto_region 10 with fail
  refine wp_region_lit ?_
  refine wpList_valn rfl (exec_mv rfl (ev rfl)) ?_
  simp only [Act.put, List.setIfInBounds_toArray, List.set_cons_succ, List.set_cons_zero]
  refine wpList_valn (v := .bool true) rfl (exec_neInt true rfl (ev rfl) evk HN.out) ?_
  simp only [Act.put, List.setIfInBounds_toArray, List.set_cons_succ, List.set_cons_zero]
  refine wpList_nil ?_
  go_upto_region 11 with fail
  refine wp_region_lit ?_
  refine wpList_valn rfl (exec_ldR rfl (ev rfl) (HT8.out.ros (i := 0) rfl)) ?_
  simp only [Act.put, List.setIfInBounds_toArray, List.set_cons_succ, List.set_cons_zero]
  refine wpList_nuln rfl (exec_putR rfl (ev rfl) (ev rfl) (HT8.out.ros (i := 2) rfl)) ?_
  simp only [Act.put, List.setIfInBounds_toArray, List.set_cons_succ, List.set_cons_zero]
  have HT9 : Hid (Blks w (putW w8 b4 (x)) [rc b2 (x), ac b3 (a), rc b4 (x), rc b5 (y)]) := Lib.hid (HT8.out.putR (i := 2) rfl (x))
  clear HT8
  generalize putW w8 b4 (x) = w9 at *
  refine wpList_nil ?_
  go_wp2_with fail
  exact bodyPost_ret (res_r1 rfl _ _ _ rfl (HT9.out.ros (i := 2) rfl)) rfl ⟨rfl, HT9.out.bel⟩
set_option maxHeartbeats 1000000 in
theorem pact_3e {x : Ros} {a : Act10} {y : Ros} {e : Nat} (hy : gonX x a.G = y) (he : gonE x = e) (hn : ((e : Int) != 0) = true) (d0 : (a.Do == 0) = false) (d1 : (a.Do == 1) = false) (d2 : (a.Do == 2) = false) (w : World) : Calls Try.prog 29 #[ros x, act10V a] w fun e w' => e = .returned (ros (x)) ∧ Below w.heap.size w w' := by
  have HY := Lib.hid hy
  have HE := Lib.hid he
  have HN := Lib.hid hn
  have D0 := Lib.hid d0
  have D1 := Lib.hid d1
  have D2 := Lib.hid d2
  clear hy he hn d0 d1 d2
  have HT1 := Lib.hid (Blks.nil w)
  go_enter Try.func29, Try.ntmps29
  go_upto_region 0 with fail
  refine wp_region_lit ?_
  refine wpList_valn rfl (exec_boxR rfl (ev rfl)) ?_
  simp only [Act.put, List.setIfInBounds_toArray, List.set_cons_succ, List.set_cons_zero]
  have HT2 : Hid (Blks w (w.alloc (.cells (celR x).toArray 26)) [rc w.heap.size (x)]) := Lib.hid (HT1.out.allocR x)
  clear HT1
  generalize w.alloc (.cells (celR x).toArray 26) = w2 at *
  generalize w.heap.size = b2 at *
  refine wpList_valn rfl (exec_boxA10 rfl (ev rfl)) ?_
  simp only [Act.put, List.setIfInBounds_toArray, List.set_cons_succ, List.set_cons_zero]
  have HT3 : Hid (Blks w (w2.alloc (.cells (act10C a).toArray 46)) [rc b2 (x), ac w2.heap.size (a)]) := Lib.hid (HT2.out.allocA a)
  clear HT2
  generalize w2.alloc (.cells (act10C a).toArray 46) = w3 at *
  generalize w2.heap.size = b3 at *
  refine wpList_valn rfl (exec_allocR rfl) ?_
  simp only [Act.put, List.setIfInBounds_toArray, List.set_cons_succ, List.set_cons_zero]
  have HT4 : Hid (Blks w (w3.alloc (.cells (celR zeroR).toArray 26)) [rc b2 (x), ac b3 (a), rc w3.heap.size (zeroR)]) := Lib.hid (HT3.out.allocR zeroR)
  clear HT3
  generalize w3.alloc (.cells (celR zeroR).toArray 26) = w4 at *
  generalize w3.heap.size = b4 at *
  refine wpList_nil ?_
  go_upto_region 1 with fail
  refine wp_region_lit ?_
  refine wpList_valn rfl (exec_ldR rfl (ev rfl) (HT4.out.ros (i := 0) rfl)) ?_
  simp only [Act.put, List.setIfInBounds_toArray, List.set_cons_succ, List.set_cons_zero]
  refine wpList_valn rfl (exec_allocR rfl) ?_
  simp only [Act.put, List.setIfInBounds_toArray, List.set_cons_succ, List.set_cons_zero]
  have HT5 : Hid (Blks w (w4.alloc (.cells (celR zeroR).toArray 26)) [rc b2 (x), ac b3 (a), rc b4 (zeroR), rc w4.heap.size (zeroR)]) := Lib.hid (HT4.out.allocR zeroR)
  clear HT4
  generalize w4.alloc (.cells (celR zeroR).toArray 26) = w5 at *
  generalize w4.heap.size = b5 at *
  refine wpList_nuln rfl (exec_putR rfl (ev rfl) (ev rfl) (HT5.out.ros (i := 3) rfl)) ?_
  simp only [Act.put, List.setIfInBounds_toArray, List.set_cons_succ, List.set_cons_zero]
  have HT6 : Hid (Blks w (putW w5 b5 (x)) [rc b2 (x), ac b3 (a), rc b4 (zeroR), rc b5 (x)]) := Lib.hid (HT5.out.putR (i := 3) rfl (x))
  clear HT5
  generalize putW w5 b5 (x) = w6 at *
  refine wpList_valn rfl (exec_as rfl evk) ?_
  simp only [Act.put, List.setIfInBounds_toArray, List.set_cons_succ, List.set_cons_zero]
  refine wpList_nil ?_
  go_upto_region 2 with fail
  refine wp_region_lit ?_
  refine wpList_valn rfl (exec_faddr rfl (ev rfl) faA0) ?_
  simp only [Act.put, List.setIfInBounds_toArray, List.set_cons_succ, List.set_cons_zero]
  refine wpList_valn rfl (exec_ld rfl (ev rfl) (ldInt (HT6.out.act (i := 1) rfl).1)) ?_
  simp only [Act.put, List.setIfInBounds_toArray, List.set_cons_succ, List.set_cons_zero]
  refine wpList_nil ?_
  go_upto_region 4 with fail
  refine wp_region_lit ?_
  refine wpList_valn (v := .bool false) rfl (exec_eqInt false rfl (ev rfl) evk D0.out) ?_
  simp only [Act.put, List.setIfInBounds_toArray, List.set_cons_succ, List.set_cons_zero]
  refine wpList_valn (v := .bool false) rfl (exec_as rfl (ev rfl)) ?_
  simp only [Act.put, List.setIfInBounds_toArray, List.set_cons_succ, List.set_cons_zero]
  refine wpList_nil ?_
  go_upto_region 6 with fail
  refine wp_region_lit ?_
  refine wpList_valn (v := .bool false) rfl (exec_eqInt false rfl (ev rfl) evk D1.out) ?_
  simp only [Act.put, List.setIfInBounds_toArray, List.set_cons_succ, List.set_cons_zero]
  refine wpList_valn (v := .bool false) rfl (exec_as rfl (ev rfl)) ?_
  simp only [Act.put, List.setIfInBounds_toArray, List.set_cons_succ, List.set_cons_zero]
  refine wpList_nil ?_
  go_upto_region 8 with fail
  refine wp_region_lit ?_
  refine wpList_valn (v := .bool false) rfl (exec_eqInt false rfl (ev rfl) evk D2.out) ?_
  simp only [Act.put, List.setIfInBounds_toArray, List.set_cons_succ, List.set_cons_zero]
  refine wpList_valn (v := .bool false) rfl (exec_as rfl (ev rfl)) ?_
  simp only [Act.put, List.setIfInBounds_toArray, List.set_cons_succ, List.set_cons_zero]
  refine wpList_nil ?_
  go_upto_region 3 with fail
  refine wp_region_lit ?_
  refine wpList_valn rfl (exec_ldR rfl (ev rfl) (HT6.out.ros (i := 0) rfl)) ?_
  simp only [Act.put, List.setIfInBounds_toArray, List.set_cons_succ, List.set_cons_zero]
  refine wpList_valn rfl (exec_faddr rfl (ev rfl) faA2) ?_
  simp only [Act.put, List.setIfInBounds_toArray, List.set_cons_succ, List.set_cons_zero]
  refine wpList_valn rfl (exec_ld rfl (ev rfl) (ldBo (HT6.out.act (i := 1) rfl).2.2)) ?_
  simp only [Act.put, List.setIfInBounds_toArray, List.set_cons_succ, List.set_cons_zero]
  refine wpList_call rfl (exec_cl Try.call25 rfl (evc (ev rfl) (evc (ev rfl) evn))) ?_
  refine (pgone_v w6 HY.out HE.out).mono ?_
  rintro e w7 ⟨rfl, hb⟩
  have HT7 := Lib.hid (HT6.out.call hb)
  clear hb HT6
  refine ⟨_, rfl, ?_⟩
  simp only [Act.put, List.setIfInBounds_toArray, List.set_cons_succ, List.set_cons_zero]
  refine wpList_valn rfl (exec_mv rfl (ev rfl)) ?_
  simp only [Act.put, List.setIfInBounds_toArray, List.set_cons_succ, List.set_cons_zero]
  refine wpList_valn rfl (exec_ext rfl (ev rfl) rfl) ?_
  simp only [Act.put, List.setIfInBounds_toArray, List.set_cons_succ, List.set_cons_zero]
  refine wpList_valn rfl (exec_ext rfl (ev rfl) rfl) ?_
  simp only [Act.put, List.setIfInBounds_toArray, List.set_cons_succ, List.set_cons_zero]
  refine wpList_nuln rfl (exec_putR rfl (ev rfl) (ev rfl) (HT7.out.ros (i := 3) rfl)) ?_
  simp only [Act.put, List.setIfInBounds_toArray, List.set_cons_succ, List.set_cons_zero]
  have HT8 : Hid (Blks w (putW w7 b5 (y)) [rc b2 (x), ac b3 (a), rc b4 (zeroR), rc b5 (y)]) := Lib.hid (HT7.out.putR (i := 3) rfl (y))
  clear HT7
  generalize putW w7 b5 (y) = w8 at *
  refine wpList_valn rfl (exec_as rfl (ev rfl)) ?_
  simp only [Act.put, List.setIfInBounds_toArray, List.set_cons_succ, List.set_cons_zero]
  refine wpList_nil ?_
  go_upto_region 10 with fail
  refine wp_region_lit ?_
  refine wpList_valn rfl (exec_mv rfl (ev rfl)) ?_
  simp only [Act.put, List.setIfInBounds_toArray, List.set_cons_succ, List.set_cons_zero]
  refine wpList_valn (v := .bool true) rfl (exec_neInt true rfl (ev rfl) evk HN.out) ?_
  simp only [Act.put, List.setIfInBounds_toArray, List.set_cons_succ, List.set_cons_zero]
  refine wpList_nil ?_
  go_upto_region 11 with fail
  refine wp_region_lit ?_
  refine wpList_valn rfl (exec_ldR rfl (ev rfl) (HT8.out.ros (i := 0) rfl)) ?_
  simp only [Act.put, List.setIfInBounds_toArray, List.set_cons_succ, List.set_cons_zero]
  refine wpList_nuln rfl (exec_putR rfl (ev rfl) (ev rfl) (HT8.out.ros (i := 2) rfl)) ?_
  simp only [Act.put, List.setIfInBounds_toArray, List.set_cons_succ, List.set_cons_zero]
  have HT9 : Hid (Blks w (putW w8 b4 (x)) [rc b2 (x), ac b3 (a), rc b4 (x), rc b5 (y)]) := Lib.hid (HT8.out.putR (i := 2) rfl (x))
  clear HT8
  generalize putW w8 b4 (x) = w9 at *
  refine wpList_nil ?_
  go_wp2_with fail
  exact bodyPost_ret (res_r1 rfl _ _ _ rfl (HT9.out.ros (i := 2) rfl)) rfl ⟨rfl, HT9.out.bel⟩
set_option maxHeartbeats 1000000 in
theorem pact_1o {x : Ros} {a : Act10} {y : Ros} {e : Nat} (hy : begX x a.M = y) (he : begE x a.M = e) (hn : ((e : Int) != 0) = false) (d0 : (a.Do == 0) = false) (d1 : (a.Do == 1) = true) (w : World) : Calls Try.prog 29 #[ros x, act10V a] w fun e w' => e = .returned (ros (y)) ∧ Below w.heap.size w w' := by
  have HY := Lib.hid hy
  have HE := Lib.hid he
  have HN := Lib.hid hn
  have D0 := Lib.hid d0
  have D1 := Lib.hid d1
  clear hy he hn d0 d1
  have HT1 := Lib.hid (Blks.nil w)
  go_enter Try.func29, Try.ntmps29
  go_upto_region 0 with fail
  refine wp_region_lit ?_
  refine wpList_valn rfl (exec_boxR rfl (ev rfl)) ?_
  simp only [Act.put, List.setIfInBounds_toArray, List.set_cons_succ, List.set_cons_zero]
  have HT2 : Hid (Blks w (w.alloc (.cells (celR x).toArray 26)) [rc w.heap.size (x)]) := Lib.hid (HT1.out.allocR x)
  clear HT1
  generalize w.alloc (.cells (celR x).toArray 26) = w2 at *
  generalize w.heap.size = b2 at *
  refine wpList_valn rfl (exec_boxA10 rfl (ev rfl)) ?_
  simp only [Act.put, List.setIfInBounds_toArray, List.set_cons_succ, List.set_cons_zero]
  have HT3 : Hid (Blks w (w2.alloc (.cells (act10C a).toArray 46)) [rc b2 (x), ac w2.heap.size (a)]) := Lib.hid (HT2.out.allocA a)
  clear HT2
  generalize w2.alloc (.cells (act10C a).toArray 46) = w3 at *
  generalize w2.heap.size = b3 at *
  refine wpList_valn rfl (exec_allocR rfl) ?_
  simp only [Act.put, List.setIfInBounds_toArray, List.set_cons_succ, List.set_cons_zero]
  have HT4 : Hid (Blks w (w3.alloc (.cells (celR zeroR).toArray 26)) [rc b2 (x), ac b3 (a), rc w3.heap.size (zeroR)]) := Lib.hid (HT3.out.allocR zeroR)
  clear HT3
  generalize w3.alloc (.cells (celR zeroR).toArray 26) = w4 at *
  generalize w3.heap.size = b4 at *
  refine wpList_nil ?_
  go_upto_region 1 with fail
  refine wp_region_lit ?_
  refine wpList_valn rfl (exec_ldR rfl (ev rfl) (HT4.out.ros (i := 0) rfl)) ?_
  simp only [Act.put, List.setIfInBounds_toArray, List.set_cons_succ, List.set_cons_zero]
  refine wpList_valn rfl (exec_allocR rfl) ?_
  simp only [Act.put, List.setIfInBounds_toArray, List.set_cons_succ, List.set_cons_zero]
  have HT5 : Hid (Blks w (w4.alloc (.cells (celR zeroR).toArray 26)) [rc b2 (x), ac b3 (a), rc b4 (zeroR), rc w4.heap.size (zeroR)]) := Lib.hid (HT4.out.allocR zeroR)
  clear HT4
  generalize w4.alloc (.cells (celR zeroR).toArray 26) = w5 at *
  generalize w4.heap.size = b5 at *
  refine wpList_nuln rfl (exec_putR rfl (ev rfl) (ev rfl) (HT5.out.ros (i := 3) rfl)) ?_
  simp only [Act.put, List.setIfInBounds_toArray, List.set_cons_succ, List.set_cons_zero]
  have HT6 : Hid (Blks w (putW w5 b5 (x)) [rc b2 (x), ac b3 (a), rc b4 (zeroR), rc b5 (x)]) := Lib.hid (HT5.out.putR (i := 3) rfl (x))
  clear HT5
  generalize putW w5 b5 (x) = w6 at *
  refine wpList_valn rfl (exec_as rfl evk) ?_
  simp only [Act.put, List.setIfInBounds_toArray, List.set_cons_succ, List.set_cons_zero]
  refine wpList_nil ?_
  go_upto_region 2 with fail
  refine wp_region_lit ?_
  refine wpList_valn rfl (exec_faddr rfl (ev rfl) faA0) ?_
  simp only [Act.put, List.setIfInBounds_toArray, List.set_cons_succ, List.set_cons_zero]
  refine wpList_valn rfl (exec_ld rfl (ev rfl) (ldInt (HT6.out.act (i := 1) rfl).1)) ?_
  simp only [Act.put, List.setIfInBounds_toArray, List.set_cons_succ, List.set_cons_zero]
  refine wpList_nil ?_
  go_upto_region 4 with fail
  refine wp_region_lit ?_
  refine wpList_valn (v := .bool false) rfl (exec_eqInt false rfl (ev rfl) evk D0.out) ?_
  simp only [Act.put, List.setIfInBounds_toArray, List.set_cons_succ, List.set_cons_zero]
  refine wpList_valn (v := .bool false) rfl (exec_as rfl (ev rfl)) ?_
  simp only [Act.put, List.setIfInBounds_toArray, List.set_cons_succ, List.set_cons_zero]
  refine wpList_nil ?_
  go_upto_region 6 with fail
  refine wp_region_lit ?_
  refine wpList_valn (v := .bool true) rfl (exec_eqInt true rfl (ev rfl) evk D1.out) ?_
  simp only [Act.put, List.setIfInBounds_toArray, List.set_cons_succ, List.set_cons_zero]
  refine wpList_valn (v := .bool true) rfl (exec_as rfl (ev rfl)) ?_
  simp only [Act.put, List.setIfInBounds_toArray, List.set_cons_succ, List.set_cons_zero]
  refine wpList_nil ?_
  go_upto_region 7 with fail
  refine wp_region_lit ?_
  refine wpList_valn rfl (exec_ldR rfl (ev rfl) (HT6.out.ros (i := 0) rfl)) ?_
  simp only [Act.put, List.setIfInBounds_toArray, List.set_cons_succ, List.set_cons_zero]
  refine wpList_valn rfl (exec_faddr rfl (ev rfl) faA1) ?_
  simp only [Act.put, List.setIfInBounds_toArray, List.set_cons_succ, List.set_cons_zero]
  refine wpList_valn rfl (exec_ld rfl (ev rfl) (ldInt (HT6.out.act (i := 1) rfl).2.1)) ?_
  simp only [Act.put, List.setIfInBounds_toArray, List.set_cons_succ, List.set_cons_zero]
  refine wpList_call rfl (exec_cl Try.call21 rfl (evc (ev rfl) (evc (ev rfl) evn))) ?_
  refine (pbeg_v w6 HY.out HE.out).mono ?_
  rintro e w7 ⟨rfl, hb⟩
  have HT7 := Lib.hid (HT6.out.call hb)
  clear hb HT6
  refine ⟨_, rfl, ?_⟩
  simp only [Act.put, List.setIfInBounds_toArray, List.set_cons_succ, List.set_cons_zero]
  refine wpList_valn rfl (exec_mv rfl (ev rfl)) ?_
  simp only [Act.put, List.setIfInBounds_toArray, List.set_cons_succ, List.set_cons_zero]
  refine wpList_valn rfl (exec_ext rfl (ev rfl) rfl) ?_
  simp only [Act.put, List.setIfInBounds_toArray, List.set_cons_succ, List.set_cons_zero]
  refine wpList_valn rfl (exec_ext rfl (ev rfl) rfl) ?_
  simp only [Act.put, List.setIfInBounds_toArray, List.set_cons_succ, List.set_cons_zero]
  refine wpList_nuln rfl (exec_putR rfl (ev rfl) (ev rfl) (HT7.out.ros (i := 3) rfl)) ?_
  simp only [Act.put, List.setIfInBounds_toArray, List.set_cons_succ, List.set_cons_zero]
  have HT8 : Hid (Blks w (putW w7 b5 (y)) [rc b2 (x), ac b3 (a), rc b4 (zeroR), rc b5 (y)]) := Lib.hid (HT7.out.putR (i := 3) rfl (y))
  clear HT7
  generalize putW w7 b5 (y) = w8 at *
  refine wpList_valn rfl (exec_as rfl (ev rfl)) ?_
  simp only [Act.put, List.setIfInBounds_toArray, List.set_cons_succ, List.set_cons_zero]
  refine wpList_nil ?_
  go_upto_region 10 with fail
  refine wp_region_lit ?_
  refine wpList_valn rfl (exec_mv rfl (ev rfl)) ?_
  simp only [Act.put, List.setIfInBounds_toArray, List.set_cons_succ, List.set_cons_zero]
  refine wpList_valn (v := .bool false) rfl (exec_neInt false rfl (ev rfl) evk HN.out) ?_
  simp only [Act.put, List.setIfInBounds_toArray, List.set_cons_succ, List.set_cons_zero]
  refine wpList_nil ?_
  go_upto_region 12 with fail
  refine wp_region_lit ?_
  refine wpList_valn rfl (exec_ldR rfl (ev rfl) (HT8.out.ros (i := 3) rfl)) ?_
  simp only [Act.put, List.setIfInBounds_toArray, List.set_cons_succ, List.set_cons_zero]
  refine wpList_nuln rfl (exec_putR rfl (ev rfl) (ev rfl) (HT8.out.ros (i := 2) rfl)) ?_
  simp only [Act.put, List.setIfInBounds_toArray, List.set_cons_succ, List.set_cons_zero]
  have HT9 : Hid (Blks w (putW w8 b4 (y)) [rc b2 (x), ac b3 (a), rc b4 (y), rc b5 (y)]) := Lib.hid (HT8.out.putR (i := 2) rfl (y))
  clear HT8
  generalize putW w8 b4 (y) = w9 at *
  refine wpList_nil ?_
  go_wp2_with fail
  exact bodyPost_ret (res_r1 rfl _ _ _ rfl (HT9.out.ros (i := 2) rfl)) rfl ⟨rfl, HT9.out.bel⟩
set_option maxHeartbeats 1000000 in
theorem pact_2o {x : Ros} {a : Act10} {y : Ros} {e : Nat} (hy : nexX x = y) (he : nexE x = e) (hn : ((e : Int) != 0) = false) (d0 : (a.Do == 0) = false) (d1 : (a.Do == 1) = false) (d2 : (a.Do == 2) = true) (w : World) : Calls Try.prog 29 #[ros x, act10V a] w fun e w' => e = .returned (ros (y)) ∧ Below w.heap.size w w' := by
  have HY := Lib.hid hy
  have HE := Lib.hid he
  have HN := Lib.hid hn
  have D0 := Lib.hid d0
  have D1 := Lib.hid d1
  have D2 := Lib.hid d2
  clear hy he hn d0 d1 d2
  have HT1 := Lib.hid (Blks.nil w)
  go_enter Try.func29, Try.ntmps29
  go_upto_region 0 with fail
  refine wp_region_lit ?_
  refine wpList_valn rfl (exec_boxR rfl (ev rfl)) ?_
  simp only [Act.put, List.setIfInBounds_toArray, List.set_cons_succ, List.set_cons_zero]
  have HT2 : Hid (Blks w (w.alloc (.cells (celR x).toArray 26)) [rc w.heap.size (x)]) := Lib.hid (HT1.out.allocR x)
  clear HT1
  generalize w.alloc (.cells (celR x).toArray 26) = w2 at *
  generalize w.heap.size = b2 at *
  refine wpList_valn rfl (exec_boxA10 rfl (ev rfl)) ?_
  simp only [Act.put, List.setIfInBounds_toArray, List.set_cons_succ, List.set_cons_zero]
  have HT3 : Hid (Blks w (w2.alloc (.cells (act10C a).toArray 46)) [rc b2 (x), ac w2.heap.size (a)]) := Lib.hid (HT2.out.allocA a)
  clear HT2
  generalize w2.alloc (.cells (act10C a).toArray 46) = w3 at *
  generalize w2.heap.size = b3 at *
  refine wpList_valn rfl (exec_allocR rfl) ?_
  simp only [Act.put, List.setIfInBounds_toArray, List.set_cons_succ, List.set_cons_zero]
  have HT4 : Hid (Blks w (w3.alloc (.cells (celR zeroR).toArray 26)) [rc b2 (x), ac b3 (a), rc w3.heap.size (zeroR)]) := Lib.hid (HT3.out.allocR zeroR)
  clear HT3
  generalize w3.alloc (.cells (celR zeroR).toArray 26) = w4 at *
  generalize w3.heap.size = b4 at *
  refine wpList_nil ?_
  go_upto_region 1 with fail
  refine wp_region_lit ?_
  refine wpList_valn rfl (exec_ldR rfl (ev rfl) (HT4.out.ros (i := 0) rfl)) ?_
  simp only [Act.put, List.setIfInBounds_toArray, List.set_cons_succ, List.set_cons_zero]
  refine wpList_valn rfl (exec_allocR rfl) ?_
  simp only [Act.put, List.setIfInBounds_toArray, List.set_cons_succ, List.set_cons_zero]
  have HT5 : Hid (Blks w (w4.alloc (.cells (celR zeroR).toArray 26)) [rc b2 (x), ac b3 (a), rc b4 (zeroR), rc w4.heap.size (zeroR)]) := Lib.hid (HT4.out.allocR zeroR)
  clear HT4
  generalize w4.alloc (.cells (celR zeroR).toArray 26) = w5 at *
  generalize w4.heap.size = b5 at *
  refine wpList_nuln rfl (exec_putR rfl (ev rfl) (ev rfl) (HT5.out.ros (i := 3) rfl)) ?_
  simp only [Act.put, List.setIfInBounds_toArray, List.set_cons_succ, List.set_cons_zero]
  have HT6 : Hid (Blks w (putW w5 b5 (x)) [rc b2 (x), ac b3 (a), rc b4 (zeroR), rc b5 (x)]) := Lib.hid (HT5.out.putR (i := 3) rfl (x))
  clear HT5
  generalize putW w5 b5 (x) = w6 at *
  refine wpList_valn rfl (exec_as rfl evk) ?_
  simp only [Act.put, List.setIfInBounds_toArray, List.set_cons_succ, List.set_cons_zero]
  refine wpList_nil ?_
  go_upto_region 2 with fail
  refine wp_region_lit ?_
  refine wpList_valn rfl (exec_faddr rfl (ev rfl) faA0) ?_
  simp only [Act.put, List.setIfInBounds_toArray, List.set_cons_succ, List.set_cons_zero]
  refine wpList_valn rfl (exec_ld rfl (ev rfl) (ldInt (HT6.out.act (i := 1) rfl).1)) ?_
  simp only [Act.put, List.setIfInBounds_toArray, List.set_cons_succ, List.set_cons_zero]
  refine wpList_nil ?_
  go_upto_region 4 with fail
  refine wp_region_lit ?_
  refine wpList_valn (v := .bool false) rfl (exec_eqInt false rfl (ev rfl) evk D0.out) ?_
  simp only [Act.put, List.setIfInBounds_toArray, List.set_cons_succ, List.set_cons_zero]
  refine wpList_valn (v := .bool false) rfl (exec_as rfl (ev rfl)) ?_
  simp only [Act.put, List.setIfInBounds_toArray, List.set_cons_succ, List.set_cons_zero]
  refine wpList_nil ?_
  go_upto_region 6 with fail
  refine wp_region_lit ?_
  refine wpList_valn (v := .bool false) rfl (exec_eqInt false rfl (ev rfl) evk D1.out) ?_
  simp only [Act.put, List.setIfInBounds_toArray, List.set_cons_succ, List.set_cons_zero]
  refine wpList_valn (v := .bool false) rfl (exec_as rfl (ev rfl)) ?_
  simp only [Act.put, List.setIfInBounds_toArray, List.set_cons_succ, List.set_cons_zero]
  refine wpList_nil ?_
  go_upto_region 8 with fail
  refine wp_region_lit ?_
  refine wpList_valn (v := .bool true) rfl (exec_eqInt true rfl (ev rfl) evk D2.out) ?_
  simp only [Act.put, List.setIfInBounds_toArray, List.set_cons_succ, List.set_cons_zero]
  refine wpList_valn (v := .bool true) rfl (exec_as rfl (ev rfl)) ?_
  simp only [Act.put, List.setIfInBounds_toArray, List.set_cons_succ, List.set_cons_zero]
  refine wpList_nil ?_
  go_upto_region 9 with fail
  refine wp_region_lit ?_
  refine wpList_valn rfl (exec_ldR rfl (ev rfl) (HT6.out.ros (i := 0) rfl)) ?_
  simp only [Act.put, List.setIfInBounds_toArray, List.set_cons_succ, List.set_cons_zero]
  refine wpList_call rfl (exec_cl Try.call23 rfl (evc (ev rfl) evn)) ?_
  refine (pnext_v w6 HY.out HE.out).mono ?_
  rintro e w7 ⟨rfl, hb⟩
  have HT7 := Lib.hid (HT6.out.call hb)
  clear hb HT6
  refine ⟨_, rfl, ?_⟩
  simp only [Act.put, List.setIfInBounds_toArray, List.set_cons_succ, List.set_cons_zero]
  refine wpList_valn rfl (exec_mv rfl (ev rfl)) ?_
  simp only [Act.put, List.setIfInBounds_toArray, List.set_cons_succ, List.set_cons_zero]
  refine wpList_valn rfl (exec_ext rfl (ev rfl) rfl) ?_
  simp only [Act.put, List.setIfInBounds_toArray, List.set_cons_succ, List.set_cons_zero]
  refine wpList_valn rfl (exec_ext rfl (ev rfl) rfl) ?_
  simp only [Act.put, List.setIfInBounds_toArray, List.set_cons_succ, List.set_cons_zero]
  refine wpList_nuln rfl (exec_putR rfl (ev rfl) (ev rfl) (HT7.out.ros (i := 3) rfl)) ?_
  simp only [Act.put, List.setIfInBounds_toArray, List.set_cons_succ, List.set_cons_zero]
  have HT8 : Hid (Blks w (putW w7 b5 (y)) [rc b2 (x), ac b3 (a), rc b4 (zeroR), rc b5 (y)]) := Lib.hid (HT7.out.putR (i := 3) rfl (y))
  clear HT7
  generalize putW w7 b5 (y) = w8 at *
  refine wpList_valn rfl (exec_as rfl (ev rfl)) ?_
  simp only [Act.put, List.setIfInBounds_toArray, List.set_cons_succ, List.set_cons_zero]
  refine wpList_nil ?_
  go_upto_region 10 with fail
  refine wp_region_lit ?_
  refine wpList_valn rfl (exec_mv rfl (ev rfl)) ?_
  simp only [Act.put, List.setIfInBounds_toArray, List.set_cons_succ, List.set_cons_zero]
  refine wpList_valn (v := .bool false) rfl (exec_neInt false rfl (ev rfl) evk HN.out) ?_
  simp only [Act.put, List.setIfInBounds_toArray, List.set_cons_succ, List.set_cons_zero]
  refine wpList_nil ?_
  go_upto_region 12 with fail
  refine wp_region_lit ?_
  refine wpList_valn rfl (exec_ldR rfl (ev rfl) (HT8.out.ros (i := 3) rfl)) ?_
  simp only [Act.put, List.setIfInBounds_toArray, List.set_cons_succ, List.set_cons_zero]
  refine wpList_nuln rfl (exec_putR rfl (ev rfl) (ev rfl) (HT8.out.ros (i := 2) rfl)) ?_
  simp only [Act.put, List.setIfInBounds_toArray, List.set_cons_succ, List.set_cons_zero]
  have HT9 : Hid (Blks w (putW w8 b4 (y)) [rc b2 (x), ac b3 (a), rc b4 (y), rc b5 (y)]) := Lib.hid (HT8.out.putR (i := 2) rfl (y))
  clear HT8
  generalize putW w8 b4 (y) = w9 at *
  refine wpList_nil ?_
  go_wp2_with fail
  exact bodyPost_ret (res_r1 rfl _ _ _ rfl (HT9.out.ros (i := 2) rfl)) rfl ⟨rfl, HT9.out.bel⟩
set_option maxHeartbeats 1000000 in
theorem pact_3o {x : Ros} {a : Act10} {y : Ros} {e : Nat} (hy : gonX x a.G = y) (he : gonE x = e) (hn : ((e : Int) != 0) = false) (d0 : (a.Do == 0) = false) (d1 : (a.Do == 1) = false) (d2 : (a.Do == 2) = false) (w : World) : Calls Try.prog 29 #[ros x, act10V a] w fun e w' => e = .returned (ros (y)) ∧ Below w.heap.size w w' := by
  have HY := Lib.hid hy
  have HE := Lib.hid he
  have HN := Lib.hid hn
  have D0 := Lib.hid d0
  have D1 := Lib.hid d1
  have D2 := Lib.hid d2
  clear hy he hn d0 d1 d2
  have HT1 := Lib.hid (Blks.nil w)
  go_enter Try.func29, Try.ntmps29
  go_upto_region 0 with fail
  refine wp_region_lit ?_
  refine wpList_valn rfl (exec_boxR rfl (ev rfl)) ?_
  simp only [Act.put, List.setIfInBounds_toArray, List.set_cons_succ, List.set_cons_zero]
  have HT2 : Hid (Blks w (w.alloc (.cells (celR x).toArray 26)) [rc w.heap.size (x)]) := Lib.hid (HT1.out.allocR x)
  clear HT1
  generalize w.alloc (.cells (celR x).toArray 26) = w2 at *
  generalize w.heap.size = b2 at *
  refine wpList_valn rfl (exec_boxA10 rfl (ev rfl)) ?_
  simp only [Act.put, List.setIfInBounds_toArray, List.set_cons_succ, List.set_cons_zero]
  have HT3 : Hid (Blks w (w2.alloc (.cells (act10C a).toArray 46)) [rc b2 (x), ac w2.heap.size (a)]) := Lib.hid (HT2.out.allocA a)
  clear HT2
  generalize w2.alloc (.cells (act10C a).toArray 46) = w3 at *
  generalize w2.heap.size = b3 at *
  refine wpList_valn rfl (exec_allocR rfl) ?_
  simp only [Act.put, List.setIfInBounds_toArray, List.set_cons_succ, List.set_cons_zero]
  have HT4 : Hid (Blks w (w3.alloc (.cells (celR zeroR).toArray 26)) [rc b2 (x), ac b3 (a), rc w3.heap.size (zeroR)]) := Lib.hid (HT3.out.allocR zeroR)
  clear HT3
  generalize w3.alloc (.cells (celR zeroR).toArray 26) = w4 at *
  generalize w3.heap.size = b4 at *
  refine wpList_nil ?_
  go_upto_region 1 with fail
  refine wp_region_lit ?_
  refine wpList_valn rfl (exec_ldR rfl (ev rfl) (HT4.out.ros (i := 0) rfl)) ?_
  simp only [Act.put, List.setIfInBounds_toArray, List.set_cons_succ, List.set_cons_zero]
  refine wpList_valn rfl (exec_allocR rfl) ?_
  simp only [Act.put, List.setIfInBounds_toArray, List.set_cons_succ, List.set_cons_zero]
  have HT5 : Hid (Blks w (w4.alloc (.cells (celR zeroR).toArray 26)) [rc b2 (x), ac b3 (a), rc b4 (zeroR), rc w4.heap.size (zeroR)]) := Lib.hid (HT4.out.allocR zeroR)
  clear HT4
  generalize w4.alloc (.cells (celR zeroR).toArray 26) = w5 at *
  generalize w4.heap.size = b5 at *
  refine wpList_nuln rfl (exec_putR rfl (ev rfl) (ev rfl) (HT5.out.ros (i := 3) rfl)) ?_
  simp only [Act.put, List.setIfInBounds_toArray, List.set_cons_succ, List.set_cons_zero]
  have HT6 : Hid (Blks w (putW w5 b5 (x)) [rc b2 (x), ac b3 (a), rc b4 (zeroR), rc b5 (x)]) := Lib.hid (HT5.out.putR (i := 3) rfl (x))
  clear HT5
  generalize putW w5 b5 (x) = w6 at *
  refine wpList_valn rfl (exec_as rfl evk) ?_
  simp only [Act.put, List.setIfInBounds_toArray, List.set_cons_succ, List.set_cons_zero]
  refine wpList_nil ?_
  go_upto_region 2 with fail
  refine wp_region_lit ?_
  refine wpList_valn rfl (exec_faddr rfl (ev rfl) faA0) ?_
  simp only [Act.put, List.setIfInBounds_toArray, List.set_cons_succ, List.set_cons_zero]
  refine wpList_valn rfl (exec_ld rfl (ev rfl) (ldInt (HT6.out.act (i := 1) rfl).1)) ?_
  simp only [Act.put, List.setIfInBounds_toArray, List.set_cons_succ, List.set_cons_zero]
  refine wpList_nil ?_
  go_upto_region 4 with fail
  refine wp_region_lit ?_
  refine wpList_valn (v := .bool false) rfl (exec_eqInt false rfl (ev rfl) evk D0.out) ?_
  simp only [Act.put, List.setIfInBounds_toArray, List.set_cons_succ, List.set_cons_zero]
  refine wpList_valn (v := .bool false) rfl (exec_as rfl (ev rfl)) ?_
  simp only [Act.put, List.setIfInBounds_toArray, List.set_cons_succ, List.set_cons_zero]
  refine wpList_nil ?_
  go_upto_region 6 with fail
  refine wp_region_lit ?_
  refine wpList_valn (v := .bool false) rfl (exec_eqInt false rfl (ev rfl) evk D1.out) ?_
  simp only [Act.put, List.setIfInBounds_toArray, List.set_cons_succ, List.set_cons_zero]
  refine wpList_valn (v := .bool false) rfl (exec_as rfl (ev rfl)) ?_
  simp only [Act.put, List.setIfInBounds_toArray, List.set_cons_succ, List.set_cons_zero]
  refine wpList_nil ?_
  go_upto_region 8 with fail
  refine wp_region_lit ?_
  refine wpList_valn (v := .bool false) rfl (exec_eqInt false rfl (ev rfl) evk D2.out) ?_
  simp only [Act.put, List.setIfInBounds_toArray, List.set_cons_succ, List.set_cons_zero]
  refine wpList_valn (v := .bool false) rfl (exec_as rfl (ev rfl)) ?_
  simp only [Act.put, List.setIfInBounds_toArray, List.set_cons_succ, List.set_cons_zero]
  refine wpList_nil ?_
  go_upto_region 3 with fail
  refine wp_region_lit ?_
  refine wpList_valn rfl (exec_ldR rfl (ev rfl) (HT6.out.ros (i := 0) rfl)) ?_
  simp only [Act.put, List.setIfInBounds_toArray, List.set_cons_succ, List.set_cons_zero]
  refine wpList_valn rfl (exec_faddr rfl (ev rfl) faA2) ?_
  simp only [Act.put, List.setIfInBounds_toArray, List.set_cons_succ, List.set_cons_zero]
  refine wpList_valn rfl (exec_ld rfl (ev rfl) (ldBo (HT6.out.act (i := 1) rfl).2.2)) ?_
  simp only [Act.put, List.setIfInBounds_toArray, List.set_cons_succ, List.set_cons_zero]
  refine wpList_call rfl (exec_cl Try.call25 rfl (evc (ev rfl) (evc (ev rfl) evn))) ?_
  refine (pgone_v w6 HY.out HE.out).mono ?_
  rintro e w7 ⟨rfl, hb⟩
  have HT7 := Lib.hid (HT6.out.call hb)
  clear hb HT6
  refine ⟨_, rfl, ?_⟩
  simp only [Act.put, List.setIfInBounds_toArray, List.set_cons_succ, List.set_cons_zero]
  refine wpList_valn rfl (exec_mv rfl (ev rfl)) ?_
  simp only [Act.put, List.setIfInBounds_toArray, List.set_cons_succ, List.set_cons_zero]
  refine wpList_valn rfl (exec_ext rfl (ev rfl) rfl) ?_
  simp only [Act.put, List.setIfInBounds_toArray, List.set_cons_succ, List.set_cons_zero]
  refine wpList_valn rfl (exec_ext rfl (ev rfl) rfl) ?_
  simp only [Act.put, List.setIfInBounds_toArray, List.set_cons_succ, List.set_cons_zero]
  refine wpList_nuln rfl (exec_putR rfl (ev rfl) (ev rfl) (HT7.out.ros (i := 3) rfl)) ?_
  simp only [Act.put, List.setIfInBounds_toArray, List.set_cons_succ, List.set_cons_zero]
  have HT8 : Hid (Blks w (putW w7 b5 (y)) [rc b2 (x), ac b3 (a), rc b4 (zeroR), rc b5 (y)]) := Lib.hid (HT7.out.putR (i := 3) rfl (y))
  clear HT7
  generalize putW w7 b5 (y) = w8 at *
  refine wpList_valn rfl (exec_as rfl (ev rfl)) ?_
  simp only [Act.put, List.setIfInBounds_toArray, List.set_cons_succ, List.set_cons_zero]
  refine wpList_nil ?_
  go_upto_region 10 with fail
  refine wp_region_lit ?_
  refine wpList_valn rfl (exec_mv rfl (ev rfl)) ?_
  simp only [Act.put, List.setIfInBounds_toArray, List.set_cons_succ, List.set_cons_zero]
  refine wpList_valn (v := .bool false) rfl (exec_neInt false rfl (ev rfl) evk HN.out) ?_
  simp only [Act.put, List.setIfInBounds_toArray, List.set_cons_succ, List.set_cons_zero]
  refine wpList_nil ?_
  go_upto_region 12 with fail
  refine wp_region_lit ?_
  refine wpList_valn rfl (exec_ldR rfl (ev rfl) (HT8.out.ros (i := 3) rfl)) ?_
  simp only [Act.put, List.setIfInBounds_toArray, List.set_cons_succ, List.set_cons_zero]
  refine wpList_nuln rfl (exec_putR rfl (ev rfl) (ev rfl) (HT8.out.ros (i := 2) rfl)) ?_
  simp only [Act.put, List.setIfInBounds_toArray, List.set_cons_succ, List.set_cons_zero]
  have HT9 : Hid (Blks w (putW w8 b4 (y)) [rc b2 (x), ac b3 (a), rc b4 (y), rc b5 (y)]) := Lib.hid (HT8.out.putR (i := 2) rfl (y))
  clear HT8
  generalize putW w8 b4 (y) = w9 at *
  refine wpList_nil ?_
  go_wp2_with fail
  exact bodyPost_ret (res_r1 rfl _ _ _ rfl (HT9.out.ros (i := 2) rfl)) rfl ⟨rfl, HT9.out.bel⟩
theorem pacts (x : Ros) (a : Act10) (w : World) : Calls Try.prog 29 #[ros x, act10V a] w fun e w' => e = .returned (ros (actX x a)) ∧ Below w.heap.size w w' := by
  unfold actX
  by_cases h0 : a.Do = 0
  · rw [if_pos h0]; exact pact_0 rfl rfl (by simpa using h0) w
  · rw [if_neg h0]
    have d0 : (a.Do == 0) = false := by simpa using h0
    by_cases h1 : a.Do = 1
    · rw [if_pos h1]
      have d1 : (a.Do == 1) = true := by simpa using h1
      by_cases h : begE x a.M = 0
      · rw [if_pos h]; exact pact_1o rfl rfl (by rw [h]; rfl) d0 d1 w
      · rw [if_neg h]; exact pact_1e rfl rfl (by simp; omega) d0 d1 w
    rw [if_neg h1]
    have d1 : (a.Do == 1) = false := by simpa using h1
    by_cases h2 : a.Do = 2
    · rw [if_pos h2]
      have d2 : (a.Do == 2) = true := by simpa using h2
      by_cases h : nexE x = 0
      · rw [if_pos h]; exact pact_2o rfl rfl (by rw [h]; rfl) d0 d1 d2 w
      · rw [if_neg h]; exact pact_2e rfl rfl (by simp; omega) d0 d1 d2 w
    · rw [if_neg h2]
      have d2 : (a.Do == 2) = false := by simpa using h2
      by_cases h : gonE x = 0
      · rw [if_pos h]; exact pact_3o rfl rfl (by rw [h]; rfl) d0 d1 d2 w
      · rw [if_neg h]; exact pact_3e rfl rfl (by simp; omega) d0 d1 d2 w
end Go.Proofs.Ytnckcafemdcaeaa
