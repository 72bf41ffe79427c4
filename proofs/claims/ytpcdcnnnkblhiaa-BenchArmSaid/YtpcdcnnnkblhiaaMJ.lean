/-
  Acts of layer 6 (ashlarlaw06.Act) that came in: one by value, and slices of them; one in a box.
  What every law asks besides: lives; small.
  BenchArm's walk.
  Conversions and remainders, operation by operation; the fields of api.Write; a write's cells.
-/
import Derived.Test.YtpcdcnnnkblhiaaMD
import Derived.Test.YtpcdcnnnkblhiaaME
import Derived.Test.YtpcdcnnnkblhiaaMH
namespace Go.Proofs.Ytpcdcnnnkblhiaa
open Go.RowKit Go.ChangeShapes Go.WideShapes Go.ChangeAt Go.Deep
set_option linter.unusedVariables false
set_option maxRecDepth 100000
/-- An act: what is done, of which device, of which sector, at which byte, by what, which block, and the slice of a cut's numbers. -/
structure Act6 where
  Do : Int
  D : Int
  N : Int
  At : Int
  By : UInt8
  B : Blk
  A : Option Addr
  n : Nat
  c : Nat
def act6C (a : Act6) : List Value := .int .i64 a.Do :: .int .i64 a.D :: .int .i64 a.N :: .int .i64 a.At :: .int .u8 (a.By.toNat : Int) :: (cel a.B ++ [.slice a.A a.n a.c])
def act6V (a : Act6) : Value := .agg (act6C a).toArray
theorem act6C_len (a : Act6) : (act6C a).length = 70 := by simp [act6C, cel_length]
theorem act6C_one (a : Act6) : ∀ v ∈ act6C a, v.oneCell' = true := by
  intro v hv
  simp only [act6C, List.mem_cons, List.mem_append, List.mem_nil_iff, or_false] at hv
  rcases hv with rfl | rfl | rfl | rfl | rfl | hv | rfl
  · rfl
  · rfl
  · rfl
  · rfl
  · rfl
  · exact cel_one a.B v hv
  · rfl
def zeroAct6 : Act6 := ⟨0, 0, 0, 0, 0, zeroB, none, 0, 0⟩
def Act6E : Elt Act6 where
  s := 23
  t := 36
  n := 70
  by_ := 128
  cel := act6C
  d := zeroAct6
  z := act6V zeroAct6
  pos := by omega
  small := by omega
  len := act6C_len
  one := act6C_one
  und := Try.underlying23
  info := by kernel_rfl
  zc := by show (Value.cells (.agg _)).size = 70; simp [Value.cells, act6C_len]
section
variable {H : Type} {enc : TypeId × Value → H} {W : World} {base : Nat} {v : Value} {d : DataW H} {p : List MemPlace}
/-- The numbers of an act read as a list; its sector's number is one of Go's ints. -/
def Act6In (W : World) (a : Act6) : Prop := (∃ l, RdE IntE W W.heap.size a.A a.n l ∧ a.n ≤ a.c ∧ a.c ≤ maxLen) ∧ a.N < 9223372036854775808
theorem act6_of_trod (fuel : Nat) (cs : List Value) (x : DataW H × List MemPlace) (h : DataW.trod enc Try.prog W 0 (fun _ => true) true fuel 36 cs = some x) : ∃ a : Act6, cs = Act6E.cel a ∧ Act6In W a := by
  obtain ⟨xs, n, _, _, hlen, hxl, hf⟩ := DataW.trod_struct Try.underlying36 h
  have h0 : DataW.trod enc Try.prog W 0 (fun _ => true) true n 3 ((cs.drop 0).take (Try.prog.cellsOf 3)) = xs[0]? := hf 0 _ rfl
  have h1 : DataW.trod enc Try.prog W 0 (fun _ => true) true n 3 ((cs.drop 1).take (Try.prog.cellsOf 3)) = xs[1]? := hf 1 _ rfl
  have h2 : DataW.trod enc Try.prog W 0 (fun _ => true) true n 3 ((cs.drop 2).take (Try.prog.cellsOf 3)) = xs[2]? := hf 2 _ rfl
  have h2' : DataW.trod enc Try.prog W 0 (fun _ => true) true n 3 ((cs.drop 3).take (Try.prog.cellsOf 3)) = xs[3]? := hf 3 _ rfl
  have h3 : DataW.trod enc Try.prog W 0 (fun _ => true) true n 5 ((cs.drop 4).take (Try.prog.cellsOf 5)) = xs[4]? := hf 4 _ rfl
  have h4 : DataW.trod enc Try.prog W 0 (fun _ => true) true n 34 ((cs.drop 5).take (Try.prog.cellsOf 34)) = xs[5]? := hf 5 _ rfl
  have h5 : DataW.trod enc Try.prog W 0 (fun _ => true) true n 22 ((cs.drop 69).take (Try.prog.cellsOf 22)) = xs[6]? := hf 6 _ rfl
  have hxl2 : xs.length = 7 := hxl
  have hl70 : cs.length = 70 := hlen.trans (by kernel_rfl)
  rw [show Try.prog.cellsOf 3 = 1 from by kernel_rfl, List.getElem?_eq_getElem (by omega)] at h0 h1 h2 h2'
  rw [u8cells, List.getElem?_eq_getElem (by omega)] at h3
  rw [cellsB, List.getElem?_eq_getElem (by omega)] at h4
  rw [show Try.prog.cellsOf 22 = 1 from by kernel_rfl, List.getElem?_eq_getElem (by omega)] at h5
  obtain ⟨a0, e0, _⟩ := int_of_trod _ _ _ h0
  obtain ⟨a1, e1, _⟩ := int_of_trod _ _ _ h1
  obtain ⟨a2, e2, w2⟩ := int_of_trod _ _ _ h2
  obtain ⟨a2', e2', _⟩ := int_of_trod _ _ _ h2'
  obtain ⟨a3, e3, _, w3⟩ := DataW.trod_int Try.underlying5 h3
  obtain ⟨b, e4⟩ := cel_of_trod h4
  obtain ⟨A, m, c, l, e5, hr, hc1, hc2, _⟩ := elts_of_trod IntE (fun a => (Lit.int .i64 a).wf = true) (by kernel_rfl) h5 (fun fuel cs x h => int_of_trod fuel cs x h)
  have hr3 : 0 ≤ a3 ∧ a3 ≤ 255 := bounds_u8 w3
  have hu : (((UInt8.ofNat a3.toNat).toNat : Nat) : Int) = a3 := by
    rw [UInt8.toNat_ofNat']
    omega
  refine ⟨⟨a0, a1, a2, a2', UInt8.ofNat a3.toNat, b, A, m, c⟩, ?_, ⟨l, hr, hc1, hc2⟩, by have := bounds_i64 w2; show a2 < _; omega⟩
  show cs = .int .i64 a0 :: .int .i64 a1 :: .int .i64 a2 :: .int .i64 a2' :: .int .u8 ((UInt8.ofNat a3.toNat).toNat : Int) :: (cel b ++ [.slice A m c])
  rw [hu]
  rw [List.drop_zero] at e0
  have p0 := List.take_append_drop 1 cs
  have p1 := List.take_append_drop 1 (cs.drop 1)
  have p2 := List.take_append_drop 1 (cs.drop 2)
  have p2' := List.take_append_drop 1 (cs.drop 3)
  have p3 := List.take_append_drop 1 (cs.drop 4)
  have p4 := List.take_append_drop 64 (cs.drop 5)
  rw [List.take_of_length_le (by rw [List.length_drop]; omega)] at e5
  rw [e0] at p0
  rw [e1, List.drop_drop] at p1
  rw [e2, List.drop_drop] at p2
  rw [e2', List.drop_drop] at p2'
  rw [e3, List.drop_drop] at p3
  rw [e4, List.drop_drop, e5] at p4
  rw [← p0, ← p1, ← p2, ← p2', ← p3, ← p4]
  rfl
theorem open_acts6 (hv : Value.okWide Try.prog W .any base 23 v) (h : DataW.Trod enc Try.prog W 0 (fun _ => true) true 23 v d p) :
    ∃ (A : Option Addr) (n c : Nat) (l : List Act6), v = .slice A n c ∧ RdE Act6E W W.heap.size A n l ∧ n ≤ c ∧ c ≤ maxLen ∧ ∀ k, k < n → Act6In W (l.getD k zeroAct6) :=
  open_elts Act6E (Act6In W) (by kernel_rfl) hv h (fun fuel cs x h => act6_of_trod fuel cs x h)
theorem open_act6 (hv : Value.okWide Try.prog W .any base 36 v) (h : DataW.Trod enc Try.prog W 0 (fun _ => true) true 36 v d p) : ∃ a : Act6, v = act6V a ∧ Act6In W a := by
  obtain ⟨cs, rfl, hsz⟩ := okWide_struct Try.underlying36 hv
  obtain ⟨fuel, hf⟩ := h
  obtain ⟨a, ha, hp⟩ := act6_of_trod _ _ _ hf
  refine ⟨a, ?_, hp⟩
  unfold act6V
  show Value.agg cs = Value.agg (Act6E.cel a).toArray
  rw [← ha]
  simp [Value.cells]
end
theorem exec_loadAct6 {ρ : Operand → Value} {o : Oper} {x : Operand} {w : World} {b off : Nat} {a : Act6} (ho : o.op = .load 36 x) (hx : ρ x = .pointer (some ⟨b, off, none⟩)) (hc : w.rangeAt b off (act6C a)) : (execOp ρ o).run Try.prog w = .ok (.value (act6V a)) w := by
  have h := run_loadAt_mid (P := Try.prog) w b off 36 (act6C a) _ hc Try.underlying36 rfl (by rw [act6C_len]; kernel_rfl)
  exact exec_ld ho hx h
theorem exec_boxA6 {ρ : Operand → Value} {o : Oper} {x : Operand} {w : World} {a : Act6} (ho : o.op = .box 36 x) (hx : ρ x = act6V a) : (execOp ρ o).run Try.prog w = .ok (.value (.pointer (some ⟨w.heap.size, 0, none⟩))) (w.alloc (.cells (act6C a).toArray 36)) := by
  unfold execOp
  simp only [ho, hx, Sem.run_bind, Instr.box, Sem.run_pure]
  simp [newVar, newRow, act6V, Value.cells]
theorem exec_allocA6 {ρ : Operand → Value} {o : Oper} {w : World} (ho : o.op = .alloc 36) : (execOp ρ o).run Try.prog w = .ok (.value (.pointer (some ⟨w.heap.size, 0, none⟩))) (w.alloc (.cells Act6E.z.cells 36)) := exec_allocE (E := Act6E) ho
theorem exec_fillA6 {ρ : Operand → Value} {o : Oper} {x y : Operand} {w : World} {a : Act6} (ho : o.op = .store 36 x y) (hx : ρ x = .pointer (some ⟨w.heap.size, 0, none⟩)) (hy : ρ y = act6V a) : (execOp ρ o).run Try.prog (w.alloc (.cells Act6E.z.cells 36)) = .ok .skip (w.alloc (.cells (act6C a).toArray 36)) := exec_fillE (E := Act6E) ho hx hy
section
variable {w : World} {b off : Nat} {a : Act6}
theorem faT0 : (Instr.fieldAt 36 (.pointer (some ⟨b, 0, none⟩)) 0).run Try.prog w = .ok (.pointer (some ⟨b, 0, none⟩)) w := by kernel_rfl
theorem faT1 : (Instr.fieldAt 36 (.pointer (some ⟨b, 0, none⟩)) 1).run Try.prog w = .ok (.pointer (some ⟨b, 1, none⟩)) w := by kernel_rfl
theorem faT2 : (Instr.fieldAt 36 (.pointer (some ⟨b, 0, none⟩)) 2).run Try.prog w = .ok (.pointer (some ⟨b, 2, none⟩)) w := by kernel_rfl
theorem faT3 : (Instr.fieldAt 36 (.pointer (some ⟨b, 0, none⟩)) 3).run Try.prog w = .ok (.pointer (some ⟨b, 3, none⟩)) w := by kernel_rfl
theorem faT4 : (Instr.fieldAt 36 (.pointer (some ⟨b, 0, none⟩)) 4).run Try.prog w = .ok (.pointer (some ⟨b, 4, none⟩)) w := by kernel_rfl
theorem faT5 : (Instr.fieldAt 36 (.pointer (some ⟨b, 0, none⟩)) 5).run Try.prog w = .ok (.pointer (some ⟨b, 5, none⟩)) w := by kernel_rfl
theorem faT6 : (Instr.fieldAt 36 (.pointer (some ⟨b, 0, none⟩)) 6).run Try.prog w = .ok (.pointer (some ⟨b, 69, none⟩)) w := by kernel_rfl
/-- What an act's box holds, but its first number. -/
def Act6At (w : World) (b : Nat) (a : Act6) : Prop := w.cell? ⟨b, 1, none⟩ = some (.int .i64 a.D) ∧ w.cell? ⟨b, 2, none⟩ = some (.int .i64 a.N) ∧ w.cell? ⟨b, 3, none⟩ = some (.int .i64 a.At) ∧ w.cell? ⟨b, 4, none⟩ = some (.int .u8 (a.By.toNat : Int)) ∧ w.rangeAt b 5 (cel a.B) ∧ w.cell? ⟨b, 69, none⟩ = some (.slice a.A a.n a.c)
theorem act6_box (h : w.heap[b]? = some (.cells (act6C a).toArray 36)) : w.cell? ⟨b, 0, none⟩ = some (.int .i64 a.Do) ∧ Act6At w b a := by
  have hc : ∀ i, w.cell? ⟨b, i, none⟩ = (act6C a)[i]? := fun i => by
    rw [cell_of_row w b i _ _ (0, 0) h]; simp
  refine ⟨(hc 0).trans rfl, (hc 1).trans rfl, (hc 2).trans rfl, (hc 3).trans rfl, (hc 4).trans rfl, fun j v hj => ?_, ?_⟩
  · rw [hc, show 5 + j = j + 5 from by omega]
    have hlt := (List.getElem?_eq_some_iff.1 hj).1
    show (cel a.B ++ [_])[j]? = some v
    rw [List.getElem?_append_left hlt]
    exact hj
  · rw [hc]
    show (cel a.B ++ [_])[64]? = _
    rw [List.getElem?_append_right (by rw [cel_length]; omega), cel_length]
    rfl
theorem Act6At.below {w' : World} {B : Nat} (h : Act6At w b a) (hb : b < B) (k : Below B w w') : Act6At w' b a :=
  ⟨(k.cell (p := ⟨b, 1, none⟩) hb).trans h.1, (k.cell (p := ⟨b, 2, none⟩) hb).trans h.2.1, (k.cell (p := ⟨b, 3, none⟩) hb).trans h.2.2.1, (k.cell (p := ⟨b, 4, none⟩) hb).trans h.2.2.2.1, range_below h.2.2.2.2.1 hb k, (k.cell (p := ⟨b, 69, none⟩) hb).trans h.2.2.2.2.2⟩
theorem Act6At.only {w' : World} {F : Nat → Prop} (h : Act6At w b a) (hb : b < w.heap.size) (k : Only F w w') (hn : ¬ F b) : Act6At w' b a :=
  ⟨(k.cell (p := ⟨b, 1, none⟩) hb hn).trans h.1, (k.cell (p := ⟨b, 2, none⟩) hb hn).trans h.2.1, (k.cell (p := ⟨b, 3, none⟩) hb hn).trans h.2.2.1, (k.cell (p := ⟨b, 4, none⟩) hb hn).trans h.2.2.2.1, (fun j v hj => (k.cell (p := ⟨b, 5 + j, none⟩) hb hn).trans (h.2.2.2.2.1 j v hj)), (k.cell (p := ⟨b, 69, none⟩) hb hn).trans h.2.2.2.2.2⟩
end
theorem ldNs {w : World} {a : Addr} {A : Option Addr} {n c : Nat} (h : w.cell? a = some (.slice A n c)) : (Instr.loadAt 22 (.pointer (some a))).run Try.prog w = .ok (.slice A n c) w := by simp [go_sem, h]
end Go.Proofs.Ytpcdcnnnkblhiaa
namespace Go.Proofs.Ytpcdcnnnkblhiaa
open Go.RowKit
set_option linter.unusedVariables false
set_option maxRecDepth 100000

def lvA : Blk := zeroB.set 0 1
def lvB : Blk := zeroB.set 0 2
def lv0 : BenS := newS6 [2, 2]
def lv1 : BenS := arS6 lv0 2
def lv2 : BenS := wrS6 lv1 0 0 lvA
def lv3 : BenS := wrS6 lv2 1 0 lvB
def lv4 : BenS := crS6 lv3 []
theorem lv_ok : newOk [2, 2] := ⟨by decide, by decide, by decide⟩
theorem lv_e1 : arE6 lv0 2 = 0 := by decide +kernel
theorem lv_e2 : wrE6 lv1 0 0 = 0 := by decide +kernel
theorem lv_e3 : wrE6 lv2 1 0 = 8 := by decide +kernel
theorem lv_e4 : lv3.dark = true := by decide +kernel
theorem lv_e5 : rdE6 lv3 0 0 = 8 := by decide +kernel
theorem lv_e6 : rdB6 lv3 0 0 = zeroB := by decide +kernel
theorem lv_e7 : rdE6 lv4 0 0 = 0 := by decide +kernel
theorem lv_e8 : rdB6 lv4 0 0 = zeroB := by decide +kernel
theorem lv_e9 : inE6 lv4 0 = 17 := by decide +kernel
theorem lv_e10 : (inS6 lv4 0).steps = 1 := by decide +kernel
set_option maxHeartbeats 2000000 in
theorem lives6 (R : BenP) (w : World) : Calls Try.prog 10 #[] w fun e w' => e = .returned (.bool true) ∧ Below w.heap.size w w' := by
  have hnew : RdE IntE _ _ _ 2 _ := rdE_new (E := IntE) (l := [2, 2]) w #[.int .i64 2, .int .i64 2] 3 rfl
  have hr0 : Room lv0 3 := room_new (by omega)
  have hr1 : Room lv1 3 := room_ar hr0 2 (by omega)
  have hr2 : Room lv2 2 := room_wr hr1 0 0 lvA
  have HR1 := Lib.hid (Room.less (Room.less hr1))
  have HR2 := Lib.hid (Room.less hr2)
  have HN := Lib.hid hnew
  have HSZ := Lib.hid (World.size_alloc w (.cells #[.int .i64 2, .int .i64 2] 3))
  have HA := Lib.hid ((Below.refl w.heap.size w).alloc (Nat.le_refl _) (.cells #[.int .i64 2, .int .i64 2] 3))
  clear hnew hr0 hr1 hr2
  go_enter Try.func10, Try.ntmps10
  go_wp2_with fail
  refine (R.new (A := some ⟨w.heap.size, 0, none⟩) (c := 2) (by rw [HSZ.out]; exact HN.out) (by omega) (by unfold maxLen; omega)).mono ?_
  rintro e w1 ⟨hb1, ⟨_, p, F, rfl, hB, hF⟩ | ⟨hno, rfl⟩⟩
  rotate_left 1
  · exact absurd lv_ok hno
  have h0 : At R.toBen w w.heap.size w1 p lv0 := ⟨F, hB, fun b hb => by have := hF b hb; rw [HSZ.out] at this; omega, HA.out.trans (hb1.mono (by rw [HSZ.out]; omega)), Nat.le_refl _⟩
  clear hb1 hB hF HSZ HA HN
  go_wp2_with fail
  refine (h0.arm 2).mono ?_
  rintro e w2 ⟨rfl, h1⟩
  rw [lv_e1]
  clear h0
  go_wp2_with (first | (refine wpList_val rfl (exec_build (c := lvA) (parts := [(0, .const (.int .u8 1))]) rfl (by rfl)) ?_) | fail)
  refine (At.write (M := lv1) 0 0 lvA HR1.out h1).mono ?_
  rintro e w3 ⟨rfl, h2⟩
  rw [lv_e2]
  clear h1
  go_wp2_with (first | (refine wpList_val rfl (exec_build (c := lvB) (parts := [(0, .const (.int .u8 2))]) rfl (by rfl)) ?_) | fail)
  refine (At.write (M := lv2) 1 0 lvB HR2.out h2).mono ?_
  rintro e w4 ⟨rfl, h3⟩
  rw [lv_e3]
  clear h2
  go_wp2_with fail
  refine (At.dark (M := lv3) h3).mono ?_
  rintro e w5 ⟨rfl, hb⟩
  rw [lv_e4]
  have h4 := At.below (M := lv3) h3 hb
  clear h3 hb
  go_wp2_with fail
  refine (At.read (M := lv3) 0 0 h4).mono ?_
  rintro e w6 ⟨rfl, hb⟩
  rw [lv_e5, lv_e6]
  have h5 := (At.below (M := lv3) h4 hb).alloc (.cells (cel zeroB).toArray 34)
  clear h4 hb
  go_wp2_with (first | (refine wpList_val rfl (exec_alloc rfl) ?_) | (refine wpList_nul rfl (exec_fill rfl rfl rfl) ?_) | fail)
  generalize w6.alloc (.cells (cel zeroB).toArray 34) = w7 at *
  refine (At.crash (M := lv3) (P := []) (RdE.nil _ _ _) (Nat.le_refl _) (Nat.zero_le _) h5).mono ?_
  rintro e w8 ⟨rfl, h6⟩
  clear h5
  go_wp2_with fail
  refine (At.read (M := lv4) 0 0 h6).mono ?_
  rintro e w9 ⟨rfl, hb⟩
  rw [lv_e7, lv_e8]
  have h7 := (At.below (M := lv4) h6 hb).alloc (.cells (cel zeroB).toArray 34)
  have HZ := Lib.hid (blk_range (new1 w9 (cel zeroB).toArray 34))
  clear h6 hb
  go_wp2_with (first | (refine wpList_val rfl (exec_alloc rfl) ?_) | (refine wpList_nul rfl (exec_fill rfl rfl rfl) ?_) | (refine wpList_val rfl (exec_load rfl rfl HZ.out) ?_) | (refine wpList_val rfl (exec_build (c := zeroB) (parts := []) rfl rfl) ?_) | (refine wpList_val rfl (exec_eql rfl rfl rfl) ?_) | fail)
  refine (At.insert (M := lv4) 0 h7).mono ?_
  rintro e w10 ⟨rfl, h8⟩
  rw [lv_e9]
  clear h7
  go_wp2_with fail
  refine (At.steps h8).mono ?_
  rintro e w11 ⟨rfl, hb⟩
  rw [lv_e10]
  have HB := Lib.hid (h8.below hb).bel
  clear h8 hb
  go_wp2_with fail
  go_ret
  exact ⟨rfl, HB.out⟩
end Go.Proofs.Ytpcdcnnnkblhiaa
namespace Go.Proofs.Ytpcdcnnnkblhiaa
open Go.RowKit
set_option linter.unusedVariables false
set_option maxRecDepth 100000

section
variable {P : Program} {ops : Array Oper} {rest : List Oper} {o : Oper} {a : Act} {w w' : World} {Q : Exit → Act → World → Prop} {v : Value}
/-- As wpList_val, wpList_nul, of an operation that bears no guard: a miss costs little. -/
theorem wpList_valn (hg : o.guard = none) (h : (execOp a.eval o).run P w = .ok (.value v) w') (hr : wpList P ops Q rest (a.put o.dst v) w') : wpList P ops Q (o :: rest) a w := wpList_val (by unfold Region.wanted; rw [hg]) h hr
theorem wpList_nuln (hg : o.guard = none) (h : (execOp a.eval o).run P w = .ok .skip w') (hr : wpList P ops Q rest (a.put o.dst undef) w') : wpList P ops Q (o :: rest) a w := wpList_nul (by unfold Region.wanted; rw [hg]) h hr
end
/-- Three devices of eight sectors, all alive. -/
structure Three (M : BenS) : Prop where
  len : M.ds.length = 3
  g : ∀ i, i < 3 → (M.ds.getD i dev0).g = false
  S : ∀ i, i < 3 → (M.ds.getD i dev0).S.length = 8
def sm0 : BenS := newS6 [8, 8, 8]
theorem sm_ok : newOk [8, 8, 8] := ⟨by decide, by decide, by decide⟩
theorem three_sm : Three sm0 := by
  refine ⟨rfl, fun i hi => ?_, fun i hi => ?_⟩
  · match i, hi with
    | 0, _ => rfl
    | 1, _ => rfl
    | 2, _ => rfl
  · match i, hi with
    | 0, _ => rfl
    | 1, _ => rfl
    | 2, _ => rfl
theorem Three.put {M : BenS} (h : Three M) {k : Nat} {d : DevS} (hk : k < 3) (hg : d.g = false) (hS : d.S.length = 8) : Three (M.put k d) := by
  have hl := h.len
  refine ⟨by rw [M.put_len]; exact h.len, fun i hi => ?_, fun i hi => ?_⟩
  · show ((M.ds.set k d).getD i dev0).g = false
    by_cases e : i = k
    · subst e; rw [getD_set_at (by omega)]; exact hg
    · rw [getD_set_off e]; exact h.g i hi
  · show ((M.ds.set k d).getD i dev0).S.length = 8
    by_cases e : i = k
    · subst e; rw [getD_set_at (by omega)]; exact hS
    · rw [getD_set_off e]; exact h.S i hi
theorem Three.done {M : BenS} (h : Three M) : Three M.done := ⟨h.len, h.g, h.S⟩
theorem Three.night {M : BenS} (h : Three M) : Three M.night := ⟨h.len, h.g, h.S⟩
theorem Three.lit {M : BenS} (h : Three M) (hd : M.dark = false) {k : Nat} (hk : k < 3) : litE M (k : Int) = 0 := litE_ok hd (by rw [h.len]; exact hk)
theorem Three.has {M : BenS} (h : Three M) {k : Nat} (hk : k < 3) : hasE M (k : Int) = 0 := hasE_ok (by rw [h.len]; exact hk)
theorem Three.ask {M : BenS} (h : Three M) {k n : Nat} (hk : k < 3) (hn : n < 8) : askE (M.ds.getD k dev0).S (M.ds.getD k dev0).g (n : Int) = 0 := by
  rw [h.g k hk]; exact askE_ok (by rw [h.S k hk]; omega)
theorem Three.rd {M : BenS} (h : Three M) (hd : M.dark = false) {k n : Nat} (hk : k < 3) (hn : n < 8) : rdE6 M (k : Int) (n : Int) = 0 := by
  unfold rdE6; rw [if_pos (h.lit hd hk), M.dev_nat]; exact h.ask hk hn
theorem Three.fl {M : BenS} (h : Three M) (hd : M.dark = false) {k : Nat} (hk : k < 3) : flA6 M (k : Int) = 0 := by
  unfold flA6; rw [if_pos (h.lit hd hk), M.dev_nat, h.g k hk, if_neg (by decide)]

/-- Behind t steps, the power to be cut at the m-th one. -/
structure Armed (m t : Nat) (M : BenS) : Prop where
  three : Three M
  lit : m = 0 ∨ t < m → M.dark = false ∧ M.left = (if m = 0 then 0 else m - t) ∧ M.steps = t
  cut : ¬(m = 0 ∨ t < m) → M.dark = true ∧ M.steps = m - 1
def errA (m t : Nat) : Int := if 0 < m ∧ m ≤ t + 1 then 8 else 0
theorem armed_zero {m : Nat} : Armed m 0 (arS6 sm0 (m : Int)) := by
  have e : arE6 sm0 (m : Int) = 0 := by unfold arE6; rw [if_neg (by decide), if_neg (by omega)]
  have e2 : arS6 sm0 (m : Int) = ⟨sm0.ds, m, false, 0⟩ := by
    unfold arS6; rw [if_pos e]; show BenS.mk sm0.ds (m : Int).toNat false 0 = _; rw [Int.toNat_natCast]
  rw [e2]
  refine ⟨⟨three_sm.len, three_sm.g, three_sm.S⟩, fun _ => ⟨rfl, ?_, rfl⟩, fun h => ?_⟩
  · show m = _
    split <;> omega
  · omega
theorem armed_step {m t : Nat} {M M1 : BenS} {e : Int} (h : Armed m t M) (hm : m < 64) (h3 : ∀ (_ : M.dark = false), e = M.stepE ∧ (M.left = 1 → M1 = M.night) ∧ (M.left ≠ 1 → Three M1 ∧ M1.dark = M.dark ∧ M1.left = M.left - 1 ∧ M1.steps = M.steps + 1))
    (h4 : M.dark = true → e = 8 ∧ M1 = M) : e = errA m t ∧ Armed m (t + 1) M1 := by
  by_cases hl : m = 0 ∨ t < m
  · obtain ⟨hd, hleft, hst⟩ := h.lit hl
    obtain ⟨he, hn, hdn⟩ := h3 hd
    by_cases h1 : M.left = 1
    · have hmt : m = t + 1 ∧ 0 < m := by
        rw [h1] at hleft
        split at hleft <;> omega
      rw [hn h1]
      refine ⟨by rw [he]; unfold BenS.stepE errA; rw [if_pos h1, if_pos (by omega)], h.three.night, fun h' => by omega, fun _ => ⟨rfl, ?_⟩⟩
      show M.steps = m - 1
      omega
    · obtain ⟨g1, g2, g3, g4⟩ := hdn h1
      have hmt : m = 0 ∨ t + 1 < m := by
        rcases hl with e | e
        · exact .inl e
        · rw [if_neg (by omega)] at hleft; omega
      refine ⟨by rw [he]; unfold BenS.stepE errA; rw [if_neg h1, if_neg (by omega)], g1, fun _ => ⟨by rw [g2, hd], ?_, by rw [g4, hst]⟩, fun h' => absurd hmt h'⟩
      rw [g3, hleft]
      split <;> omega
  · obtain ⟨hd, hst⟩ := h.cut hl
    obtain ⟨he, rfl⟩ := h4 hd
    refine ⟨by rw [he]; unfold errA; rw [if_pos (by omega)], h.three, fun h' => by omega, fun _ => ⟨hd, hst⟩⟩
theorem armed_flush {m t k : Nat} {M : BenS} (h : Armed m t M) (hm : m < 64) (hk : k < 3) : flE6 M (k : Int) = errA m t ∧ Armed m (t + 1) (flS6 M (k : Int)) := by
  refine armed_step h hm (fun hd => ?_) (fun hd => ?_)
  · have hf := h.three.fl hd hk
    refine ⟨by unfold flE6; rw [if_pos hf], fun h1 => by unfold flS6; rw [if_pos hf, if_pos h1], fun h1 => ?_⟩
    have e : flS6 M (k : Int) = M.done.put k ⟨flS (M.ds.getD k dev0).S (M.ds.getD k dev0).L, [], (M.ds.getD k dev0).g⟩ := by unfold flS6; rw [if_pos hf, if_neg h1]; rfl
    rw [e]
    exact ⟨h.three.done.put hk (h.three.g k hk) (by show (flS _ _).length = 8; rw [flS_len]; exact h.three.S k hk), rfl, rfl, rfl⟩
  · have hf : flA6 M (k : Int) = 8 := by unfold flA6; rw [if_neg (by rw [litE_dark hd]; decide), litE_dark hd]
    exact ⟨by unfold flE6; rw [if_neg (by rw [hf]; decide), hf], by unfold flS6; rw [if_neg (by rw [hf]; decide)]⟩
theorem armed_write {m t k n : Nat} {M : BenS} (b : Blk) (h : Armed m t M) (hm : m < 64) (hk : k < 3) (hn : n < 8) : wrE6 M (k : Int) (n : Int) = errA m t ∧ Armed m (t + 1) (wrS6 M (k : Int) (n : Int) b) := by
  refine armed_step h hm (fun hd => ?_) (fun hd => ?_)
  · have hf := h.three.rd hd hk hn
    refine ⟨by unfold wrE6; rw [if_pos hf], fun h1 => by unfold wrS6; rw [if_pos hf, if_pos h1], fun h1 => ?_⟩
    have e : wrS6 M (k : Int) (n : Int) b = M.done.put k ⟨(M.ds.getD k dev0).S, wrL (M.ds.getD k dev0).S (M.ds.getD k dev0).L (M.ds.getD k dev0).g (n : Int) b, (M.ds.getD k dev0).g⟩ := by unfold wrS6; rw [if_pos hf, if_neg h1]; rfl
    rw [e]
    exact ⟨h.three.done.put hk (h.three.g k hk) (h.three.S k hk), rfl, rfl, rfl⟩
  · have hf : rdE6 M (k : Int) (n : Int) = 8 := by unfold rdE6; rw [if_neg (by rw [litE_dark hd]; decide), litE_dark hd]
    exact ⟨by unfold wrE6; rw [if_neg (by rw [hf]; decide), hf], by unfold wrS6; rw [if_neg (by rw [hf]; decide)]⟩
theorem small6 (P : BenP) (w : World) : Calls Try.prog 16 #[] w fun e w' => ∃ p, e = .returned (.pointer (some ⟨p, 0, none⟩)) ∧ At P.toBen w w.heap.size w' p sm0 := by
  have hnew : RdE IntE _ _ _ 3 _ := rdE_new (E := IntE) (l := [8, 8, 8]) w #[.int .i64 8, .int .i64 8, .int .i64 8] 3 rfl
  have HN := Lib.hid hnew
  have HSZ := Lib.hid (World.size_alloc w (.cells #[.int .i64 8, .int .i64 8, .int .i64 8] 3))
  have HA := Lib.hid ((Below.refl w.heap.size w).alloc (Nat.le_refl _) (.cells #[.int .i64 8, .int .i64 8, .int .i64 8] 3))
  clear hnew
  go_enter Try.func16, Try.ntmps16
  go_wp2_with fail
  refine (P.new (A := some ⟨w.heap.size, 0, none⟩) (c := 3) (by rw [HSZ.out]; exact HN.out) (by omega) (by unfold maxLen; omega)).mono ?_
  rintro e w1 ⟨hb1, ⟨_, p, F, rfl, hB, hF⟩ | ⟨hno, rfl⟩⟩
  rotate_left 1
  · exact absurd sm_ok hno
  have h0 : At P.toBen w w.heap.size w1 p sm0 := ⟨F, hB, fun b hb => by have := hF b hb; rw [HSZ.out] at this; omega, HA.out.trans (hb1.mono (by rw [HSZ.out]; omega)), Nat.le_refl _⟩
  have H0 := Lib.hid h0
  clear hb1 hB hF h0
  go_wp2_with fail
  go_ret
  exact ⟨p, rfl, H0.out⟩
end Go.Proofs.Ytpcdcnnnkblhiaa
namespace Go.Proofs.Ytpcdcnnnkblhiaa
open Go.RowKit
set_option linter.unusedVariables false
set_option maxRecDepth 100000

section
variable {ρ : Operand → Value} {o : Oper} {x y : Operand} {w : World} {a : Int}
theorem run_cvU : (convert 3 43 (.int .i64 a)).run Try.prog w = .ok (.int .u64 (IntKind.u64.wrap a)) w := by
  simp [convert, go_sem]
theorem run_cvI (h : IntKind.i64.wrap a = a) : (convert 43 3 (.int .u64 a)).run Try.prog w = .ok (.int .i64 a) w := by
  simp [convert, go_sem, h]
theorem exec_cvU (ho : o.op = .convert 3 43 x) (hx : ρ x = .int .i64 a) : (execOp ρ o).run Try.prog w = .ok (.value (.int .u64 (IntKind.u64.wrap a))) w := by
  unfold execOp
  simp only [ho, hx, Sem.run_bind, run_cvU, Result.andThen_ok, Sem.run_pure]
theorem exec_cvN (ho : o.op = .convert 3 43 x) (hx : ρ x = .int .i64 a) (h : IntKind.u64.wrap a = a) : (execOp ρ o).run Try.prog w = .ok (.value (.int .u64 a)) w := by
  have := exec_cvU (ρ := ρ) (w := w) ho hx
  rwa [h] at this
theorem exec_cvI (ho : o.op = .convert 43 3 x) (hx : ρ x = .int .u64 a) (h : IntKind.i64.wrap a = a) : (execOp ρ o).run Try.prog w = .ok (.value (.int .i64 a)) w := by
  unfold execOp
  simp only [ho, hx, Sem.run_bind, run_cvI h, Result.andThen_ok, Sem.run_pure]
theorem exec_remU {t r : TypeId} {b c : Int} (ho : o.op = .binOp .rem t x y r) (hx : ρ x = .int .u64 a) (hy : ρ y = .int .u64 b) (h0 : b ≠ 0) (h : a.tmod b = c) : (execOp ρ o).run Try.prog w = .ok (.value (.int .u64 c)) w := by
  unfold execOp
  simp [ho, hx, hy, eqGuard, binOp, Op.intDiv, h, h0]
theorem faW0 {b off : Nat} : (Instr.fieldAt 45 (.pointer (some ⟨b, off, none⟩)) 0).run Try.prog w = .ok (.pointer (some ⟨b, off, none⟩)) w := by kernel_rfl
theorem faW1 {b off : Nat} : (Instr.fieldAt 45 (.pointer (some ⟨b, off, none⟩)) 1).run Try.prog w = .ok (.pointer (some ⟨b, off + 1, none⟩)) w := by kernel_rfl
end
/-- A number by a remainder of what it is without a sign. -/
theorem place_u (a : Int) (n : Nat) (h : 0 < n) : ∃ k : Nat, k < n ∧ (IntKind.u64.wrap a).tmod (n : Int) = (k : Int) := by
  have h1 : 0 ≤ IntKind.u64.wrap a := by rw [IntKind.wrap_u64]; omega
  have h2 := Int.tmod_eq_emod_of_nonneg (b := (n : Int)) h1
  have h3 := Int.emod_nonneg (IntKind.u64.wrap a) (b := (n : Int)) (by omega)
  have h4 := Int.emod_lt_of_pos (IntKind.u64.wrap a) (b := (n : Int)) (by omega)
  obtain ⟨k, hk⟩ := Int.eq_ofNat_of_zero_le h3
  exact ⟨k, by omega, by rw [h2, hk]⟩
section
variable {ρ : Operand → Value} {o : Oper} {x y : Operand} {w : World} {a : Int}
theorem exec_rem8 {t r : TypeId} {b c : Int} (ho : o.op = .binOp .rem t x y r) (hx : ρ x = .int .u8 a) (hy : ρ y = .int .u8 b) (h0 : b ≠ 0) (h : a.tmod b = c) : (execOp ρ o).run Try.prog w = .ok (.value (.int .u8 c)) w := by
  unfold execOp
  simp [ho, hx, hy, eqGuard, binOp, Op.intDiv, h, h0]
theorem run_cv8 (h : IntKind.i64.wrap a = a) : (convert 5 3 (.int .u8 a)).run Try.prog w = .ok (.int .i64 a) w := by
  simp [convert, go_sem, h]
theorem exec_cv8 (ho : o.op = .convert 5 3 x) (hx : ρ x = .int .u8 a) (h : IntKind.i64.wrap a = a) : (execOp ρ o).run Try.prog w = .ok (.value (.int .i64 a)) w := by
  unfold execOp
  simp only [ho, hx, Sem.run_bind, run_cv8 h, Result.andThen_ok, Sem.run_pure]
end
theorem rem8 (z : Int) (h : 0 ≤ z) (n : Nat) (hn : 0 < n) : ∃ k : Nat, k < n ∧ z.tmod (n : Int) = (k : Int) := by
  have h2 := Int.tmod_eq_emod_of_nonneg (b := (n : Int)) h
  have h3 := Int.emod_nonneg z (b := (n : Int)) (by omega)
  have h4 := Int.emod_lt_of_pos z (b := (n : Int)) (by omega)
  obtain ⟨k, hk⟩ := Int.eq_ofNat_of_zero_le h3
  exact ⟨k, by omega, by rw [h2, hk]⟩
/-- What a write's cells are. -/
theorem pair_parts {w : World} {b o : Nat} {q : Int × Blk} (h : w.rangeAt b o (cel65 q)) : w.cell? ⟨b, o, none⟩ = some (.int .i64 q.1) ∧ w.rangeAt b (o + 1) (cel q.2) ∧ ∀ i, i < 64 → w.cell? ⟨b, o + 1 + i, none⟩ = some (.int .u8 (byt q.2 i)) := by
  have h2 : w.rangeAt b (o + 1) (cel q.2) := fun j v hj => by
    have := h (j + 1) v hj
    rwa [show o + (j + 1) = o + 1 + j from by omega] at this
  exact ⟨h 0 _ rfl, h2, fun i hi => h2 i _ (cel_at _ hi)⟩
end Go.Proofs.Ytpcdcnnnkblhiaa
