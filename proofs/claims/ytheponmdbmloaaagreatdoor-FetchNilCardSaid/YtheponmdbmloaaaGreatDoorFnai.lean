import Derived.Test.YtheponmdbmloaaaGreatDoorFnag
import Derived.Test.YtheponmdbmloaaaGreatDoorFnah
import Derived.Laws.EntriesVeiled
import Derived.Test.YtheponmdbmloaaaGreatDoorFnZ
namespace Go.Proofs.YtheponmdbmloaaaGreatDoor
open Go.RowKit
set_option linter.unusedVariables false
set_option linter.unusedSimpArgs false
set_option maxRecDepth 100000
def onwV (p q : Nat) : Value := .func (.func 107) #[] #[.pointer (some ⟨p, 0, none⟩), .pointer (some ⟨q, 0, none⟩)]
def CutAt (w : World) (p q : Nat) (S : Value) (k : Nat) : Prop := w.heap[p]? = some (.cells #[.int .i64 (k : Int)] 3 (0, 0)) ∧ w.heap[q]? = some (.cells #[S] 141 (0, 0))
set_option maxHeartbeats 1000000 in
theorem onward_any (S : Value) (A : Option Addr) (n c : Nat) (hS : S = .slice A n c) (w : World) : Calls Tryz.prog 97 #[S] w fun e w' => ∃ p q, e = .returned (onwV p q) ∧ CutAt w' p q S 0 ∧ w.heap.size ≤ p ∧ w.heap.size ≤ q ∧ p ≠ q ∧ p < w'.heap.size ∧ q < w'.heap.size ∧ Below w.heap.size w w' := by
  subst hS
  have hmf : ∀ (fn : Fn) (first cap : Array Value) (w : World), (Instr.makeFunc fn first cap).run Tryz.prog w = .ok (.func fn first cap) w := fun _ _ _ _ => rfl
  go_enter Tryz.func97, Tryz.ntmps97
  go_wp2
  go_ret
  have e1 := World.size_alloc (w := w) (o := Obj.cells #[Value.slice A n c] 141)
  refine ⟨w.heap.size + 1, w.heap.size, rfl, ⟨?_, ?_⟩, by omega, by omega, by omega, ?_, ?_, ?_⟩
  · have := heap_alloc_new (w.alloc (.cells #[.slice A n c] 141)) (.cells #[.int .i64 0] 3)
    rwa [e1] at this
  · exact aW (heap_alloc_new w _) _
  · simp only [World.size_alloc]; omega
  · simp only [World.size_alloc]; omega
  · exact ((Below.refl _ w).alloc (Nat.le_refl _) _).alloc (by simp only [World.size_alloc]; omega) _
theorem cut_sl (g off n c : Nat) (w : World) {i j : Nat} (h1 : i < j) (h2 : j ≤ n) (h3 : n ≤ c) : (Instr.sliceAt 141 (.slice (some ⟨g, off, none⟩) n c) (some (.int .i64 (i : Int))) (some (.int .i64 (j : Int))) (some (.int .i64 (j : Int)))).run Tryz.prog w = .ok (.slice (some ⟨g, off + i, none⟩) (j - i) (j - i)) w := by
  have e1 : (0 ≤ (j : Int) ∧ (j : Int) ≤ (c : Int)) := by omega
  have e2 : (0 ≤ (j : Int) ∧ (j : Int) ≤ (j : Int)) := by omega
  have e3 : (0 ≤ (i : Int) ∧ (i : Int) ≤ (j : Int)) := by omega
  have e4 : j ≠ i := by omega
  have e5 : i ≤ j := by omega
  have e6 : j ≤ c := by omega
  simp [Instr.sliceAt, Instr.slice, Instr.sliceBounds, Instr.sliceBound, Instr.sureAddr, asIntOf, run_underlying Tryz.underlying141, Tryz.sizeOf5, Addr.add_mid, e1, e2, e3, e4, e5, e6]
set_option maxHeartbeats 1000000 in
theorem onw1 (p q g off n c k s : Nat) (w : World) (h : CutAt w p q (.slice (some ⟨g, off, none⟩) n c) k) (hpq : p ≠ q) (hs : 0 < s) (hk : k + s ≤ n) (hc : n ≤ c) (hn : n ≤ 1000000) :
    Calls Tryz.prog 107 #[.int .i64 (s : Int), .pointer (some ⟨p, 0, none⟩), .pointer (some ⟨q, 0, none⟩)] w fun e w' => e = .returned (.slice (some ⟨g, off + k, none⟩) s s) ∧ CutAt w' p q (.slice (some ⟨g, off, none⟩) n c) (k + s) ∧ w.grownBy w' (some p) := by
  obtain ⟨h1, h2⟩ := h
  obtain ⟨a1, a2⟩ := cell1 h1
  obtain ⟨b1, b2⟩ := cell1 h2
  have s1 := set1 h1 (.int .i64 ((k : Int) + s))
  have s2 : (w.setCell ⟨p, 0, none⟩ (.int .i64 ((k : Int) + s))).heap[q]? = some (.cells #[.slice (some ⟨g, off, none⟩) n c] 141 (0, 0)) := (heap_setCell_other w ⟨p, 0, none⟩ q _ (fun e => hpq e.symm)).trans h2
  have d1 := (cell1 s1).1
  have d2 := (cell1 s2).1
  have hg := grown_set w p 0 (.int .i64 ((k : Int) + s))
  have S1 := Lib.hid s1
  have S2 := Lib.hid s2
  have HG := Lib.hid hg
  have HCUT : Hid (∀ w : World, (Instr.sliceAt 141 (.slice (some ⟨g, off, none⟩) n c) (some (.int .i64 (k : Int))) (some (.int .i64 ((k : Int) + (s : Int)))) (some (.int .i64 ((k : Int) + (s : Int))))).run Tryz.prog w = .ok (.slice (some ⟨g, off + k, none⟩) s s) w) := Lib.hid fun w => by
    have := cut_sl g off n c w (i := k) (j := k + s) (by omega) hk hc
    rw [show k + s - k = s from by omega] at this
    exact this
  clear h1 h2 s1 s2 hg b1 b2
  go_enter Tryz.func107, Tryz.ntmps107
  go_wp2_with (first | (refine af rfl (dv rfl rfl rfl rfl rfl (HCUT.out _)) ?_) | fail)
  go_ret
  exact ⟨rfl, ⟨S1.out, S2.out⟩, HG.out⟩
structure LayW (B : Nat) (w0 w : World) (x : Sup) (sb rb r nb p q g : Nat) (a : List UInt8) : Prop where
  sup : bP w sb x
  ros : a6 w rb x.ros
  res : bH w r 138 z44
  nxt : w.heap[nb]? = some (.cells #[onwV p q] 144 (0, 0))
  cut : CutAt w p q (.slice (some ⟨g, 0, none⟩) 44 44) a.length
  row : bH w g 138 (padL a)
  bel : Below B w0 w
  p0 : B ≤ p
  g0 : B ≤ g
  dif : sb ≠ p ∧ sb ≠ g ∧ rb ≠ p ∧ rb ≠ g ∧ r ≠ p ∧ r ≠ g ∧ nb ≠ p ∧ nb ≠ g ∧ p ≠ q ∧ p ≠ g ∧ q ≠ g
section
variable {B : Nat} {w0 w w' : World} {x : Sup} {sb rb r nb p q g : Nat} {a b : List UInt8}
theorem LayW.keep (h : LayW B w0 w x sb rb r nb p q g a) (hb : Below w.heap.size w w') (hB : B ≤ w0.heap.size) : LayW B w0 w' x sb rb r nb p q g a :=
  ⟨am h.sup hb, am h.ros hb, am h.res hb, am h.nxt hb, ⟨am h.cut.1 hb, am h.cut.2 hb⟩, am h.row hb, h.bel.trans (hb.mono (Nat.le_trans hB h.bel.size)), h.p0, h.g0, h.dif⟩
theorem LayW.cutR (h : LayW B w0 w x sb rb r nb p q g a) (hc : CutAt w' p q (.slice (some ⟨g, 0, none⟩) 44 44) b.length) (hr : bH w' g 138 (padL b)) (hg : ∃ w1, w.grownBy w1 (some p) ∧ w1.grownBy w' (some g)) (hB : B ≤ w0.heap.size) : LayW B w0 w' x sb rb r nb p q g b := by
  obtain ⟨w1, k1, k2⟩ := hg
  obtain ⟨d1, d2, d3, d4, d5, d6, d7, d8, d9, d10, d11⟩ := h.dif
  have hb1 : Below B w0 w1 := h.bel.grown k1 (Nat.le_trans hB h.bel.size) (fun k hk => by injection hk with e; have := h.p0; omega)
  have hb2 : Below B w0 w' := hb1.grown k2 (Nat.le_trans hB hb1.size) (fun k hk => by injection hk with e; have := h.g0; omega)
  exact ⟨bp (bp h.sup k1 d1) k2 d2, bp (bp h.ros k1 d3) k2 d4, bp (bp h.res k1 d5) k2 d6, bp (bp h.nxt k1 d7) k2 d8, hc, hr, hb2, h.p0, h.g0, h.dif⟩
end
theorem Made.kept1 {w w' : World} {B : Nat} {v : Value} {l : List UInt8} {row : Option Nat} (h : Made w B v l) (hg : w.grownBy w' row) (hne : ∀ k, row = Option.some k → k < B) : Made w' B v l := by
  refine ⟨h.1, ?_⟩
  rcases h.2 with hn | ⟨g, cap, cur, rfl, hbg, hgg, rest⟩
  · exact .inl hn
  · refine .inr ⟨g, cap, cur, rfl, hbg, ?_, rest⟩
    rw [hg.block g (Array.getElem?_eq_some_iff.1 hgg).1 (fun e => by have := hne g e.symm; omega)]
    exact hgg
set_option maxHeartbeats 1000000 in
theorem lay1 (B : Nat) (w0 w : World) (x : Sup) (sb rb r nb p q g : Nat) (a : List UInt8) (n k : Nat) (h : LayW B w0 w x sb rb r nb p q g a) (hB : B ≤ w0.heap.size) (h1 : 1 ≤ k) (h2 : k ≤ 8) (hk : a.length + k ≤ 44) (hn : n < 256 ^ k) :
    Calls Tryz.prog 98 #[.int .u64 n, .int .i64 k, .pointer (some ⟨nb, 0, none⟩)] w fun e w' => e = .returned (.tuple #[]) ∧ LayW B w0 w' x sb rb r nb p q g (a ++ br 8 k n) := by
  have HH := Lib.hid h
  have HL := Lib.hid (ay 8 k n)
  have HSP := Lib.hid (splice_pad (a := a) (x := br 8 k n) (by rw [ay]; exact hk))
  have HPL := Lib.hid (db (b := a) (by omega))
  have HPP := Lib.hid (aF h.cut.1)
  clear h
  go_enter Tryz.func98, Tryz.ntmps98
  go_wp2_with fail
  refine (put_ok n k w h1 h2 hn).mono ?_
  rintro e w1 ⟨v, rfl, hv, hb⟩
  have hvm := hv.made
  obtain ⟨A, c, rfl, _, _, _⟩ := hvm.open_ HL.out
  have HV := Lib.hid hvm
  have H1 := Lib.hid (HH.out.keep hb hB)
  have c0 := (cell1 H1.out.nxt).1
  unfold onwV at c0
  clear hv hvm hb HH
  go_wp2_with fail
  refine (onw1 p q g 0 44 44 a.length k w1 H1.out.cut H1.out.dif.2.2.2.2.2.2.2.2.1 h1 hk (Nat.le_refl _) (by omega)).mono ?_
  rintro e w2 ⟨rfl, hc2, hg2⟩
  clear c0
  have HC2 := Lib.hid hc2
  have HG2 := Lib.hid hg2
  have HROW2 : Hid (bH w2 g 138 (padL a)) := Lib.hid (bp H1.out.row hg2 (fun e => H1.out.dif.2.2.2.2.2.2.2.2.2.1 e.symm))
  have HRD2 : Hid (Rd w2 w2.heap.size A k (br 8 k n)) := Lib.hid (by
    have := (HV.out.kept1 hg2 (fun j hj => by injection hj with e; have := HPP.out; omega)).rd
    exact this)
  clear hc2 hg2
  go_wp2_with (first | (refine cN rfl _ _ rfl g a.length k k k c _ A 138 (padL a) (br 8 k n) rfl rfl HROW2.out HRD2.out (Nat.le_refl _) ?_ ?_) | fail)
  · rw [HPL.out]; omega
  intro w3 hr3 hg3
  rw [HSP.out] at hr3
  have hdf := H1.out.dif
  have hc3 : CutAt w3 p q (.slice (some ⟨g, 0, none⟩) 44 44) (a ++ br 8 k n).length := by
    rw [List.length_append, HL.out]
    exact ⟨bp HC2.out.1 hg3 hdf.2.2.2.2.2.2.2.2.2.1, bp HC2.out.2 hg3 hdf.2.2.2.2.2.2.2.2.2.2⟩
  have H3 := Lib.hid (H1.out.cutR hc3 hr3 ⟨w2, HG2.out, hg3⟩ hB)
  clear hr3 hg3 hdf hc3
  go_wp2_with fail
  go_end0
  exact ⟨rfl, H3.out⟩
section
variable {ρ : Operand → Value} {o : Oper} {x z : Operand} {w : World} {g off : Nat}
theorem exec_all44 (ho : o.op = .slice 138 x none none none) (hx : ρ x = .pointer (some ⟨g, off, none⟩)) : (execOp ρ o).run Tryz.prog w = .ok (.value (.slice (some ⟨g, off, none⟩) 44 44)) w := by
  have h : (Instr.sliceAt 138 (.pointer (some ⟨g, off, none⟩)) none none none).run Tryz.prog w = .ok (.slice (some ⟨g, off, none⟩) 44 44) w := by
    simp [Instr.sliceAt, Instr.sliceBounds, Instr.sliceBound, Instr.sureAddr, asIntOf, run_underlying Tryz.underlying138, Tryz.sizeOf5, Addr.add_mid]
  unfold execOp
  simp only [ho, hx, Option.map_none, Sem.run_bind, h, Result.andThen_ok, Sem.run_pure]
end
theorem a6.rd16 {w : World} {b : Nat} {x : Ros} (h : a6 w b x) : Rd w w.heap.size (some ⟨b, 3, none⟩) 16 x.st.toList := by
  have := h.rd (m := 16) (Nat.le_refl _)
  rwa [List.take_of_length_le (by simp)] at this
theorem layW_start {w w1 w2 : World} {x : Sup} {p q : Nat} (HS : bP w1 w.heap.size x) (HB : Below w.heap.size w w1) (HRES : bH w1 (w.heap.size + 1) 138 z44) (HROW : bH w1 (w.heap.size + 1 + 1) 138 z44)
    (hb : Below w1.heap.size w1 w2) (hc : CutAt w2 p q (.slice (some ⟨w.heap.size + 1 + 1, 0, none⟩) 44 44) 0) (hd : w1.heap.size ≤ p ∧ w1.heap.size ≤ q ∧ p ≠ q ∧ p < w2.heap.size ∧ q < w2.heap.size) :
    LayW w.heap.size w ((w2.alloc (.cells #[onwV p q] 144)).alloc (.cells (aC x.ros).toArray 32)) x w.heap.size (w2.heap.size + 1) (w.heap.size + 1) w2.heap.size p q (w.heap.size + 1 + 1) [] := by
  have e1 := World.size_alloc (w := w2) (o := Obj.cells #[onwV p q] 144)
  have h2 := aF HROW
  have h3 := hb.size
  have hro := a6.new (w2.alloc (.cells #[onwV p q] 144)) x.ros
  rw [e1] at hro
  have hb2 : Below w.heap.size w w2 := HB.trans (hb.mono HB.size)
  refine ⟨((HS.below (aF HS) hb).past _).past _, hro, aW (aW (am HRES hb) _) _, aW (heap_alloc_new w2 _) _, ⟨aW (aW hc.1 _) _, aW (aW hc.2 _) _⟩, aW (aW (am HROW hb) _) _, (hb2.alloc (by omega) _).alloc (by rw [e1]; omega) _, ?_, ?_, ?_⟩
  · omega
  · omega
  · refine ⟨?_, ?_, ?_, ?_, ?_, ?_, ?_, ?_, ?_, ?_, ?_⟩ <;> omega
theorem padL_zero {a : List UInt8} (h : a.length < 44) : padL (a ++ br 8 1 0) = padL a := by
  unfold padL
  have e : br 8 1 0 = [0] := by decide
  rw [e, List.append_assoc, List.length_append, List.length_singleton]
  congr 1
  rw [show 44 - a.length = (44 - (a.length + 1)) + 1 from by omega, List.replicate_succ]
  rfl
theorem full_yes {x : Sup} (h : x.ros.gone = true) : padL (br 8 8 x.id ++ br 8 1 x.ros.m.toNat ++ br 8 2 x.ros.s.toNat ++ br 8 2 x.ros.r.toNat ++ br 8 1 x.self.toNat ++ br 8 4 (val 2 x.ros.st.toList) ++ br 8 2 x.ros.cur.toNat ++ br 8 1 1) = cu x := by
  unfold cu bodyL goneN
  rw [h]
  simp only [List.append_assoc, if_true]
theorem full_no {x : Sup} (h : x.ros.gone = false) : padL (br 8 8 x.id ++ br 8 1 x.ros.m.toNat ++ br 8 2 x.ros.s.toNat ++ br 8 2 x.ros.r.toNat ++ br 8 1 x.self.toNat ++ br 8 4 (val 2 x.ros.st.toList) ++ br 8 2 x.ros.cur.toNat) = cu x := by
  rw [← padL_zero (by simp [ay])]
  unfold cu bodyL goneN
  rw [h]
  simp only [List.append_assoc, Bool.false_eq_true, if_false]
set_option maxHeartbeats 4000000 in
theorem plaid (x : Sup) (w : World) (hid : x.id < 18446744073709551616) (hx : supB x = true) : Calls Tryz.prog 91 #[sup x] w fun e w' => e = .returned (arr (cu x)) ∧ Below w.heap.size w w' := by
  obtain ⟨_, hf, q1, q2⟩ := of_supB hx
  obtain ⟨hgeo, hsta, _, q3, q4, _⟩ := cr hf
  obtain ⟨g1, g2, g3, g4, g5, g6⟩ := cQ hgeo
  have HNAR : Hid (narrow 2 x.ros.st.toList = true) := Lib.hid (by
    unfold narrow
    rw [List.all_eq_true]
    intro u hu
    simpa using st_small hsta u hu)
  have HSMALL := Lib.hid (sta_val hsta)
  obtain ⟨M, hM⟩ : ∃ M : Nat, x.ros.m.toNat = M := ⟨_, rfl⟩
  obtain ⟨T, hT⟩ : ∃ T : Nat, x.ros.s.toNat = T := ⟨_, rfl⟩
  obtain ⟨R, hR⟩ : ∃ R : Nat, x.ros.r.toNat = R := ⟨_, rfl⟩
  obtain ⟨E, hE⟩ : ∃ E : Nat, x.self.toNat = E := ⟨_, rfl⟩
  obtain ⟨C, hC⟩ : ∃ C : Nat, x.ros.cur.toNat = C := ⟨_, rfl⟩
  have HCR : Hid (∀ w' rb, a6 w' rb x.ros → w'.cell? ⟨rb, 0, none⟩ = some (.int .i64 (M : Nat)) ∧ w'.cell? ⟨rb, 1, none⟩ = some (.int .i64 (T : Nat)) ∧ w'.cell? ⟨rb, 2, none⟩ = some (.int .i64 (R : Nat)) ∧ w'.cell? ⟨rb, 19, none⟩ = some (.int .i64 (C : Nat)) ∧ w'.cell? ⟨rb, 20, none⟩ = some (.bool x.ros.gone)) := Lib.hid fun w' rb h => by
    have := h.cells
    rw [show x.ros.m = (M : Int) from by omega, show x.ros.s = (T : Int) from by omega, show x.ros.r = (R : Int) from by omega, show x.ros.cur = (C : Int) from by omega] at this
    exact this
  have HCS : Hid (∀ w' sb, bP w' sb x → w'.cell? ⟨sb, 0, none⟩ = some (.int .u64 x.id) ∧ w'.cell? ⟨sb, 1, none⟩ = some (.int .i64 (E : Nat))) := Lib.hid fun w' sb h => by
    have := h.cells
    rw [show x.self = (E : Int) from by omega] at this
    exact ⟨this.1, this.2.1⟩
  have hM16 : M ≤ 16 := by omega
  have hT64 : T ≤ 64 := by omega
  have hR256 : R ≤ 256 := by omega
  have hE16 : E ≤ 16 := by omega
  have hC64 : C ≤ 64 := by omega
  have HYES := fun h => Lib.hid (full_yes (x := x) h)
  have HNO := fun h => Lib.hid (full_no (x := x) h)
  rw [hM, hT, hR, hE, hC] at HYES HNO
  clear hf q1 q2 hgeo hsta q3 q4 g1 g2 g3 g4 g5 g6 hM hT hR hE hC hx
  have hmf : ∀ (fn : Fn) (first cap : Array Value) (w : World), (Instr.makeFunc fn first cap).run Tryz.prog w = .ok (.func fn first cap) w := fun _ _ _ _ => rfl
  obtain ⟨h1, h2, h3⟩ := boxS_new w x
  have HS := Lib.hid ((h1.past (.cells (vals z44).toArray 138)).past (.cells (vals z44).toArray 138))
  have hb2 := h2.alloc h2.size (.cells (vals z44).toArray 138)
  have HB := Lib.hid (hb2.alloc hb2.size (.cells (vals z44).toArray 138))
  have hr := bH.new (w.alloc (.cells (aX x).toArray 128)) z44 138
  rw [World.size_alloc] at hr
  have HRES := Lib.hid (hr.past (.cells (vals z44).toArray 138))
  have hg := bH.new ((w.alloc (.cells (aX x).toArray 128)).alloc (.cells (vals z44).toArray 138)) z44 138
  rw [World.size_alloc, World.size_alloc] at hg
  have HROW := Lib.hid hg
  clear h1 h2 h3 hb2 hr hg
  go_enter Tryz.func91, Tryz.ntmps91
  go_wp2_with (first | (refine af rfl (exec_boxS rfl rfl) ?_) | (refine af rfl (exec_alloc44 rfl) ?_) | (refine af rfl (exec_all44 rfl rfl) ?_) | fail)
  try simp only [World.size_alloc]
  generalize ((w.alloc (.cells (aX x).toArray 128)).alloc (.cells (vals z44).toArray 138)).alloc (.cells (vals z44).toArray 138) = w1 at *
  refine (onward_any (.slice (some ⟨w.heap.size + 1 + 1, 0, none⟩) 44 44) _ 44 44 rfl w1).mono ?_
  rintro e w2 ⟨p, q, rfl, hc, hp0, hq0, hpq, hp1, hq1, hb⟩
  have hsz : w.heap.size + 1 + 1 < w2.heap.size := by have := aF HROW.out; have := hb.size; omega
  have HS2 := Lib.hid ((HS.out.below (aF HS.out) hb).past (.cells #[onwV p q] 144))
  have HW0 := Lib.hid (layW_start HS.out HB.out HRES.out HROW.out hb hc ⟨hp0, hq0, hpq, hp1, hq1⟩)
  have HR0 : Hid (w.heap.size ≤ w.heap.size + 1) := Lib.hid (Nat.le_succ _)
  clear hb hc hp0 hq0 hpq hp1 hq1 HS HB HRES HROW
  unfold onwV at HS2 HW0 ⊢
  go_upto_region 5 with (first | (refine af rfl (aP (c := x.ros) rfl rfl ?_) ?_; (with_reducible exact HS2.out.rosr)) | (refine af rfl (bK rfl) ?_) | (refine av rfl (exec_fillR rfl rfl rfl) ?_) | fail)
  try simp only [World.size_alloc]
  generalize ((w2.alloc (.cells #[Value.func (.func 107) #[] #[.pointer (some ⟨p, 0, none⟩), .pointer (some ⟨q, 0, none⟩)]] 144)).alloc (.cells (aC x.ros).toArray 32)) = w3 at *
  try simp only [World.size_alloc]
  generalize w2.heap.size = nb at *
  generalize w.heap.size + 1 + 1 = g at *
  generalize w.heap.size + 1 = r at *
  obtain ⟨B, hBdef⟩ : ∃ B, w.heap.size = B := ⟨_, rfl⟩
  have HBD := Lib.hid hBdef
  rw [hBdef] at HW0 HR0 ⊢
  clear hBdef HS2 hsz
  obtain ⟨c0, c1⟩ := HCS.out _ _ HW0.out.sup
  obtain ⟨d0, d1, d2, d3, d4⟩ := HCR.out _ _ HW0.out.ros
  go_wp2_with fail
  refine (lay1 B w w3 x B (nb + 1) r nb p q g _ x.id 8 HW0.out (Nat.le_of_eq HBD.out.symm) (by omega) (by omega) (by simp [ay]) (by simpa using hid)).mono ?_
  rintro e w4 ⟨rfl, hW⟩
  have HW1 := Lib.hid hW
  clear hW c0 c1 d0 d1 d2 d3 d4 HW0
  obtain ⟨c0, c1⟩ := HCS.out _ _ HW1.out.sup
  obtain ⟨d0, d1, d2, d3, d4⟩ := HCR.out _ _ HW1.out.ros
  go_wp2_with fail
  refine (lay1 B w w4 x B (nb + 1) r nb p q g _ M 1 HW1.out (Nat.le_of_eq HBD.out.symm) (by omega) (by omega) (by simp [ay]) (by omega)).mono ?_
  rintro e w5 ⟨rfl, hW⟩
  have HW2 := Lib.hid hW
  clear hW c0 c1 d0 d1 d2 d3 d4 HW1
  obtain ⟨c0, c1⟩ := HCS.out _ _ HW2.out.sup
  obtain ⟨d0, d1, d2, d3, d4⟩ := HCR.out _ _ HW2.out.ros
  go_wp2_with fail
  refine (lay1 B w w5 x B (nb + 1) r nb p q g _ T 2 HW2.out (Nat.le_of_eq HBD.out.symm) (by omega) (by omega) (by simp [ay]) (by omega)).mono ?_
  rintro e w6 ⟨rfl, hW⟩
  have HW3 := Lib.hid hW
  clear hW c0 c1 d0 d1 d2 d3 d4 HW2
  obtain ⟨c0, c1⟩ := HCS.out _ _ HW3.out.sup
  obtain ⟨d0, d1, d2, d3, d4⟩ := HCR.out _ _ HW3.out.ros
  go_wp2_with fail
  refine (lay1 B w w6 x B (nb + 1) r nb p q g _ R 2 HW3.out (Nat.le_of_eq HBD.out.symm) (by omega) (by omega) (by simp [ay]) (by omega)).mono ?_
  rintro e w7 ⟨rfl, hW⟩
  have HW4 := Lib.hid hW
  clear hW c0 c1 d0 d1 d2 d3 d4 HW3
  obtain ⟨c0, c1⟩ := HCS.out _ _ HW4.out.sup
  obtain ⟨d0, d1, d2, d3, d4⟩ := HCR.out _ _ HW4.out.ros
  go_wp2_with fail
  refine (lay1 B w w7 x B (nb + 1) r nb p q g _ E 1 HW4.out (Nat.le_of_eq HBD.out.symm) (by omega) (by omega) (by simp [ay]) (by omega)).mono ?_
  rintro e w8 ⟨rfl, hW⟩
  have HW5 := Lib.hid hW
  clear hW c0 c1 d0 d1 d2 d3 d4 HW4
  have HRD := Lib.hid HW5.out.ros.rd16
  go_wp2_with (first | (refine af rfl (exec_all16 rfl rfl) ?_) | fail)
  refine (bits_ok _ 16 16 _ 2 _ x.ros.st.toList w8 (Lib.hid rfl) HRD.out (Nat.le_refl _) (by omega) (by omega) (by omega) HNAR.out).mono ?_
  rintro e w9 ⟨v, rfl, hv, hb⟩
  rw [show bytesOf 16 2 = 4 from rfl] at hv
  have hvm := hv.made
  obtain ⟨A, c, rfl, _, _, _⟩ := hvm.open_ (ay 8 4 _)
  have HV := Lib.hid hvm
  have HW6 := Lib.hid (HW5.out.keep hb (Nat.le_of_eq HBD.out.symm))
  have HPP := Lib.hid (aF HW5.out.cut.1)
  have n0 := (cell1 HW6.out.nxt).1
  unfold onwV at n0
  clear hv hvm hb HRD HW5
  go_wp2_with fail
  refine (onw1 p q g 0 44 44 _ 4 w9 HW6.out.cut HW6.out.dif.2.2.2.2.2.2.2.2.1 (by omega) (by simp [ay]) (Nat.le_refl _) (by omega)).mono ?_
  rintro e w10 ⟨rfl, hc2, hg2⟩
  clear n0
  have HC2 := Lib.hid hc2
  have HG2 := Lib.hid hg2
  have HROW2 := Lib.hid (bp HW6.out.row hg2 (fun e => HW6.out.dif.2.2.2.2.2.2.2.2.2.1 e.symm))
  have HRD2 : Hid (Rd w10 w10.heap.size A 4 (br 8 4 (val 2 x.ros.st.toList))) := Lib.hid (by
    have := (HV.out.kept1 hg2 (fun j hj => by injection hj with e; have := HPP.out; omega)).rd
    exact this)
  clear hc2 hg2
  obtain ⟨a, ha⟩ : ∃ a, [] ++ br 8 8 x.id ++ br 8 1 M ++ br 8 2 T ++ br 8 2 R ++ br 8 1 E = a := ⟨_, rfl⟩
  have hal : a.length = 14 := by rw [← ha]; simp [ay]
  rw [ha] at HC2 HROW2 HW6
  have HA := Lib.hid ha
  have HAL := Lib.hid hal
  clear ha
  rw [hal] at HC2
  go_wp2_with (first | (refine cN rfl _ _ rfl g 14 4 4 4 c _ A 138 (padL a) (br 8 4 (val 2 x.ros.st.toList)) rfl rfl HROW2.out HRD2.out (Nat.le_refl _) ?_ ?_) | fail)
  · rw [db (by omega)]; omega
  intro w11 hr3 hg3
  rw [← hal, splice_pad (by rw [hal, ay]; omega)] at hr3
  have hdf := HW6.out.dif
  have hc3 : CutAt w11 p q (.slice (some ⟨g, 0, none⟩) 44 44) (a ++ br 8 4 (val 2 x.ros.st.toList)).length := by
    rw [List.length_append, ay, hal]
    exact ⟨bp HC2.out.1 hg3 hdf.2.2.2.2.2.2.2.2.2.1, bp HC2.out.2 hg3 hdf.2.2.2.2.2.2.2.2.2.2⟩
  have HW7 := Lib.hid (HW6.out.cutR hc3 hr3 ⟨w10, HG2.out, hg3⟩ (Nat.le_of_eq HBD.out.symm))
  clear hr3 hg3 hdf hc3 HW6 HC2 HG2 HROW2 HRD2 HV HPP
  obtain ⟨d0, d1, d2, d3, d4⟩ := HCR.out _ _ HW7.out.ros
  go_wp2_with fail
  refine (lay1 B w w11 x B (nb + 1) r nb p q g _ C 2 HW7.out (Nat.le_of_eq HBD.out.symm) (by omega) (by omega) (by rw [List.length_append, ay]; omega) (by omega)).mono ?_
  rintro e w12 ⟨rfl, hW⟩
  have HW8 := Lib.hid hW
  clear hW d0 d1 d2 d3 d4 HW7
  have d4 := (HCR.out _ _ HW8.out.ros).2.2.2.2
  cases hgn : x.ros.gone
  · have HF := HNO hgn
    rw [hgn] at d4
    have HL := Lib.hid HW8.out.row
    rw [← HA.out] at HL
    simp only [List.nil_append] at HL
    rw [HF.out] at HL
    have HLR := Lib.hid (aN HL.out)
    have HTH := Lib.hid (cF (o := 0) (n := 44) HW8.out.res (by rw [aQ]; exact Nat.le_refl _))
    have HBB := Lib.hid HW8.out.bel
    have HFL := Lib.hid (bY x)
    clear HYES HNO HF hgn
    go_wp2_with (first | (refine af rfl (dK HFL.out rfl rfl ?_) ?_; (with_reducible exact HLR.out)) | (refine av rfl (exec_putT (cs := vals (cu x)) ?k1 (vals_one _) rfl rfl rfl ?k2) ?_; (case k1 => rw [aQ, HFL.out]; exact size44); (case k2 => rw [aQ, HFL.out]; exact HTH.out)) | fail)
    refine bodyPost_ret (res_rng (t := 138) (cs := vals (cu x)) rfl _ _ r rfl ?h1 Tryz.underlying138 rfl ?h2) rfl ⟨rfl, ?h3⟩
    case h1 => exact World.rangeAt_setCells_same _ _ _ _ (by rw [aQ, HFL.out]; exact HTH.out)
    case h2 => rw [aQ, HFL.out]; exact size44
    case h3 => rw [HBD.out]; exact below_setCells HBB.out HR0.out _
  · have HF := HYES hgn
    rw [hgn] at d4
    go_wp2_with fail
    refine (lay1 B w w12 x B (nb + 1) r nb p q g _ 1 1 HW8.out (Nat.le_of_eq HBD.out.symm) (by omega) (by omega) (by rw [List.length_append, List.length_append, ay, ay]; have := HAL.out; omega) (by omega)).mono ?_
    rintro e w13 ⟨rfl, hW⟩
    have HW9 := Lib.hid hW
    clear hW d4 HW8
    have HL := Lib.hid HW9.out.row
    rw [← HA.out] at HL
    simp only [List.nil_append] at HL
    rw [HF.out] at HL
    have HLR := Lib.hid (aN HL.out)
    have HTH := Lib.hid (cF (o := 0) (n := 44) HW9.out.res (by rw [aQ]; exact Nat.le_refl _))
    have HBB := Lib.hid HW9.out.bel
    have HFL := Lib.hid (bY x)
    clear HYES HNO HF hgn
    go_wp2_with (first | (refine af rfl (dK HFL.out rfl rfl ?_) ?_; (with_reducible exact HLR.out)) | (refine av rfl (exec_putT (cs := vals (cu x)) ?k1 (vals_one _) rfl rfl rfl ?k2) ?_; (case k1 => rw [aQ, HFL.out]; exact size44); (case k2 => rw [aQ, HFL.out]; exact HTH.out)) | fail)
    refine bodyPost_ret (res_rng (t := 138) (cs := vals (cu x)) rfl _ _ r rfl ?h1 Tryz.underlying138 rfl ?h2) rfl ⟨rfl, ?h3⟩
    case h1 => exact World.rangeAt_setCells_same _ _ _ _ (by rw [aQ, HFL.out]; exact HTH.out)
    case h2 => rw [aQ, HFL.out]; exact size44
    case h3 => rw [HBD.out]; exact below_setCells HBB.out HR0.out _
theorem set_tail (y : Ros) (j : Nat) (v : Value) : (vals y.st.toList ++ [Value.int .i64 y.cur, Value.bool y.gone]).set (16 + j) v = vals y.st.toList ++ [Value.int .i64 y.cur, Value.bool y.gone].set j v := by
  rw [List.set_append_right _ _ (by simp [aQ])]
  congr 2
  simp [aQ]
theorem celS_mk (id : Nat) (self m s r : Int) (st : Vector UInt8 16) (cur : Int) (gone : Bool) : aX ⟨id, self, ⟨m, s, r, st, cur, gone⟩⟩ = Value.int .u64 id :: Value.int .i64 self :: Value.int .i64 m :: Value.int .i64 s :: Value.int .i64 r :: (vals st.toList ++ [Value.int .i64 cur, Value.bool gone]) := rfl
section
variable (y : Sup)
theorem setS_id (n : Nat) : (aX y).set 0 (.int .u64 n) = aX { y with id := n } := rfl
theorem setS_self (n : Int) : (aX y).set 1 (.int .i64 n) = aX { y with self := n } := rfl
theorem setS_m (n : Int) : (aX y).set 2 (.int .i64 n) = aX { y with ros := { y.ros with m := n } } := rfl
theorem setS_s (n : Int) : (aX y).set 3 (.int .i64 n) = aX { y with ros := { y.ros with s := n } } := rfl
theorem setS_r (n : Int) : (aX y).set 4 (.int .i64 n) = aX { y with ros := { y.ros with r := n } } := rfl
theorem setS_cur (n : Int) : (aX y).set 21 (.int .i64 n) = aX { y with ros := { y.ros with cur := n } } := by
  show Value.int .u64 y.id :: Value.int .i64 y.self :: Value.int .i64 y.ros.m :: Value.int .i64 y.ros.s :: Value.int .i64 y.ros.r :: (vals y.ros.st.toList ++ [Value.int .i64 y.ros.cur, Value.bool y.ros.gone]).set (16 + 0) (.int .i64 n) = _
  rw [set_tail]
  rfl
theorem setS_gone (b : Bool) : (aX y).set 22 (.bool b) = aX { y with ros := { y.ros with gone := b } } := by
  show Value.int .u64 y.id :: Value.int .i64 y.self :: Value.int .i64 y.ros.m :: Value.int .i64 y.ros.s :: Value.int .i64 y.ros.r :: (vals y.ros.st.toList ++ [Value.int .i64 y.ros.cur, Value.bool y.ros.gone]).set (16 + 1) (.bool b) = _
  rw [set_tail]
  rfl
theorem splS_st {l : List UInt8} (h : l.length = 16) : splice (aX y) 5 (vals l) = aX { y with ros := { y.ros with st := ofSt l } } := by
  obtain ⟨id, self, m, s, r, st, cur, gone⟩ := y
  show splice (aX ⟨id, self, ⟨m, s, r, st, cur, gone⟩⟩) 5 (vals l) = aX ⟨id, self, ⟨m, s, r, ofSt l, cur, gone⟩⟩
  have h2 : (vals st.toList).length = 16 := by simp [aQ]
  rw [celS_mk, celS_mk, toList_ofSt h]
  generalize vals st.toList = z at *
  unfold splice
  rw [aQ, h, show 5 + 16 = 16 + 1 + 1 + 1 + 1 + 1 from rfl]
  simp only [List.drop_succ_cons, List.take_succ_cons, List.take_zero]
  rw [List.drop_append_of_le_length (by omega), List.drop_of_length_le (by omega)]
  rfl
end
theorem bP.set {w : World} {s j : Nat} {y y' : Sup} {v : Value} (h : bP w s y) (e : (aX y).set j v = aX y') : bP (w.setCell ⟨s, j, none⟩ v) s y' := by
  have := heap_setCell_same w s j (aX y).toArray 128 v h
  rw [List.setIfInBounds_toArray, e] at this
  exact this
theorem bP.free {w : World} {s : Nat} {y : Sup} (h : bP w s y) (j : Nat) : w.frozen? ⟨s, j, none⟩ = false := frozen_of_row w s j _ _ h
theorem wpList_copyC {w : World} {ops : Array Oper} {rest : List Oper} {o : Oper} {a : Act} {Q : Exit → Act → World → Prop} (hgd : o.guard = none) (d s : Operand)
    (ho : o.op = .call { callee := .builtin .copy, args := #[d, s], argTypes := #[141, 141] }) (g off n c c' N : Nat) (A : Option Addr) (t : TypeId) (cs : List Value) (x : List UInt8)
    (hd : a.eval d = .slice (some ⟨g, off, none⟩) n c) (hs : a.eval s = .slice A n c') (hS : w.heap[g]? = some (.cells cs.toArray t (0, 0))) (hr : Rd w N A n x) (hn : 0 < n) (hfit : off + n ≤ cs.length)
    (h : ∀ w', w'.heap[g]? = some (.cells (splice cs off (vals x)).toArray t (0, 0)) → w.grownBy w' (some g) → wpList Tryz.prog ops Q rest (a.put o.dst (goInt n)) w') : wpList Tryz.prog ops Q (o :: rest) a w := by
  have hx := hr.1
  obtain ⟨ad, rfl⟩ : ∃ ad, A = some ad := by
    obtain ⟨b, off, e, _⟩ := hr.2 0 hn
    exact ⟨_, e⟩
  have hcl : (vals x).length = n := by rw [aQ, hx]
  refine wpList_copy_own hgd d s _ _ ho 5 Tryz.underlying141 (by kernel_rfl) g off n c ad n c' hd hs _ t hS (vals x) (by rw [hcl]; exact (Nat.min_self n).symm) (fun j v hj => ?_) (by simp [hcl]; omega) (vals_one x) ?_
  · have hlt : j < n := by have := (List.getElem?_eq_some_iff.1 hj).1; omega
    obtain ⟨b, o2, e, _, hc⟩ := hr.2 j hlt
    injection e with e
    subst e
    rw [Addr.add_mid, hc, ← hj, vals_at (by omega)]
  · have hrow := setRow_heap w g cs.toArray (cs.toArray.toList.take off ++ (vals x ++ cs.toArray.toList.drop (off + (vals x).length))).toArray t (0, 0) hS
    have e : cs.toArray.toList.take off ++ (vals x ++ cs.toArray.toList.drop (off + (vals x).length)) = splice cs off (vals x) := rfl
    rw [hcl]
    rw [hcl] at hrow e
    refine h _ ?_ ⟨rfl, rfl, rfl, by simp [World.setRow], fun k hk hne => setRow_other w g k _ (fun e => hne (by rw [e]))⟩
    rw [e] at hrow ⊢
    exact hrow
structure TelW (B : Nat) (w0 w : World) (g : Nat) (l : List UInt8) (s r nb p q k : Nat) (y : Sup) : Prop where
  row : bH w g 5 l
  sup : bP w s y
  res : bP w r bz
  nxt : w.heap[nb]? = some (.cells #[onwV p q] 144 (0, 0))
  cut : CutAt w p q (.slice (some ⟨g, 0, none⟩) 44 44) k
  bel : Below B w0 w
  p0 : B ≤ p
  s0 : B ≤ s
  dif : g ≠ p ∧ s ≠ p ∧ r ≠ p ∧ nb ≠ p ∧ p ≠ q ∧ g ≠ s ∧ r ≠ s ∧ nb ≠ s ∧ p ≠ s ∧ q ≠ s
section
variable {B : Nat} {w0 w w' : World} {g s r nb p q k k' : Nat} {l : List UInt8} {y y' : Sup}
theorem TelW.keep (h : TelW B w0 w g l s r nb p q k y) (hb : Below w.heap.size w w') (hB : B ≤ w0.heap.size) : TelW B w0 w' g l s r nb p q k y :=
  ⟨am h.row hb, am h.sup hb, am h.res hb, am h.nxt hb, ⟨am h.cut.1 hb, am h.cut.2 hb⟩, h.bel.trans (hb.mono (Nat.le_trans hB h.bel.size)), h.p0, h.s0, h.dif⟩
theorem TelW.step (h : TelW B w0 w g l s r nb p q k y) (hc : CutAt w' p q (.slice (some ⟨g, 0, none⟩) 44 44) k') (hg : w.grownBy w' (some p)) (hB : B ≤ w0.heap.size) : TelW B w0 w' g l s r nb p q k' y := by
  obtain ⟨d1, d2, d3, d4, d5, d6, d7, d8, d9, d10⟩ := h.dif
  exact ⟨bp h.row hg d1, bp h.sup hg d2, bp h.res hg d3, bp h.nxt hg d4, hc, h.bel.grown hg (Nat.le_trans hB h.bel.size) (fun k hk => by injection hk with e; have := h.p0; omega), h.p0, h.s0, h.dif⟩
theorem TelW.put (h : TelW B w0 w g l s r nb p q k y) (hs : bP w' s y') (hg : w.grownBy w' (some s)) (hB : B ≤ w0.heap.size) : TelW B w0 w' g l s r nb p q k y' := by
  obtain ⟨d1, d2, d3, d4, d5, d6, d7, d8, d9, d10⟩ := h.dif
  exact ⟨bp h.row hg d6, hs, bp h.res hg d7, bp h.nxt hg d8, ⟨bp h.cut.1 hg d9, bp h.cut.2 hg d10⟩, h.bel.grown hg (Nat.le_trans hB h.bel.size) (fun k hk => by injection hk with e; have := h.s0; omega), h.p0, h.s0, h.dif⟩
theorem TelW.set (h : TelW B w0 w g l s r nb p q k y) (j : Nat) (v : Value) (e : (aX y).set j v = aX y') (hB : B ≤ w0.heap.size) : TelW B w0 (w.setCell ⟨s, j, none⟩ v) g l s r nb p q k y' :=
  h.put (h.sup.set e) (grown_set w s j v) hB
end
set_option maxHeartbeats 1000000 in
theorem tell1 (B : Nat) (w0 w : World) (g : Nat) (l : List UInt8) (s r nb p q k n : Nat) (y : Sup) (h : TelW B w0 w g l s r nb p q k y) (hB : B ≤ w0.heap.size) (hl : l.length = 44) (h1 : 1 ≤ n) (h2 : n ≤ 8) (hk : k + n ≤ 44) :
    Calls Tryz.prog 120 #[.int .i64 n, .pointer (some ⟨nb, 0, none⟩)] w fun e w' => e = .returned (.int .u64 (val 8 (piece l k n) : Nat)) ∧ TelW B w0 w' g l s r nb p q (k + n) y := by
  have HH := Lib.hid h
  have HL := Lib.hid hl
  have HP := Lib.hid (piece_all (b := piece l k n) (n := n) (cq (by omega)))
  have c0 := (cell1 h.nxt).1
  unfold onwV at c0
  clear h hl
  go_enter Tryz.func120, Tryz.ntmps120
  go_wp2_with fail
  refine (onw1 p q g 0 44 44 k n w HH.out.cut HH.out.dif.2.2.2.2.1 h1 hk (Nat.le_refl _) (by omega)).mono ?_
  rintro e w1 ⟨rfl, hc, hg⟩
  have H1 := Lib.hid (HH.out.step hc hg hB)
  clear hc hg c0 HH
  have HRD := Lib.hid (H1.out.row.rd (p := k) (k := n) (by rw [HL.out]; omega))
  go_wp2_with fail
  refine (get_ok _ n n _ (piece l k n) 0 n w1 HRD.out (by unfold maxLen; omega) h1 h2 (by omega)).mono ?_
  rintro e w2 ⟨rfl, rfl⟩
  rw [HP.out]
  obtain ⟨v, hv⟩ : ∃ v, val 8 (piece l k n) = v := ⟨_, rfl⟩
  rw [hv]
  have HV := Lib.hid hv
  clear hv
  go_wp2_with fail
  go_ret
  exact ⟨by rw [HV.out]; rfl, H1.out⟩
def Bod (w : World) (B : Nat) (v : Value) (l : List UInt8) : Prop := (v = .slice none 0 0 ∧ l = []) ∨ ∃ g, v = .slice (some ⟨g, 0, none⟩) l.length l.length ∧ B ≤ g ∧ bH w g 5 l ∧ l.length ≤ maxLen
structure GetW (B : Nat) (w w' : World) (g p : Nat) (l : List UInt8) : Prop where
  row : bH w' g 38 l
  par : PartsAt w' p g
  bel : Below B w w'
  tab : Tab w'
theorem GetW.below {B : Nat} {w w1 w2 : World} {g p : Nat} {l : List UInt8} (h : GetW B w w1 g p l) (hb : Below w1.heap.size w1 w2) (hB : B ≤ w.heap.size) : GetW B w w2 g p l :=
  ⟨h.row.below h.row.lt hb, h.par.below (aF h.par) hb, h.bel.trans (hb.mono (Nat.le_trans hB h.bel.size)), h.tab.below hb⟩
theorem getW_start (w w1 : World) (b : Blk) (hbA : Below w.heap.size w (w.alloc (.cells (cel b).toArray 38))) (hT : Tab (w.alloc (.cells (cel b).toArray 38))) (hb : Below (w.alloc (.cells (cel b).toArray 38)).heap.size (w.alloc (.cells (cel b).toArray 38)) w1) :
    GetW w.heap.size w (w1.alloc (.cells (dh w.heap.size) 151)) w.heap.size w1.heap.size b.toList := by
  have hs := hb.size
  simp only [World.size_alloc] at hs
  have hr : bH w1 w.heap.size 38 b.toList := (bH.blk w b 38).below (by simp only [World.size_alloc]; omega) hb
  have hbel : Below w.heap.size w w1 := hbA.trans (hb.mono (by simp only [World.size_alloc]; omega))
  exact ⟨hr.past _, heap_alloc_new w1 _, hbel.alloc (by omega) _, (hT.below hb).below ((Below.refl _ _).alloc (Nat.le_refl _) _)⟩
theorem told_above {W w' : World} {g : Nat} {t : TypeId} {l : List UInt8} (h : bH W g t l) (hb : Below W.heap.size W w') (off k : Nat) (hk : off + k ≤ l.length) (h1 : 1 ≤ k) (h8 : k ≤ 8) :
    Calls Tryz.prog 119 #[.slice (some ⟨g, off, none⟩) k k] w' fun e w'' => e = .returned (.int .u64 (val 8 (piece l off k) : Nat)) ∧ Below w'.heap.size w' w'' :=
  (dp _ k k _ _ w' ((h.below h.lt hb).rd hk) h1 h8).mono fun e w'' ⟨he, hw⟩ => ⟨he, by subst hw; exact Below.refl _ _⟩
theorem of_above {W w' : World} {g : Nat} {t : TypeId} {l : List UInt8} (h : bH W g t l) (T : Tab W) (hb : Below W.heap.size W w') (off k : Nat) (hk : off + k ≤ l.length) (hm : k ≤ maxLen) :
    Calls Tryz.prog 103 #[.slice (some ⟨g, off, none⟩) k k] w' fun e w'' => e = .returned (.int .u32 (more 0 (piece l off k) : Nat)) ∧ Below w'.heap.size w' w'' :=
  (of_any _ k k _ _ w' (T.below hb) ((h.below h.lt hb).rd hk) hm).mono fun e w'' ⟨he, hw⟩ => ⟨he, by subst hw; exact Below.refl _ _⟩
theorem exec_neU {ρ : Operand → Value} {o : Oper} {x y : Operand} {w : World} {t r : TypeId} {a b : Nat} (c : Bool) (ho : o.op = .binOp .neq t x y r) (hx : ρ x = .int .u64 (a : Int)) (hy : ρ y = .int .u64 (b : Int)) (h : ((a : Int) != (b : Int)) = c) : (execOp ρ o).run Tryz.prog w = .ok (.value (.bool c)) w := aE c ho hx hy h
theorem splice_all (l : List UInt8) (n : Nat) (h : l.length = n) : splice (List.replicate n 0) 0 l = l := by
  subst h
  simp [splice]
def nil44 : List UInt8 := List.replicate 44 0
theorem splice_44 {l : List UInt8} (h : l.length = 44) : splice nil44 0 l = l := splice_all l 44 h
def row44 : Array Value := (vals (List.replicate 44 0)).toArray
theorem make44 (w : World) : (Instr.makeSlice 141 (.int .i64 44) (.int .i64 44)).run Tryz.prog w = .ok (.slice (some ⟨w.heap.size, 0, none⟩) 44 44) (w.alloc (.cells row44 5)) := by kernel_rfl
set_option maxHeartbeats 4000000 in
theorem pget_zero (b : Blk) (B : Nat) (w : World) (HB : Hid (B = w.heap.size)) (T : Tab w) (h0 : numO b.toList = 0) :
    Calls Tryz.prog 115 #[blk b] w fun e w' => ∃ v, e = .returned (.tuple #[.int .u64 (getN b.toList : Nat), v, .int .i64 (getE b.toList : Nat)]) ∧ Bod w' B v (getB b.toList) ∧ Below B w w' := by
  have hA := bH.blk w b 38
  have hbA := (Below.refl w.heap.size w).alloc (Nat.le_refl _) (.cells (cel b).toArray 38)
  have HTA := Lib.hid (T.below hbA)
  have HA := Lib.hid hA
  have HBA := Lib.hid hbA
  have HL := Lib.hid (di b)
  have hE := getE_form (.inl h0)
  have HE := Lib.hid hE
  have HN := Lib.hid (getN_no (l := b.toList) (by omega))
  have HBB := Lib.hid (getB_no (l := b.toList) (by omega))
  have HX : Hid (val 8 (piece b.toList 0 8) = 0) := Lib.hid h0
  clear hE h0
  clear hA hbA T
  go_enter Tryz.func115, Tryz.ntmps115
  go_wp2_with (first | (refine ah rfl (bJ rfl rfl) ?_) | fail)
  refine (cut_any w.heap.size _).mono ?_
  rintro e w1 ⟨rfl, hb1⟩
  have HG := Lib.hid (getW_start w w1 b HBA.out HTA.out hb1)
  clear HTA HA HBA hb1
  obtain ⟨g, hg⟩ : ∃ g, w.heap.size = g := ⟨_, rfl⟩
  have HGE := Lib.hid (Nat.le_of_eq hg.symm)
  rw [hg] at HG HB
  rw [hg]
  clear hg
  obtain ⟨c0, c1, c2, c3, c4⟩ := HG.out.par.cells
  go_wp2_with (first | (refine aZ rfl (dH g rfl rfl rfl) ?_) | fail)
  clear c0 c1 c2 c3 c4
  generalize w1.heap.size = p at *
  generalize w1.alloc (.cells (dh g) 151) = w2 at *
  obtain ⟨c0, c1, c2, c3, c4⟩ := HG.out.par.cells
  have hr0 := HG.out.row.rd (p := 0) (k := 8) (by rw [HL.out]; omega)
  refine (dp _ 8 8 _ _ _ hr0 (by omega) (by omega)).mono ?_
  rintro e w3 ⟨rfl, rfl⟩
  clear hr0
  rw [HX.out]
  go_wp2_with fail
  refine bodyPost_ret (v := .tuple #[.int .u64 0, .slice none 0 0, .int .i64 5]) (by simp [results, Tryz.results115, go_sem]) rfl ⟨_, by rw [HE.out, HN.out]; rfl, .inl ⟨rfl, HBB.out⟩, by rw [HB.out]; exact HG.out.bel⟩
set_option maxHeartbeats 4000000 in
theorem pget_unlike (b : Blk) (B : Nat) (w : World) (HB : Hid (B = w.heap.size)) (T : Tab w) (h0 : numO b.toList ≠ 0) (h1 : numO b.toList ≠ agO b.toList) :
    Calls Tryz.prog 115 #[blk b] w fun e w' => ∃ v, e = .returned (.tuple #[.int .u64 (getN b.toList : Nat), v, .int .i64 (getE b.toList : Nat)]) ∧ Bod w' B v (getB b.toList) ∧ Below B w w' := by
  have hA := bH.blk w b 38
  have hbA := (Below.refl w.heap.size w).alloc (Nat.le_refl _) (.cells (cel b).toArray 38)
  have HTA := Lib.hid (T.below hbA)
  have HA := Lib.hid hA
  have HBA := Lib.hid hbA
  have HL := Lib.hid (di b)
  have hE := getE_form (.inr h1)
  have HE := Lib.hid hE
  have HN := Lib.hid (getN_no (l := b.toList) (by omega))
  have HBB := Lib.hid (getB_no (l := b.toList) (by omega))
  obtain ⟨x, hx⟩ : ∃ x, numO b.toList = x := ⟨_, rfl⟩
  obtain ⟨y, hy⟩ : ∃ y, agO b.toList = y := ⟨_, rfl⟩
  rw [hx] at h0 h1
  rw [hy] at h1
  have hz : ((x : Int) == 0) = false := by simp; omega
  have hn : ((x : Int) != (y : Int)) = true := by simp; omega
  have HX : Hid (val 8 (piece b.toList 0 8) = x) := Lib.hid hx
  have HY : Hid (val 8 (piece b.toList 56 8) = y) := Lib.hid hy
  clear hE h0 h1 hx hy
  clear hA hbA T
  go_enter Tryz.func115, Tryz.ntmps115
  go_wp2_with (first | (refine ah rfl (bJ rfl rfl) ?_) | fail)
  refine (cut_any w.heap.size _).mono ?_
  rintro e w1 ⟨rfl, hb1⟩
  have HG := Lib.hid (getW_start w w1 b HBA.out HTA.out hb1)
  clear HTA HA HBA hb1
  obtain ⟨g, hg⟩ : ∃ g, w.heap.size = g := ⟨_, rfl⟩
  have HGE := Lib.hid (Nat.le_of_eq hg.symm)
  rw [hg] at HG HB
  rw [hg]
  clear hg
  obtain ⟨c0, c1, c2, c3, c4⟩ := HG.out.par.cells
  go_wp2_with (first | (refine aZ rfl (dH g rfl rfl rfl) ?_) | fail)
  clear c0 c1 c2 c3 c4
  generalize w1.heap.size = p at *
  generalize w1.alloc (.cells (dh g) 151) = w2 at *
  obtain ⟨c0, c1, c2, c3, c4⟩ := HG.out.par.cells
  have hr0 := HG.out.row.rd (p := 0) (k := 8) (by rw [HL.out]; omega)
  refine (dp _ 8 8 _ _ _ hr0 (by omega) (by omega)).mono ?_
  rintro e w3 ⟨rfl, rfl⟩
  clear hr0
  rw [HX.out]
  go_wp2_with fail
  have hr3 := HG.out.row.rd (p := 56) (k := 8) (by rw [HL.out]; omega)
  refine (dp _ 8 8 _ _ _ hr3 (by omega) (by omega)).mono ?_
  rintro e w3 ⟨rfl, rfl⟩
  clear hr3
  rw [HY.out]
  go_wp2_with fail
  refine bodyPost_ret (v := .tuple #[.int .u64 0, .slice none 0 0, .int .i64 5]) (by simp [results, Tryz.results115, go_sem]) rfl ⟨_, by rw [HE.out, HN.out]; rfl, .inl ⟨rfl, HBB.out⟩, by rw [HB.out]; exact HG.out.bel⟩
set_option maxHeartbeats 4000000 in
theorem pget_sum (b : Blk) (B : Nat) (w : World) (HB : Hid (B = w.heap.size)) (T : Tab w) (h0 : numO b.toList ≠ 0) (h1 : numO b.toList = agO b.toList) (h2 : sumO b.toList ≠ crcO b.toList) :
    Calls Tryz.prog 115 #[blk b] w fun e w' => ∃ v, e = .returned (.tuple #[.int .u64 (getN b.toList : Nat), v, .int .i64 (getE b.toList : Nat)]) ∧ Bod w' B v (getB b.toList) ∧ Below B w w' := by
  have hA := bH.blk w b 38
  have hbA := (Below.refl w.heap.size w).alloc (Nat.le_refl _) (.cells (cel b).toArray 38)
  have HTA := Lib.hid (T.below hbA)
  have HA := Lib.hid hA
  have HBA := Lib.hid hbA
  have HL := Lib.hid (di b)
  have hE := getE_sum h0 h1 h2
  have HE := Lib.hid hE
  have HN := Lib.hid (getN_no (l := b.toList) (by omega))
  have HBB := Lib.hid (getB_no (l := b.toList) (by omega))
  obtain ⟨x, hx⟩ : ∃ x, numO b.toList = x := ⟨_, rfl⟩
  rw [hx] at h0
  have HX : Hid (val 8 (piece b.toList 0 8) = x) := Lib.hid hx
  have HY : Hid (val 8 (piece b.toList 56 8) = x) := Lib.hid (by rw [← hx]; exact h1.symm)
  have HS4 := Lib.hid (sumO_lt (di b))
  have HCL := Lib.hid (crcO_lt b.toList)
  have hz : ((x : Int) == 0) = false := by simp; omega
  have hn : ((x : Int) != (x : Int)) = false := by simp
  have hc : ((sumO b.toList : Nat) : Int) != ((crcO b.toList : Nat) : Int) := by simp; omega
  clear hE h0 h1 hx h2
  clear hA hbA T
  go_enter Tryz.func115, Tryz.ntmps115
  go_wp2_with (first | (refine ah rfl (bJ rfl rfl) ?_) | fail)
  refine (cut_any w.heap.size _).mono ?_
  rintro e w1 ⟨rfl, hb1⟩
  have HG := Lib.hid (getW_start w w1 b HBA.out HTA.out hb1)
  clear HTA HA HBA hb1
  obtain ⟨g, hg⟩ : ∃ g, w.heap.size = g := ⟨_, rfl⟩
  have HGE := Lib.hid (Nat.le_of_eq hg.symm)
  rw [hg] at HG HB
  rw [hg]
  clear hg
  obtain ⟨c0, c1, c2, c3, c4⟩ := HG.out.par.cells
  go_wp2_with (first | (refine aZ rfl (dH g rfl rfl rfl) ?_) | fail)
  clear c0 c1 c2 c3 c4
  generalize w1.heap.size = p at *
  generalize w1.alloc (.cells (dh g) 151) = w2 at *
  obtain ⟨c0, c1, c2, c3, c4⟩ := HG.out.par.cells
  have hr0 := HG.out.row.rd (p := 0) (k := 8) (by rw [HL.out]; omega)
  refine (dp _ 8 8 _ _ _ hr0 (by omega) (by omega)).mono ?_
  rintro e w3 ⟨rfl, rfl⟩
  clear hr0
  rw [HX.out]
  go_wp2_with fail
  have hr3 := HG.out.row.rd (p := 56) (k := 8) (by rw [HL.out]; omega)
  refine (dp _ 8 8 _ _ _ hr3 (by omega) (by omega)).mono ?_
  rintro e w3 ⟨rfl, rfl⟩
  clear hr3
  rw [HY.out]
  go_wp2_with fail
  clear c0 c1 c2 c3 c4
  have hle : w2.heap.size ≤ w2.heap.size := Nat.le_refl _
  refine aA (B := w2.heap.size) (by kernel_rfl) ?_
  refine aq rfl (fun w' hw => al rfl (ev rfl) faP2) ?_
  simp only [Act.put, aa, ac, ae]
  refine aq rfl (fun w' hw => au rfl (ev rfl) (ldS (HG.out.par.below (aF HG.out.par) hw).cells.2.2.1)) ?_
  simp only [Act.put, aa, ac, ae]
  refine bi rfl (fun _ => ap Tryz.call119 rfl (evc (ev rfl) evn)) (aY hle fun w' hw => told_above HG.out.row hw 52 4 (by rw [HL.out]; omega) (by omega) (by omega)) ?_
  simp only [Act.put, aa, ac, ae]
  refine aq rfl (fun w' hw => al rfl (ev rfl) faP4) ?_
  simp only [Act.put, aa, ac, ae]
  refine aq rfl (fun w' hw => au rfl (ev rfl) (ldS (HG.out.par.below (aF HG.out.par) hw).cells.2.2.2.2)) ?_
  simp only [Act.put, aa, ac, ae]
  refine bi rfl (fun _ => ap Tryz.call103 rfl (evc (ev rfl) evn)) (aY hle fun w' hw => of_above HG.out.row HG.out.tab hw 0 52 (by rw [HL.out]; omega) (by unfold maxLen; omega)) ?_
  simp only [Act.put, aa, ac, ae]
  refine aq rfl (fun w' hw => exec_cv32 rfl (ev rfl) HCL.out) ?_
  simp only [Act.put, aa, ac, ae]
  refine aq rfl (fun w' hw => exec_neU true rfl (ev rfl) (ev rfl) hc) ?_
  simp only [Act.put, aa, ac, ae]
  refine wpQuiet_nil ?_
  intro w3 hb3
  have HG3 := Lib.hid (HG.out.below hb3 HGE.out)
  clear hb3 HG
  go_wp2_with fail
  refine bodyPost_ret (v := .tuple #[.int .u64 0, .slice none 0 0, .int .i64 6]) (by simp [results, Tryz.results115, go_sem]) rfl ⟨_, by rw [HE.out, HN.out]; rfl, .inl ⟨rfl, HBB.out⟩, by rw [HB.out]; exact HG3.out.bel⟩
set_option maxHeartbeats 4000000 in
theorem pget_ok (b : Blk) (B : Nat) (w : World) (HB : Hid (B = w.heap.size)) (T : Tab w) (h0 : numO b.toList ≠ 0) (h1 : numO b.toList = agO b.toList) (h2 : sumO b.toList = crcO b.toList) :
    Calls Tryz.prog 115 #[blk b] w fun e w' => ∃ v, e = .returned (.tuple #[.int .u64 (getN b.toList : Nat), v, .int .i64 (getE b.toList : Nat)]) ∧ Bod w' B v (getB b.toList) ∧ Below B w w' := by
  have hA := bH.blk w b 38
  have hbA := (Below.refl w.heap.size w).alloc (Nat.le_refl _) (.cells (cel b).toArray 38)
  have HTA := Lib.hid (T.below hbA)
  have HA := Lib.hid hA
  have HBA := Lib.hid hbA
  have HL := Lib.hid (di b)
  have hE := getE_ok h0 h1 h2
  have HE := Lib.hid hE
  have HN := Lib.hid (getN_of hE)
  have HBB := Lib.hid (getB_of hE)
  obtain ⟨x, hx⟩ : ∃ x, numO b.toList = x := ⟨_, rfl⟩
  rw [hx] at h0
  have HX : Hid (val 8 (piece b.toList 0 8) = x) := Lib.hid hx
  have HY : Hid (val 8 (piece b.toList 56 8) = x) := Lib.hid (by rw [← hx]; exact h1.symm)
  have HS4 := Lib.hid (sumO_lt (di b))
  have HCL := Lib.hid (crcO_lt b.toList)
  have hz : ((x : Int) == 0) = false := by simp; omega
  have hn : ((x : Int) != (x : Int)) = false := by simp
  have hc : (((sumO b.toList : Nat) : Int) != ((crcO b.toList : Nat) : Int)) = false := by rw [h2]; simp
  have HXX := Lib.hid hx
  clear hE h0 h1 hx h2
  clear hA hbA T
  go_enter Tryz.func115, Tryz.ntmps115
  go_wp2_with (first | (refine ah rfl (bJ rfl rfl) ?_) | fail)
  refine (cut_any w.heap.size _).mono ?_
  rintro e w1 ⟨rfl, hb1⟩
  have HG := Lib.hid (getW_start w w1 b HBA.out HTA.out hb1)
  clear HTA HA HBA hb1
  obtain ⟨g, hg⟩ : ∃ g, w.heap.size = g := ⟨_, rfl⟩
  have HGE := Lib.hid (Nat.le_of_eq hg.symm)
  rw [hg] at HG HB
  rw [hg]
  clear hg
  obtain ⟨c0, c1, c2, c3, c4⟩ := HG.out.par.cells
  go_wp2_with (first | (refine aZ rfl (dH g rfl rfl rfl) ?_) | fail)
  clear c0 c1 c2 c3 c4
  generalize w1.heap.size = p at *
  generalize w1.alloc (.cells (dh g) 151) = w2 at *
  obtain ⟨c0, c1, c2, c3, c4⟩ := HG.out.par.cells
  have hr0 := HG.out.row.rd (p := 0) (k := 8) (by rw [HL.out]; omega)
  refine (dp _ 8 8 _ _ _ hr0 (by omega) (by omega)).mono ?_
  rintro e w3 ⟨rfl, rfl⟩
  clear hr0
  rw [HX.out]
  go_wp2_with fail
  have hr3 := HG.out.row.rd (p := 56) (k := 8) (by rw [HL.out]; omega)
  refine (dp _ 8 8 _ _ _ hr3 (by omega) (by omega)).mono ?_
  rintro e w3 ⟨rfl, rfl⟩
  clear hr3
  rw [HY.out]
  go_wp2_with fail
  clear c0 c1 c2 c3 c4
  have hle : w2.heap.size ≤ w2.heap.size := Nat.le_refl _
  refine aA (B := w2.heap.size) (by kernel_rfl) ?_
  refine aq rfl (fun w' hw => al rfl (ev rfl) faP2) ?_
  simp only [Act.put, aa, ac, ae]
  refine aq rfl (fun w' hw => au rfl (ev rfl) (ldS (HG.out.par.below (aF HG.out.par) hw).cells.2.2.1)) ?_
  simp only [Act.put, aa, ac, ae]
  refine bi rfl (fun _ => ap Tryz.call119 rfl (evc (ev rfl) evn)) (aY hle fun w' hw => told_above HG.out.row hw 52 4 (by rw [HL.out]; omega) (by omega) (by omega)) ?_
  simp only [Act.put, aa, ac, ae]
  refine aq rfl (fun w' hw => al rfl (ev rfl) faP4) ?_
  simp only [Act.put, aa, ac, ae]
  refine aq rfl (fun w' hw => au rfl (ev rfl) (ldS (HG.out.par.below (aF HG.out.par) hw).cells.2.2.2.2)) ?_
  simp only [Act.put, aa, ac, ae]
  refine bi rfl (fun _ => ap Tryz.call103 rfl (evc (ev rfl) evn)) (aY hle fun w' hw => of_above HG.out.row HG.out.tab hw 0 52 (by rw [HL.out]; omega) (by unfold maxLen; omega)) ?_
  simp only [Act.put, aa, ac, ae]
  refine aq rfl (fun w' hw => exec_cv32 rfl (ev rfl) HCL.out) ?_
  simp only [Act.put, aa, ac, ae]
  refine aq rfl (fun w' hw => exec_neU false rfl (ev rfl) (ev rfl) hc) ?_
  simp only [Act.put, aa, ac, ae]
  refine wpQuiet_nil ?_
  intro w3 hb3
  have HG3 := Lib.hid (HG.out.below hb3 HGE.out)
  clear hb3 HG
  have HG4 := Lib.hid (HG3.out.below ((Below.refl w3.heap.size w3).alloc (Nat.le_refl _) (.cells row44 5)) HGE.out)
  obtain ⟨c0, c1, c2, c3, c4⟩ := HG4.out.par.cells
  have HNEW : Hid (bH (w3.alloc (.cells row44 5)) w3.heap.size 5 nil44) := Lib.hid (bH.new w3 nil44 _)
  have HSRC := Lib.hid (HG4.out.row.rd (p := 8) (k := 44) (by rw [HL.out]; omega))
  have HPL : Hid ((piece b.toList 8 44).length = 44) := Lib.hid (cq (by rw [HL.out]; omega))
  have HW3 := Lib.hid (Nat.le_trans HGE.out HG3.out.bel.size)
  clear HG3
  obtain ⟨q, hq⟩ : ∃ q, w3.heap.size = q := ⟨_, rfl⟩
  rw [hq] at HNEW HW3
  have HQ := Lib.hid hq
  generalize hw4 : w3.alloc (.cells row44 5) = w4 at *
  have HM : Hid (∀ w : World, w = w3 → (Instr.makeSlice 141 (.int .i64 44) (.int .i64 44)).run Tryz.prog w = .ok (.slice (some ⟨q, 0, none⟩) 44 44) w4) := Lib.hid (fun w e => by subst e; rw [make44, hq, hw4])
  have hmk := HM.out w3 rfl
  clear hq hw4
  go_wp2_with (with_reducible refine cN rfl _ _ rfl q 0 44 44 44 44 _ _ 5 _ (piece b.toList 8 44) rfl rfl HNEW.out HSRC.out (Nat.le_refl _) ?c1 ?_)
  case c1 => simp [nil44]
  intro w5 hr5 hg5
  rw [splice_44 HPL.out] at hr5
  have HB5 := Lib.hid (HG4.out.bel.grown hg5 (Nat.le_trans HGE.out HG4.out.bel.size) (fun k hk => by injection hk with e; subst e; exact HW3.out))
  have HR5 := Lib.hid hr5
  clear hr5 hg5 c0 c1 c2 c3 c4
  go_wp2_with fail
  refine bodyPost_ret (v := .tuple #[.int .u64 (x : Int), .slice (some ⟨q, 0, none⟩) 44 44, .int .i64 0]) (by simp [results, Tryz.results115, go_sem]) rfl ⟨_, by rw [HE.out, HN.out, HXX.out]; rfl, .inr ⟨q, ?_, ?_, ?_, ?_⟩, ?_⟩
  · rw [HBB.out, HPL.out]
  · rw [HB.out]; exact HW3.out
  · rw [HBB.out]; exact HR5.out
  · rw [HBB.out, HPL.out]; unfold maxLen; omega
  · rw [HB.out]; exact HB5.out
theorem pget_any (b : Blk) (B : Nat) (w : World) (HB : Hid (B = w.heap.size)) (T : Tab w) : Calls Tryz.prog 115 #[blk b] w fun e w' => ∃ v, e = .returned (.tuple #[.int .u64 (getN b.toList : Nat), v, .int .i64 (getE b.toList : Nat)]) ∧ Bod w' B v (getB b.toList) ∧ Below B w w' := by
  by_cases h0 : numO b.toList = 0
  · exact pget_zero b B w HB T h0
  · by_cases h1 : numO b.toList = agO b.toList
    · by_cases h2 : sumO b.toList = crcO b.toList
      · exact pget_ok b B w HB T h0 h1 h2
      · exact pget_sum b B w HB T h0 h1 h2
    · exact pget_unlike b B w HB T h0 h1
end Go.Proofs.YtheponmdbmloaaaGreatDoor
