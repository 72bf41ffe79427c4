import Derived.Test.YtnliphgjcaippaaGreatDoorHsah
import Derived.Test.YtnliphgjcaippaaGreatDoorHsaj
import Derived.Laws.EntriesVeiled
import Derived.Test.YtnliphgjcaippaaGreatDoorHsai
import Derived.Test.YtnliphgjcaippaaGreatDoorHsZ
namespace Go.Proofs.YtnliphgjcaippaaGreatDoor
open Go.RowKit
set_option linter.unusedVariables false
set_option maxRecDepth 100000
theorem eF {ρ : Operand → Value} {o : Oper} {x y : Operand} {w : World} (g : Nat) (ho : o.op = .store 171 x y) (hx : ρ x = .pointer (some ⟨w.heap.size, 0, none⟩)) (hy : ρ y = .agg (dX g)) :
    (execOp ρ o).run Tryz.prog (w.alloc (.cells #[.slice none 0 0, .slice none 0 0, .slice none 0 0, .slice none 0 0, .slice none 0 0] 171)) = .ok .skip (w.alloc (.cells (dX g) 171)) :=
  exec_fillT (by kernel_rfl) rfl rfl ho hx hy
theorem putW_start (w w1 : World) (hb : Below ((w.alloc (.cells (cel au).toArray 58)).alloc (.cells (cel au).toArray 58)).heap.size ((w.alloc (.cells (cel au).toArray 58)).alloc (.cells (cel au).toArray 58)) w1) :
    PutW w.heap.size w (w1.alloc (.cells (dX (w.heap.size + 1)) 171)) w.heap.size (w.heap.size + 1) w1.heap.size au.toList := by
  have h1 := (Below.refl w.heap.size w).alloc (Nat.le_refl _) (.cells (cel au).toArray 58)
  have h2 := h1.alloc h1.size (.cells (cel au).toArray 58)
  have hs := hb.size
  simp only [World.size_alloc] at hs
  have hr : bK w1 w.heap.size 58 au.toList := bK.below ((bK.blk w au 58).past _) (by simp only [World.size_alloc]; omega) hb
  have hg : bK w1 (w.heap.size + 1) 58 au.toList := bK.below (by have := bK.blk (w.alloc (.cells (cel au).toArray 58)) au 58; rwa [World.size_alloc] at this) (by simp only [World.size_alloc]; omega) hb
  have hbel : Below w.heap.size w w1 := h2.trans (hb.mono (by simp only [World.size_alloc]; omega))
  exact ⟨hr.past _, hg.past _, heap_alloc_new w1 _, hbel.alloc (by omega) _, Nat.le_refl _, by omega, by omega, by omega⟩
set_option maxHeartbeats 4000000 in
theorem put_yes (n m c N : Nat) (A : Option Addr) (b : List UInt8) (w : World) (T : Tab w) (hn : n < 18446744073709551616) (h0 : 0 < n) (hb : Rd w N A m b) (hN : N ≤ w.heap.size) (hm : m ≤ 44) :
    Calls Tryz.prog 130 #[.int .u64 n, .slice A m c] w fun e w' => e = .returned (.tuple #[blk (cX n b), .int .i64 (putE n b : Nat)]) ∧ Below w.heap.size w w' := by
  have hl := hb.1
  have hbl : b.length ≤ 44 := by omega
  have hE : putE n b = 0 := putE_ok (by omega) hbl
  have hB : cX n b = ofL (co n b) := putB_ok hE
  rw [hE, hB]
  have HS := Lib.hid (noSum_seal (n := n) hbl)
  have HH := Lib.hid (noSum_head (n := n) hbl)
  have HL := Lib.hid (ez (n := n) hbl)
  have HL64 := Lib.hid (ew n hbl)
  have HC := Lib.hid (more_lt (s := 0) (by omega) (cx n b))
  have HT := Lib.hid T
  have HR := Lib.hid hb
  have HB := Lib.hid hl
  have HN := Lib.hid hn
  have HNN := Lib.hid hN
  clear hE hB T hb hl hbl hn hN
  have hz : ((n : Int) == 0) = false := by simp; omega
  go_enter Tryz.func130, Tryz.ntmps130
  go_wp2_with (first | (refine ag rfl (aQ rfl) ?_) | fail)
  refine (cut_any (w.heap.size + 1) _).mono ?_
  rintro e w1 ⟨rfl, hb1⟩
  have hW := putW_start w w1 hb1
  have HBW := Lib.hid hb1.size
  clear hb1
  have HFP := HBW.out
  obtain ⟨c0, c1, c2, c3, c4⟩ := hW.par.cells
  obtain ⟨g, hg⟩ : ∃ g, w.heap.size + 1 = g := ⟨_, rfl⟩
  rw [hg] at hW c0 c1 c2 c3 c4
  rw [hg]
  have HGG := Lib.hid hg
  clear HFP hg
  have HW := Lib.hid hW
  clear hW
  go_wp2_with (first | (refine aN rfl (eF g rfl rfl rfl) ?_) | fail)
  clear c0 c1 c2 c3 c4 HBW HGG
  have HN8 := HN.out
  refine (lay_any g 0 8 n 58 au.toList _ HW.out.row (by omega) (by omega) (by simp) (by simpa using HN8)).mono ?_
  rintro e w2 ⟨rfl, hr2, hg2⟩
  have HW2 := Lib.hid (HW.out.turn hr2 hg2 (Nat.le_refl _))
  clear hr2 hg2 HW
  obtain ⟨c0, c1, c2, c3, c4⟩ := HW2.out.par.cells
  generalize w1.heap.size = p at *
  obtain ⟨r, hr⟩ : ∃ r, r = w.heap.size := ⟨_, rfl⟩
  have HRR := Lib.hid hr
  rw [← hr] at HNN HW2 ⊢
  clear hr
  clear HN8
  go_wp2_with fail
  clear c0 c1 c2 c3 c4
  have HN8 := HN.out
  refine (lay_any g 56 8 n 58 _ _ HW2.out.row (by omega) (by omega) (by rw [noSum_1]; omega) (by simpa using HN8)).mono ?_
  rintro e w3 ⟨rfl, hr3, hg3⟩
  have HW3 := Lib.hid (HW2.out.turn hr3 hg3 (Nat.le_of_eq HRR.out))
  clear hr3 hg3 HW2 HN8
  obtain ⟨c0, c1, c2, c3, c4⟩ := HW3.out.par.cells
  have HR3 := Lib.hid (HR.out.below (HW3.out.bel.mono HNN.out))
  have HL2 := Lib.hid (noSum_2 n)
  obtain ⟨l2, hl2⟩ : ∃ l2, splice (splice au.toList 0 (aC 8 8 n)) 56 (aC 8 8 n) = l2 := ⟨_, rfl⟩
  have HNS : Hid (splice l2 8 b = noSum n b) := Lib.hid (by rw [← hl2]; rfl)
  rw [hl2] at HW3 HL2
  clear hl2
  go_wp2_with (with_reducible refine dw rfl _ _ rfl g 8 44 44 m c N A 58 l2 b rfl rfl HW3.out.row HR3.out hm ?c1 ?_)
  case c1 => rw [HL2.out]; omega
  intro w4 hr4 hg4
  rw [HNS.out] at hr4
  have HW4 := Lib.hid (HW3.out.turn hr4 hg4 (Nat.le_of_eq HRR.out))
  clear hr4 hg4 HW3 HR3 HL2 c0 c1 c2 c3 c4
  go_wp2_with fail
  refine wp_region_held (S := fun w' => Hid (PutW r w w' r g p (noSum n b) ∨ PutW r w w' r g p (co n b))) (by kernel_rfl) ?_
  change wpAnyH _ _ _ _ _ 7 _ _ w4.drew
  have hS : Hid (PutW r w w4.drew r g p (noSum n b) ∨ PutW r w w4.drew r g p (co n b)) := Lib.hid (.inl HW4.out.draw)
  refine aA 0 rfl (by kernel_rfl) (by kernel_rfl) (by kernel_rfl) rfl (fun w' hw => aj rfl (ev rfl) faP2) (fun _ _ _ h => h) hS ?_
  simp only [Act.put, aa, ac, ae]
  refine aA 1 rfl (by kernel_rfl) (by kernel_rfl) (by kernel_rfl) rfl (fun w' hw => aq rfl (ev rfl) (ldS (hw.out.elim (fun h => h.par.cells.2.2.1) (fun h => h.par.cells.2.2.1)))) (fun _ _ _ h => h) hS ?_
  simp only [Act.put, aa, ac, ae]
  refine aA 2 rfl (by kernel_rfl) (by kernel_rfl) (by kernel_rfl) rfl (fun w' hw => aj rfl (ev rfl) faP4) (fun _ _ _ h => h) hS ?_
  simp only [Act.put, aa, ac, ae]
  refine aA 3 rfl (by kernel_rfl) (by kernel_rfl) (by kernel_rfl) rfl (fun w' hw => aq rfl (ev rfl) (ldS (hw.out.elim (fun h => h.par.cells.2.2.2.2) (fun h => h.par.cells.2.2.2.2)))) (fun _ _ _ h => h) hS ?_
  simp only [Act.put, aa, ac, ae]
  refine dr 4 rfl (by kernel_rfl) rfl (ap Tryz.call141 rfl (evc (ev rfl) evn)) ?_
  have T4 : Tab w4.drew := (HT.out.below (by rw [← HRR.out]; exact HW4.out.draw.bel))
  have R4 := HW4.out.draw.row.rd (p := 0) (k := 52) (by rw [HL.out]; omega)
  rw [HH.out] at R4
  refine (of_any _ 52 52 _ (cx n b) _ T4 R4 (by unfold maxLen; omega)).mono ?_
  rintro e w' ⟨rfl, rfl⟩
  refine ⟨_, rfl, hS, ?_⟩
  simp only [Act.put, aa, ac, ae]
  clear T4 R4
  refine aA 5 rfl (by kernel_rfl) (by kernel_rfl) (by kernel_rfl) rfl (fun w' hw => exec_cv32 rfl (ev rfl) HC.out) (fun _ _ _ h => h) hS ?_
  simp only [Act.put, aa, ac, ae]
  refine dr 6 rfl (by kernel_rfl) rfl (ap Tryz.call140 rfl (evc (ev rfl) (evc (ev rfl) evn))) ?_
  refine (lay_any g 52 4 (more 0 (cx n b)) 58 _ _ HW4.out.draw.row (by omega) (by omega) (by rw [HL.out]; omega) (by have := HC.out; simpa using this)).mono ?_
  rintro e w5 ⟨rfl, hr5, hg5⟩
  rw [HS.out] at hr5
  have HW5 := Lib.hid (HW4.out.draw.turn hr5 hg5 (Nat.le_of_eq HRR.out))
  refine ⟨_, rfl, Lib.hid (.inr HW5.out), ?_⟩
  simp only [Act.put, aa, ac, ae]
  clear hr5 hg5 hS HW4
  refine wpAnyH_done (by kernel_rfl) ?_ _
  have HG := Lib.hid (HW5.out.row.range HL64.out)
  have HTH : Hid (w5.there r 0 64) := Lib.hid (there_row HW5.out.res.row (by simp))
  have HBB : Hid (Below w.heap.size w w5) := Lib.hid (by rw [← HRR.out]; exact HW5.out.bel)
  go_wp2_with (first | (refine ag rfl (aV rfl rfl HG.out) ?_) | (refine aN rfl (bj rfl rfl rfl HTH.out) ?_) | fail)
  refine bodyPost_ret (bQ rfl _ _ _ rfl (World.rangeAt_setCells_same _ _ _ _ (by rw [az]; exact HTH.out))) rfl ⟨rfl, below_setCells HBB.out (Nat.le_of_eq HRR.out.symm) _⟩
theorem put_all (n m c N : Nat) (A : Option Addr) (b : List UInt8) (w : World) (T : Tab w) (hn : n < 18446744073709551616) (hb : Rd w N A m b) (hN : N ≤ w.heap.size) (hm : m ≤ maxLen) :
    Calls Tryz.prog 130 #[.int .u64 n, .slice A m c] w fun e w' => e = .returned (.tuple #[blk (cX n b), .int .i64 (putE n b : Nat)]) ∧ Below w.heap.size w w' := by
  by_cases h0 : n = 0
  · subst h0
    exact put_arg m c A b w hb.1
  · by_cases h44 : m ≤ 44
    · exact put_yes n m c N A b w T hn (by omega) hb hN h44
    · exact put_long n m c A b w hb.1 (by omega) (by omega) hm
set_option linter.unusedSimpArgs false
def onwV (p q : Nat) : Value := .func (.func 146) #[] #[.pointer (some ⟨p, 0, none⟩), .pointer (some ⟨q, 0, none⟩)]
def CutAt (w : World) (p q : Nat) (S : Value) (k : Nat) : Prop := w.heap[p]? = some (.cells #[.int .i64 (k : Int)] 3 (0, 0)) ∧ w.heap[q]? = some (.cells #[S] 100 (0, 0))
set_option maxHeartbeats 1000000 in
theorem onward_any (S : Value) (A : Option Addr) (n c : Nat) (hS : S = .slice A n c) (w : World) : Calls Tryz.prog 135 #[S] w fun e w' => ∃ p q, e = .returned (onwV p q) ∧ CutAt w' p q S 0 ∧ w.heap.size ≤ p ∧ w.heap.size ≤ q ∧ p ≠ q ∧ p < w'.heap.size ∧ q < w'.heap.size ∧ Below w.heap.size w w' := by
  subst hS
  have hmf : ∀ (fn : Fn) (first cap : Array Value) (w : World), (Instr.makeFunc fn first cap).run Tryz.prog w = .ok (.func fn first cap) w := fun _ _ _ _ => rfl
  go_enter Tryz.func135, Tryz.ntmps135
  go_wp2
  go_ret
  have e1 := World.size_alloc (w := w) (o := Obj.cells #[Value.slice A n c] 100)
  refine ⟨w.heap.size + 1, w.heap.size, rfl, ⟨?_, ?_⟩, by omega, by omega, by omega, ?_, ?_, ?_⟩
  · have := heap_alloc_new (w.alloc (.cells #[.slice A n c] 100)) (.cells #[.int .i64 0] 3)
    rwa [e1] at this
  · exact bk (heap_alloc_new w _) _
  · simp only [World.size_alloc]; omega
  · simp only [World.size_alloc]; omega
  · exact ((Below.refl _ w).alloc (Nat.le_refl _) _).alloc (by simp only [World.size_alloc]; omega) _
theorem cut_sl (g off n c : Nat) (w : World) {i j : Nat} (h1 : i < j) (h2 : j ≤ n) (h3 : n ≤ c) : (Instr.sliceAt 100 (.slice (some ⟨g, off, none⟩) n c) (some (.int .i64 (i : Int))) (some (.int .i64 (j : Int))) (some (.int .i64 (j : Int)))).run Tryz.prog w = .ok (.slice (some ⟨g, off + i, none⟩) (j - i) (j - i)) w := by
  have e1 : (0 ≤ (j : Int) ∧ (j : Int) ≤ (c : Int)) := by omega
  have e2 : (0 ≤ (j : Int) ∧ (j : Int) ≤ (j : Int)) := by omega
  have e3 : (0 ≤ (i : Int) ∧ (i : Int) ≤ (j : Int)) := by omega
  have e4 : j ≠ i := by omega
  have e5 : i ≤ j := by omega
  have e6 : j ≤ c := by omega
  simp [Instr.sliceAt, Instr.slice, Instr.sliceBounds, Instr.sliceBound, Instr.sureAddr, asIntOf, run_underlying Tryz.underlying100, Tryz.sizeOf5, Addr.add_mid, e1, e2, e3, e4, e5, e6]
set_option maxHeartbeats 1000000 in
theorem onw1 (p q g off n c k s : Nat) (w : World) (h : CutAt w p q (.slice (some ⟨g, off, none⟩) n c) k) (hpq : p ≠ q) (hs : 0 < s) (hk : k + s ≤ n) (hc : n ≤ c) (hn : n ≤ 1000000) :
    Calls Tryz.prog 146 #[.int .i64 (s : Int), .pointer (some ⟨p, 0, none⟩), .pointer (some ⟨q, 0, none⟩)] w fun e w' => e = .returned (.slice (some ⟨g, off + k, none⟩) s s) ∧ CutAt w' p q (.slice (some ⟨g, off, none⟩) n c) (k + s) ∧ w.grownBy w' (some p) := by
  obtain ⟨h1, h2⟩ := h
  obtain ⟨a1, a2⟩ := cell1 h1
  obtain ⟨b1, b2⟩ := cell1 h2
  have s1 := set1 h1 (.int .i64 ((k : Int) + s))
  have s2 : (w.setCell ⟨p, 0, none⟩ (.int .i64 ((k : Int) + s))).heap[q]? = some (.cells #[.slice (some ⟨g, off, none⟩) n c] 100 (0, 0)) := (heap_setCell_other w ⟨p, 0, none⟩ q _ (fun e => hpq e.symm)).trans h2
  have d1 := (cell1 s1).1
  have d2 := (cell1 s2).1
  have hg := dU w p 0 (.int .i64 ((k : Int) + s))
  have S1 := Lib.hid s1
  have S2 := Lib.hid s2
  have HG := Lib.hid hg
  have HCUT : Hid (∀ w : World, (Instr.sliceAt 100 (.slice (some ⟨g, off, none⟩) n c) (some (.int .i64 (k : Int))) (some (.int .i64 ((k : Int) + (s : Int)))) (some (.int .i64 ((k : Int) + (s : Int))))).run Tryz.prog w = .ok (.slice (some ⟨g, off + k, none⟩) s s) w) := Lib.hid fun w => by
    have := cut_sl g off n c w (i := k) (j := k + s) (by omega) hk hc
    rw [show k + s - k = s from by omega] at this
    exact this
  clear h1 h2 s1 s2 hg b1 b2
  go_enter Tryz.func146, Tryz.ntmps146
  go_wp2_with (first | (refine af rfl (eC rfl rfl rfl rfl rfl (HCUT.out _)) ?_) | fail)
  go_ret
  exact ⟨rfl, ⟨S1.out, S2.out⟩, HG.out⟩
structure LayW (B : Nat) (w0 w : World) (x : Sup) (sb rb r nb p q g : Nat) (a : List UInt8) : Prop where
  sup : bx w sb x
  ros : bl w rb x.ros
  res : bK w r 161 z44
  nxt : w.heap[nb]? = some (.cells #[onwV p q] 167 (0, 0))
  cut : CutAt w p q (.slice (some ⟨g, 0, none⟩) 44 44) a.length
  row : bK w g 161 (cW a)
  bel : Below B w0 w
  p0 : B ≤ p
  g0 : B ≤ g
  dif : sb ≠ p ∧ sb ≠ g ∧ rb ≠ p ∧ rb ≠ g ∧ r ≠ p ∧ r ≠ g ∧ nb ≠ p ∧ nb ≠ g ∧ p ≠ q ∧ p ≠ g ∧ q ≠ g
section
variable {B : Nat} {w0 w w' : World} {x : Sup} {sb rb r nb p q g : Nat} {a b : List UInt8}
theorem LayW.keep (h : LayW B w0 w x sb rb r nb p q g a) (hb : Below w.heap.size w w') (hB : B ≤ w0.heap.size) : LayW B w0 w' x sb rb r nb p q g a :=
  ⟨am h.sup hb, am h.ros hb, am h.res hb, am h.nxt hb, ⟨am h.cut.1 hb, am h.cut.2 hb⟩, am h.row hb, h.bel.trans (hb.mono (Nat.le_trans hB h.bel.size)), h.p0, h.g0, h.dif⟩
theorem LayW.cutR (h : LayW B w0 w x sb rb r nb p q g a) (hc : CutAt w' p q (.slice (some ⟨g, 0, none⟩) 44 44) b.length) (hr : bK w' g 161 (cW b)) (hg : ∃ w1, w.grownBy w1 (some p) ∧ w1.grownBy w' (some g)) (hB : B ≤ w0.heap.size) : LayW B w0 w' x sb rb r nb p q g b := by
  obtain ⟨w1, k1, k2⟩ := hg
  obtain ⟨d1, d2, d3, d4, d5, d6, d7, d8, d9, d10, d11⟩ := h.dif
  have hb1 : Below B w0 w1 := h.bel.grown k1 (Nat.le_trans hB h.bel.size) (fun k hk => by injection hk with e; have := h.p0; omega)
  have hb2 : Below B w0 w' := hb1.grown k2 (Nat.le_trans hB hb1.size) (fun k hk => by injection hk with e; have := h.g0; omega)
  exact ⟨bF (bF h.sup k1 d1) k2 d2, bF (bF h.ros k1 d3) k2 d4, bF (bF h.res k1 d5) k2 d6, bF (bF h.nxt k1 d7) k2 d8, hc, hr, hb2, h.p0, h.g0, h.dif⟩
end
theorem Made.kept1 {w w' : World} {B : Nat} {v : Value} {l : List UInt8} {row : Option Nat} (h : Made w B v l) (hg : w.grownBy w' row) (hne : ∀ k, row = Option.some k → k < B) : Made w' B v l := by
  refine ⟨h.1, ?_⟩
  rcases h.2 with hn | ⟨g, cap, cur, rfl, hbg, hgg, rest⟩
  · exact .inl hn
  · refine .inr ⟨g, cap, cur, rfl, hbg, ?_, rest⟩
    rw [hg.block g (Array.getElem?_eq_some_iff.1 hgg).1 (fun e => by have := hne g e.symm; omega)]
    exact hgg
set_option maxHeartbeats 1000000 in
theorem lay1 (B : Nat) (w0 w : World) (x : Sup) (sb rb r nb p q g : Nat) (a : List UInt8) (n k : Nat) (h : LayW B w0 w x sb rb r nb p q g a) (hB : B ≤ w0.heap.size) (h1 : 1 ≤ k) (h2 : k ≤ 8) (hk : a.length + k ≤ 44) (hn : n < 256 ^ k) :
    Calls Tryz.prog 136 #[.int .u64 n, .int .i64 k, .pointer (some ⟨nb, 0, none⟩)] w fun e w' => e = .returned (.tuple #[]) ∧ LayW B w0 w' x sb rb r nb p q g (a ++ aC 8 k n) := by
  have HH := Lib.hid h
  have HL := Lib.hid (ar 8 k n)
  have HSP := Lib.hid (splice_pad (a := a) (x := aC 8 k n) (by rw [ar]; exact hk))
  have HPL := Lib.hid (dk (b := a) (by omega))
  have HPP := Lib.hid (aD h.cut.1)
  clear h
  go_enter Tryz.func136, Tryz.ntmps136
  go_wp2_with fail
  refine (put_ok n k w h1 h2 hn).mono ?_
  rintro e w1 ⟨v, rfl, hv, hb⟩
  have hvm := hv.made
  obtain ⟨A, c, rfl, _, _, _⟩ := hvm.open_ HL.out
  have HV := Lib.hid hvm
  have H1 := Lib.hid (HH.out.keep hb hB)
  have c0 := (cell1 H1.out.nxt).1
  unfold onwV at c0
  clear hv hvm hb HH
  go_wp2_with fail
  refine (onw1 p q g 0 44 44 a.length k w1 H1.out.cut H1.out.dif.2.2.2.2.2.2.2.2.1 h1 hk (Nat.le_refl _) (by omega)).mono ?_
  rintro e w2 ⟨rfl, hc2, hg2⟩
  clear c0
  have HC2 := Lib.hid hc2
  have HG2 := Lib.hid hg2
  have HROW2 : Hid (bK w2 g 161 (cW a)) := Lib.hid (bF H1.out.row hg2 (fun e => H1.out.dif.2.2.2.2.2.2.2.2.2.1 e.symm))
  have HRD2 : Hid (Rd w2 w2.heap.size A k (aC 8 k n)) := Lib.hid (by
    have := (HV.out.kept1 hg2 (fun j hj => by injection hj with e; have := HPP.out; omega)).rd
    exact this)
  clear hc2 hg2
  go_wp2_with (first | (refine dw rfl _ _ rfl g a.length k k k c _ A 161 (cW a) (aC 8 k n) rfl rfl HROW2.out HRD2.out (Nat.le_refl _) ?_ ?_) | fail)
  · rw [HPL.out]; omega
  intro w3 hr3 hg3
  rw [HSP.out] at hr3
  have hdf := H1.out.dif
  have hc3 : CutAt w3 p q (.slice (some ⟨g, 0, none⟩) 44 44) (a ++ aC 8 k n).length := by
    rw [List.length_append, HL.out]
    exact ⟨bF HC2.out.1 hg3 hdf.2.2.2.2.2.2.2.2.2.1, bF HC2.out.2 hg3 hdf.2.2.2.2.2.2.2.2.2.2⟩
  have H3 := Lib.hid (H1.out.cutR hc3 hr3 ⟨w2, HG2.out, hg3⟩ hB)
  clear hr3 hg3 hdf hc3
  go_wp2_with fail
  go_end0
  exact ⟨rfl, H3.out⟩
section
variable {ρ : Operand → Value} {o : Oper} {x z : Operand} {w : World} {g off : Nat}
theorem exec_all44 (ho : o.op = .slice 161 x none none none) (hx : ρ x = .pointer (some ⟨g, off, none⟩)) : (execOp ρ o).run Tryz.prog w = .ok (.value (.slice (some ⟨g, off, none⟩) 44 44)) w := by
  have h : (Instr.sliceAt 161 (.pointer (some ⟨g, off, none⟩)) none none none).run Tryz.prog w = .ok (.slice (some ⟨g, off, none⟩) 44 44) w := by
    simp [Instr.sliceAt, Instr.sliceBounds, Instr.sliceBound, Instr.sureAddr, asIntOf, run_underlying Tryz.underlying161, Tryz.sizeOf5, Addr.add_mid]
  unfold execOp
  simp only [ho, hx, Option.map_none, Sem.run_bind, h, Result.andThen_ok, Sem.run_pure]
end
theorem bl.rd16 {w : World} {b : Nat} {x : Ros} (h : bl w b x) : Rd w w.heap.size (some ⟨b, 3, none⟩) 16 x.st.toList := by
  have := h.rd (m := 16) (Nat.le_refl _)
  rwa [List.take_of_length_le (by simp)] at this
theorem layW_start {w w1 w2 : World} {x : Sup} {p q : Nat} (HS : bx w1 w.heap.size x) (HB : Below w.heap.size w w1) (HRES : bK w1 (w.heap.size + 1) 161 z44) (HROW : bK w1 (w.heap.size + 1 + 1) 161 z44)
    (hb : Below w1.heap.size w1 w2) (hc : CutAt w2 p q (.slice (some ⟨w.heap.size + 1 + 1, 0, none⟩) 44 44) 0) (hd : w1.heap.size ≤ p ∧ w1.heap.size ≤ q ∧ p ≠ q ∧ p < w2.heap.size ∧ q < w2.heap.size) :
    LayW w.heap.size w ((w2.alloc (.cells #[onwV p q] 167)).alloc (.cells (aH x.ros).toArray 28)) x w.heap.size (w2.heap.size + 1) (w.heap.size + 1) w2.heap.size p q (w.heap.size + 1 + 1) [] := by
  have e1 := World.size_alloc (w := w2) (o := Obj.cells #[onwV p q] 167)
  have h2 := aD HROW
  have h3 := hb.size
  have hro := bl.new (w2.alloc (.cells #[onwV p q] 167)) x.ros
  rw [e1] at hro
  have hb2 : Below w.heap.size w w2 := HB.trans (hb.mono HB.size)
  refine ⟨((HS.below (aD HS) hb).past _).past _, hro, bk (bk (am HRES hb) _) _, bk (heap_alloc_new w2 _) _, ⟨bk (bk hc.1 _) _, bk (bk hc.2 _) _⟩, bk (bk (am HROW hb) _) _, (hb2.alloc (by omega) _).alloc (by rw [e1]; omega) _, ?_, ?_, ?_⟩
  · omega
  · omega
  · refine ⟨?_, ?_, ?_, ?_, ?_, ?_, ?_, ?_, ?_, ?_, ?_⟩ <;> omega
theorem padL_zero {a : List UInt8} (h : a.length < 44) : cW (a ++ aC 8 1 0) = cW a := by
  unfold cW
  have e : aC 8 1 0 = [0] := by decide
  rw [e, List.append_assoc, List.length_append, List.length_singleton]
  congr 1
  rw [show 44 - a.length = (44 - (a.length + 1)) + 1 from by omega, List.replicate_succ]
  rfl
theorem full_yes {x : Sup} (h : x.ros.gone = true) : cW (aC 8 8 x.id ++ aC 8 1 x.ros.m.toNat ++ aC 8 2 x.ros.s.toNat ++ aC 8 2 x.ros.r.toNat ++ aC 8 1 x.self.toNat ++ aC 8 4 (val 2 x.ros.st.toList) ++ aC 8 2 x.ros.cur.toNat ++ aC 8 1 1) = bO x := by
  unfold bO ct goneN
  rw [h]
  simp only [List.append_assoc, if_true]
theorem full_no {x : Sup} (h : x.ros.gone = false) : cW (aC 8 8 x.id ++ aC 8 1 x.ros.m.toNat ++ aC 8 2 x.ros.s.toNat ++ aC 8 2 x.ros.r.toNat ++ aC 8 1 x.self.toNat ++ aC 8 4 (val 2 x.ros.st.toList) ++ aC 8 2 x.ros.cur.toNat) = bO x := by
  rw [← padL_zero (by simp [ar])]
  unfold bO ct goneN
  rw [h]
  simp only [List.append_assoc, Bool.false_eq_true, if_false]
set_option maxHeartbeats 4000000 in
theorem plaid (x : Sup) (w : World) (hid : x.id < 18446744073709551616) (hx : supB x = true) : Calls Tryz.prog 129 #[sup x] w fun e w' => e = .returned (arr (bO x)) ∧ Below w.heap.size w w' := by
  obtain ⟨_, hf, q1, q2⟩ := of_supB hx
  obtain ⟨hgeo, hsta, _, q3, q4, _⟩ := cT hf
  obtain ⟨g1, g2, g3, g4, g5, g6⟩ := dD hgeo
  have HNAR : Hid (narrow 2 x.ros.st.toList = true) := Lib.hid (by
    unfold narrow
    rw [List.all_eq_true]
    intro u hu
    simpa using st_small hsta u hu)
  have HSMALL := Lib.hid (sta_val hsta)
  obtain ⟨M, hM⟩ : ∃ M : Nat, x.ros.m.toNat = M := ⟨_, rfl⟩
  obtain ⟨T, hT⟩ : ∃ T : Nat, x.ros.s.toNat = T := ⟨_, rfl⟩
  obtain ⟨R, hR⟩ : ∃ R : Nat, x.ros.r.toNat = R := ⟨_, rfl⟩
  obtain ⟨E, hE⟩ : ∃ E : Nat, x.self.toNat = E := ⟨_, rfl⟩
  obtain ⟨C, hC⟩ : ∃ C : Nat, x.ros.cur.toNat = C := ⟨_, rfl⟩
  have HCR : Hid (∀ w' rb, bl w' rb x.ros → w'.cell? ⟨rb, 0, none⟩ = some (.int .i64 (M : Nat)) ∧ w'.cell? ⟨rb, 1, none⟩ = some (.int .i64 (T : Nat)) ∧ w'.cell? ⟨rb, 2, none⟩ = some (.int .i64 (R : Nat)) ∧ w'.cell? ⟨rb, 19, none⟩ = some (.int .i64 (C : Nat)) ∧ w'.cell? ⟨rb, 20, none⟩ = some (.bool x.ros.gone)) := Lib.hid fun w' rb h => by
    have := h.cells
    rw [show x.ros.m = (M : Int) from by omega, show x.ros.s = (T : Int) from by omega, show x.ros.r = (R : Int) from by omega, show x.ros.cur = (C : Int) from by omega] at this
    exact this
  have HCS : Hid (∀ w' sb, bx w' sb x → w'.cell? ⟨sb, 0, none⟩ = some (.int .u64 x.id) ∧ w'.cell? ⟨sb, 1, none⟩ = some (.int .i64 (E : Nat))) := Lib.hid fun w' sb h => by
    have := h.cells
    rw [show x.self = (E : Int) from by omega] at this
    exact ⟨this.1, this.2.1⟩
  have hM16 : M ≤ 16 := by omega
  have hT64 : T ≤ 64 := by omega
  have hR256 : R ≤ 256 := by omega
  have hE16 : E ≤ 16 := by omega
  have hC64 : C ≤ 64 := by omega
  have HYES := fun h => Lib.hid (full_yes (x := x) h)
  have HNO := fun h => Lib.hid (full_no (x := x) h)
  rw [hM, hT, hR, hE, hC] at HYES HNO
  clear hf q1 q2 hgeo hsta q3 q4 g1 g2 g3 g4 g5 g6 hM hT hR hE hC hx
  have hmf : ∀ (fn : Fn) (first cap : Array Value) (w : World), (Instr.makeFunc fn first cap).run Tryz.prog w = .ok (.func fn first cap) w := fun _ _ _ _ => rfl
  obtain ⟨h1, h2, h3⟩ := boxS_new w x
  have HS := Lib.hid ((h1.past (.cells (vals z44).toArray 161)).past (.cells (vals z44).toArray 161))
  have hb2 := h2.alloc h2.size (.cells (vals z44).toArray 161)
  have HB := Lib.hid (hb2.alloc hb2.size (.cells (vals z44).toArray 161))
  have hr := bK.new (w.alloc (.cells (aL x).toArray 62)) z44 161
  rw [World.size_alloc] at hr
  have HRES := Lib.hid (hr.past (.cells (vals z44).toArray 161))
  have hg := bK.new ((w.alloc (.cells (aL x).toArray 62)).alloc (.cells (vals z44).toArray 161)) z44 161
  rw [World.size_alloc, World.size_alloc] at hg
  have HROW := Lib.hid hg
  clear h1 h2 h3 hb2 hr hg
  go_enter Tryz.func129, Tryz.ntmps129
  go_wp2_with (first | (refine af rfl (dI rfl rfl) ?_) | (refine af rfl (exec_alloc44 rfl) ?_) | (refine af rfl (exec_all44 rfl rfl) ?_) | fail)
  try simp only [World.size_alloc]
  generalize ((w.alloc (.cells (aL x).toArray 62)).alloc (.cells (vals z44).toArray 161)).alloc (.cells (vals z44).toArray 161) = w1 at *
  refine (onward_any (.slice (some ⟨w.heap.size + 1 + 1, 0, none⟩) 44 44) _ 44 44 rfl w1).mono ?_
  rintro e w2 ⟨p, q, rfl, hc, hp0, hq0, hpq, hp1, hq1, hb⟩
  have hsz : w.heap.size + 1 + 1 < w2.heap.size := by have := aD HROW.out; have := hb.size; omega
  have HS2 := Lib.hid ((HS.out.below (aD HS.out) hb).past (.cells #[onwV p q] 167))
  have HW0 := Lib.hid (layW_start HS.out HB.out HRES.out HROW.out hb hc ⟨hp0, hq0, hpq, hp1, hq1⟩)
  have HR0 : Hid (w.heap.size ≤ w.heap.size + 1) := Lib.hid (Nat.le_succ _)
  clear hb hc hp0 hq0 hpq hp1 hq1 HS HB HRES HROW
  unfold onwV at HS2 HW0 ⊢
  go_upto_region 5 with (first | (refine af rfl (aR (c := x.ros) rfl rfl ?_) ?_; (with_reducible exact HS2.out.rosr)) | (refine af rfl (bS rfl) ?_) | (refine av rfl (exec_fillR rfl rfl rfl) ?_) | fail)
  try simp only [World.size_alloc]
  generalize ((w2.alloc (.cells #[Value.func (.func 146) #[] #[.pointer (some ⟨p, 0, none⟩), .pointer (some ⟨q, 0, none⟩)]] 167)).alloc (.cells (aH x.ros).toArray 28)) = w3 at *
  try simp only [World.size_alloc]
  generalize w2.heap.size = nb at *
  generalize w.heap.size + 1 + 1 = g at *
  generalize w.heap.size + 1 = r at *
  obtain ⟨B, hBdef⟩ : ∃ B, w.heap.size = B := ⟨_, rfl⟩
  have HBD := Lib.hid hBdef
  rw [hBdef] at HW0 HR0 ⊢
  clear hBdef HS2 hsz
  obtain ⟨c0, c1⟩ := HCS.out _ _ HW0.out.sup
  obtain ⟨d0, d1, d2, d3, d4⟩ := HCR.out _ _ HW0.out.ros
  go_wp2_with fail
  refine (lay1 B w w3 x B (nb + 1) r nb p q g _ x.id 8 HW0.out (Nat.le_of_eq HBD.out.symm) (by omega) (by omega) (by simp [ar]) (by simpa using hid)).mono ?_
  rintro e w4 ⟨rfl, hW⟩
  have HW1 := Lib.hid hW
  clear hW c0 c1 d0 d1 d2 d3 d4 HW0
  obtain ⟨c0, c1⟩ := HCS.out _ _ HW1.out.sup
  obtain ⟨d0, d1, d2, d3, d4⟩ := HCR.out _ _ HW1.out.ros
  go_wp2_with fail
  refine (lay1 B w w4 x B (nb + 1) r nb p q g _ M 1 HW1.out (Nat.le_of_eq HBD.out.symm) (by omega) (by omega) (by simp [ar]) (by omega)).mono ?_
  rintro e w5 ⟨rfl, hW⟩
  have HW2 := Lib.hid hW
  clear hW c0 c1 d0 d1 d2 d3 d4 HW1
  obtain ⟨c0, c1⟩ := HCS.out _ _ HW2.out.sup
  obtain ⟨d0, d1, d2, d3, d4⟩ := HCR.out _ _ HW2.out.ros
  go_wp2_with fail
  refine (lay1 B w w5 x B (nb + 1) r nb p q g _ T 2 HW2.out (Nat.le_of_eq HBD.out.symm) (by omega) (by omega) (by simp [ar]) (by omega)).mono ?_
  rintro e w6 ⟨rfl, hW⟩
  have HW3 := Lib.hid hW
  clear hW c0 c1 d0 d1 d2 d3 d4 HW2
  obtain ⟨c0, c1⟩ := HCS.out _ _ HW3.out.sup
  obtain ⟨d0, d1, d2, d3, d4⟩ := HCR.out _ _ HW3.out.ros
  go_wp2_with fail
  refine (lay1 B w w6 x B (nb + 1) r nb p q g _ R 2 HW3.out (Nat.le_of_eq HBD.out.symm) (by omega) (by omega) (by simp [ar]) (by omega)).mono ?_
  rintro e w7 ⟨rfl, hW⟩
  have HW4 := Lib.hid hW
  clear hW c0 c1 d0 d1 d2 d3 d4 HW3
  obtain ⟨c0, c1⟩ := HCS.out _ _ HW4.out.sup
  obtain ⟨d0, d1, d2, d3, d4⟩ := HCR.out _ _ HW4.out.ros
  go_wp2_with fail
  refine (lay1 B w w7 x B (nb + 1) r nb p q g _ E 1 HW4.out (Nat.le_of_eq HBD.out.symm) (by omega) (by omega) (by simp [ar]) (by omega)).mono ?_
  rintro e w8 ⟨rfl, hW⟩
  have HW5 := Lib.hid hW
  clear hW c0 c1 d0 d1 d2 d3 d4 HW4
  have HRD := Lib.hid HW5.out.ros.rd16
  go_wp2_with (first | (refine af rfl (dZ rfl rfl) ?_) | fail)
  refine (bits_ok _ 16 16 _ 2 _ x.ros.st.toList w8 (Lib.hid rfl) HRD.out (Nat.le_refl _) (by omega) (by omega) (by omega) HNAR.out).mono ?_
  rintro e w9 ⟨v, rfl, hv, hb⟩
  rw [show bytesOf 16 2 = 4 from rfl] at hv
  have hvm := hv.made
  obtain ⟨A, c, rfl, _, _, _⟩ := hvm.open_ (ar 8 4 _)
  have HV := Lib.hid hvm
  have HW6 := Lib.hid (HW5.out.keep hb (Nat.le_of_eq HBD.out.symm))
  have HPP := Lib.hid (aD HW5.out.cut.1)
  have n0 := (cell1 HW6.out.nxt).1
  unfold onwV at n0
  clear hv hvm hb HRD HW5
  go_wp2_with fail
  refine (onw1 p q g 0 44 44 _ 4 w9 HW6.out.cut HW6.out.dif.2.2.2.2.2.2.2.2.1 (by omega) (by simp [ar]) (Nat.le_refl _) (by omega)).mono ?_
  rintro e w10 ⟨rfl, hc2, hg2⟩
  clear n0
  have HC2 := Lib.hid hc2
  have HG2 := Lib.hid hg2
  have HROW2 := Lib.hid (bF HW6.out.row hg2 (fun e => HW6.out.dif.2.2.2.2.2.2.2.2.2.1 e.symm))
  have HRD2 : Hid (Rd w10 w10.heap.size A 4 (aC 8 4 (val 2 x.ros.st.toList))) := Lib.hid (by
    have := (HV.out.kept1 hg2 (fun j hj => by injection hj with e; have := HPP.out; omega)).rd
    exact this)
  clear hc2 hg2
  obtain ⟨a, ha⟩ : ∃ a, [] ++ aC 8 8 x.id ++ aC 8 1 M ++ aC 8 2 T ++ aC 8 2 R ++ aC 8 1 E = a := ⟨_, rfl⟩
  have hal : a.length = 14 := by rw [← ha]; simp [ar]
  rw [ha] at HC2 HROW2 HW6
  have HA := Lib.hid ha
  have HAL := Lib.hid hal
  clear ha
  rw [hal] at HC2
  go_wp2_with (first | (refine dw rfl _ _ rfl g 14 4 4 4 c _ A 161 (cW a) (aC 8 4 (val 2 x.ros.st.toList)) rfl rfl HROW2.out HRD2.out (Nat.le_refl _) ?_ ?_) | fail)
  · rw [dk (by omega)]; omega
  intro w11 hr3 hg3
  rw [← hal, splice_pad (by rw [hal, ar]; omega)] at hr3
  have hdf := HW6.out.dif
  have hc3 : CutAt w11 p q (.slice (some ⟨g, 0, none⟩) 44 44) (a ++ aC 8 4 (val 2 x.ros.st.toList)).length := by
    rw [List.length_append, ar, hal]
    exact ⟨bF HC2.out.1 hg3 hdf.2.2.2.2.2.2.2.2.2.1, bF HC2.out.2 hg3 hdf.2.2.2.2.2.2.2.2.2.2⟩
  have HW7 := Lib.hid (HW6.out.cutR hc3 hr3 ⟨w10, HG2.out, hg3⟩ (Nat.le_of_eq HBD.out.symm))
  clear hr3 hg3 hdf hc3 HW6 HC2 HG2 HROW2 HRD2 HV HPP
  obtain ⟨d0, d1, d2, d3, d4⟩ := HCR.out _ _ HW7.out.ros
  go_wp2_with fail
  refine (lay1 B w w11 x B (nb + 1) r nb p q g _ C 2 HW7.out (Nat.le_of_eq HBD.out.symm) (by omega) (by omega) (by rw [List.length_append, ar]; omega) (by omega)).mono ?_
  rintro e w12 ⟨rfl, hW⟩
  have HW8 := Lib.hid hW
  clear hW d0 d1 d2 d3 d4 HW7
  have d4 := (HCR.out _ _ HW8.out.ros).2.2.2.2
  cases hgn : x.ros.gone
  · have HF := HNO hgn
    rw [hgn] at d4
    have HL := Lib.hid HW8.out.row
    rw [← HA.out] at HL
    simp only [List.nil_append] at HL
    rw [HF.out] at HL
    have HLR := Lib.hid (a4 HL.out)
    have HTH := Lib.hid (ch (o := 0) (n := 44) HW8.out.res (by rw [aT]; exact Nat.le_refl _))
    have HBB := Lib.hid HW8.out.bel
    have HFL := Lib.hid (cv x)
    clear HYES HNO HF hgn
    go_wp2_with (first | (refine af rfl (eO HFL.out rfl rfl ?_) ?_; (with_reducible exact HLR.out)) | (refine av rfl (eD (cs := vals (bO x)) ?k1 (vals_one _) rfl rfl rfl ?k2) ?_; (case k1 => rw [aT, HFL.out]; exact size44); (case k2 => rw [aT, HFL.out]; exact HTH.out)) | fail)
    refine bodyPost_ret (res_rng (t := 161) (cs := vals (bO x)) rfl _ _ r rfl ?h1 Tryz.underlying161 rfl ?h2) rfl ⟨rfl, ?h3⟩
    case h1 => exact World.rangeAt_setCells_same _ _ _ _ (by rw [aT, HFL.out]; exact HTH.out)
    case h2 => rw [aT, HFL.out]; exact size44
    case h3 => rw [HBD.out]; exact below_setCells HBB.out HR0.out _
  · have HF := HYES hgn
    rw [hgn] at d4
    go_wp2_with fail
    refine (lay1 B w w12 x B (nb + 1) r nb p q g _ 1 1 HW8.out (Nat.le_of_eq HBD.out.symm) (by omega) (by omega) (by rw [List.length_append, List.length_append, ar, ar]; have := HAL.out; omega) (by omega)).mono ?_
    rintro e w13 ⟨rfl, hW⟩
    have HW9 := Lib.hid hW
    clear hW d4 HW8
    have HL := Lib.hid HW9.out.row
    rw [← HA.out] at HL
    simp only [List.nil_append] at HL
    rw [HF.out] at HL
    have HLR := Lib.hid (a4 HL.out)
    have HTH := Lib.hid (ch (o := 0) (n := 44) HW9.out.res (by rw [aT]; exact Nat.le_refl _))
    have HBB := Lib.hid HW9.out.bel
    have HFL := Lib.hid (cv x)
    clear HYES HNO HF hgn
    go_wp2_with (first | (refine af rfl (eO HFL.out rfl rfl ?_) ?_; (with_reducible exact HLR.out)) | (refine av rfl (eD (cs := vals (bO x)) ?k1 (vals_one _) rfl rfl rfl ?k2) ?_; (case k1 => rw [aT, HFL.out]; exact size44); (case k2 => rw [aT, HFL.out]; exact HTH.out)) | fail)
    refine bodyPost_ret (res_rng (t := 161) (cs := vals (bO x)) rfl _ _ r rfl ?h1 Tryz.underlying161 rfl ?h2) rfl ⟨rfl, ?h3⟩
    case h1 => exact World.rangeAt_setCells_same _ _ _ _ (by rw [aT, HFL.out]; exact HTH.out)
    case h2 => rw [aT, HFL.out]; exact size44
    case h3 => rw [HBD.out]; exact below_setCells HBB.out HR0.out _
set_option maxHeartbeats 1000000 in
theorem rlaid1 (B : Nat) (v : Value) (a : List UInt8) (n k : Nat) (w : World) (hm : Made w B v a) (hB : B ≤ w.heap.size) (ha : a.length ≤ 100) (hn : n < 18446744073709551616) (h1 : 1 ≤ k) (h2 : k ≤ 8) (hk : n < 2 ^ (8 * k)) :
    Calls Tryz.prog 121 #[v, .int .u64 n, .int .i64 k] w fun e w' => ∃ v', e = .returned v' ∧ Made w' B v' (a ++ aC 8 k n) ∧ Below B w w' := by
  have HM := Lib.hid hm
  have HB := Lib.hid hB
  have HK := Lib.hid hk
  clear hm hB hk
  obtain ⟨A0, c0, rfl, _, _⟩ := HM.out.form
  go_enter Tryz.func121, Tryz.ntmps121
  go_wp2_with fail
  refine (rput_ok n k _ w (Lib.hid rfl) hn h1 h2 HK.out).mono ?_
  rintro e w1 ⟨v1, rfl, hm1, hb1⟩
  obtain ⟨A1, c1, rfl, hr1, _, _⟩ := hm1.open_ (ar 8 k n)
  have HM1 := Lib.hid (HM.out.below hb1)
  have HR1 := Lib.hid hr1
  have HB1 : Hid (B ≤ w1.heap.size) := Lib.hid (Nat.le_trans HB.out hb1.size)
  have HBB := Lib.hid (hb1.mono HB.out)
  clear hm1 hr1 hb1
  go_wp2_with (first | (refine dd rfl _ _ rfl B _ k c1 _ a (aC 8 k n) A1 rfl rfl HM1.out HR1.out HB1.out ?_ ?_) | fail)
  · omega
  intro v2 w2 hm2 hg2
  have HM2 := Lib.hid hm2
  have HB2 := Lib.hid (HBB.out.grown hg2 HB1.out (fun k hk => (HM1.out.lt k hk).1))
  clear hm2 hg2
  go_wp2_with fail
  go_ret
  exact ⟨_, rfl, HM2.out, HB2.out⟩
set_option maxHeartbeats 1000000 in
theorem cw (A : Option Addr) (n c N : Nat) (b : List UInt8) (p k : Nat) (w : World) (hb : Rd w N A n b) (hn : n ≤ maxLen) (h1 : 1 ≤ k) (h2 : k ≤ 4) (h3 : p + k ≤ n) :
    Calls Tryz.prog 93 #[.slice A n c, .int .i64 p, .int .i64 k] w fun e w' => e = .returned (.int .i64 (val 8 (piece b p k) : Nat)) ∧ w = w' := by
  have hv : val 8 (piece b p k) < 4294967296 := by
    have h := ci (b := b) (p := p) (k := k) (by have := hb.1; omega)
    have h4 : 2 ^ (k * 8) ≤ 2 ^ 32 := Nat.pow_le_pow_right (by omega) (by omega)
    omega
  go_enter Tryz.func93, Tryz.ntmps93
  go_wp2_with fail
  refine (dc A n c N b p k w hb hn h1 (by omega) h3).mono ?_
  rintro e w' ⟨rfl, rfl⟩
  obtain ⟨v, hvv⟩ : ∃ v, val 8 (piece b p k) = v := ⟨_, rfl⟩
  rw [hvv] at hv
  rw [hvv]
  have HV := Lib.hid hvv
  clear hvv
  go_wp2_with fail
  go_ret
  exact ⟨by rw [HV.out]; rfl, rfl⟩
theorem body_yes {x : Sup} (h : x.ros.gone = true) : aC 8 8 x.id ++ aC 8 1 x.ros.m.toNat ++ aC 8 2 x.ros.s.toNat ++ aC 8 2 x.ros.r.toNat ++ aC 8 1 x.self.toNat ++ aC 8 4 (val 2 x.ros.st.toList) ++ aC 8 2 x.ros.cur.toNat ++ [1] = ct x := by
  unfold ct goneN
  rw [h]
  simp only [List.append_assoc, if_true]
  rfl
theorem body_no {x : Sup} (h : x.ros.gone = false) : aC 8 8 x.id ++ aC 8 1 x.ros.m.toNat ++ aC 8 2 x.ros.s.toNat ++ aC 8 2 x.ros.r.toNat ++ aC 8 1 x.self.toNat ++ aC 8 4 (val 2 x.ros.st.toList) ++ aC 8 2 x.ros.cur.toNat ++ [0] = ct x := by
  unfold ct goneN
  rw [h]
  simp only [List.append_assoc, Bool.false_eq_true, if_false]
  rfl
set_option maxHeartbeats 4000000 in
theorem rbody (x : Sup) (w : World) (hid : x.id < 18446744073709551616) (hx : supB x = true) : Calls Tryz.prog 98 #[sup x] w fun e w' => ∃ v, e = .returned v ∧ Made w' w.heap.size v (ct x) ∧ Below w.heap.size w w' := by
  obtain ⟨h1, h2, h3⟩ := boxS_new w x
  have HS0 := Lib.hid h1
  have HB0 := Lib.hid h2
  have HZ0 : Hid (w.heap.size + 1 ≤ (w.alloc (.cells (aL x).toArray 62)).heap.size) := Lib.hid h3
  clear h1 h2 h3
  obtain ⟨_, hf, q1, q2⟩ := of_supB hx
  obtain ⟨hgeo, hsta, _, q3, q4, _⟩ := cT hf
  obtain ⟨g1, g2, g3, g4, g5, g6⟩ := dD hgeo
  have HNAR : Hid (narrow 2 x.ros.st.toList = true) := Lib.hid (by
    unfold narrow
    rw [List.all_eq_true]
    intro u hu
    simpa using st_small hsta u hu)
  have HSMALL := Lib.hid (sta_val hsta)
  obtain ⟨M, hM⟩ : ∃ M : Nat, x.ros.m.toNat = M := ⟨_, rfl⟩
  obtain ⟨T, hT⟩ : ∃ T : Nat, x.ros.s.toNat = T := ⟨_, rfl⟩
  obtain ⟨R, hR⟩ : ∃ R : Nat, x.ros.r.toNat = R := ⟨_, rfl⟩
  obtain ⟨E, hE⟩ : ∃ E : Nat, x.self.toNat = E := ⟨_, rfl⟩
  obtain ⟨C, hC⟩ : ∃ C : Nat, x.ros.cur.toNat = C := ⟨_, rfl⟩
  have HCR : Hid (∀ w' rb, bl w' rb x.ros → w'.cell? ⟨rb, 0, none⟩ = some (.int .i64 (M : Nat)) ∧ w'.cell? ⟨rb, 1, none⟩ = some (.int .i64 (T : Nat)) ∧ w'.cell? ⟨rb, 2, none⟩ = some (.int .i64 (R : Nat)) ∧ w'.cell? ⟨rb, 19, none⟩ = some (.int .i64 (C : Nat)) ∧ w'.cell? ⟨rb, 20, none⟩ = some (.bool x.ros.gone)) := Lib.hid fun w' rb h => by
    have := h.cells
    rw [show x.ros.m = (M : Int) from by omega, show x.ros.s = (T : Int) from by omega, show x.ros.r = (R : Int) from by omega, show x.ros.cur = (C : Int) from by omega] at this
    exact this
  have HCR2 : Hid (∀ w' sb, bx w' sb x → w'.cell? ⟨sb, 2, none⟩ = some (.int .i64 (M : Nat)) ∧ w'.cell? ⟨sb, 3, none⟩ = some (.int .i64 (T : Nat)) ∧ w'.cell? ⟨sb, 4, none⟩ = some (.int .i64 (R : Nat)) ∧ w'.cell? ⟨sb, 21, none⟩ = some (.int .i64 (C : Nat)) ∧ w'.cell? ⟨sb, 22, none⟩ = some (.bool x.ros.gone)) := Lib.hid fun w' sb h => by
    have := h.cells.2.2
    rw [show x.ros.m = (M : Int) from by omega, show x.ros.s = (T : Int) from by omega, show x.ros.r = (R : Int) from by omega, show x.ros.cur = (C : Int) from by omega] at this
    exact this
  have HCS : Hid (∀ w' sb, bx w' sb x → w'.cell? ⟨sb, 0, none⟩ = some (.int .u64 x.id) ∧ w'.cell? ⟨sb, 1, none⟩ = some (.int .i64 (E : Nat))) := Lib.hid fun w' sb h => by
    have := h.cells
    rw [show x.self = (E : Int) from by omega] at this
    exact ⟨this.1, this.2.1⟩
  have hM16 : M ≤ 16 := by omega
  have hT64 : T ≤ 64 := by omega
  have hR256 : R ≤ 256 := by omega
  have hE16 : E ≤ 16 := by omega
  have hC64 : C ≤ 64 := by omega
  have HYES := fun h => Lib.hid (body_yes (x := x) h)
  have HNO := fun h => Lib.hid (body_no (x := x) h)
  rw [hM, hT, hR, hE, hC] at HYES HNO
  clear hf q1 q2 hgeo hsta q3 q4 g1 g2 g3 g4 g5 g6 hM hT hR hE hC hx
  go_enter Tryz.func98, Tryz.ntmps98
  go_upto_region 1 with (first | (refine af rfl (dI rfl rfl) ?_) | fail)
  generalize w.alloc (.cells (aL x).toArray 62) = w1 at *
  obtain ⟨s, hs⟩ : ∃ s, w.heap.size = s := ⟨_, rfl⟩
  have HSD := Lib.hid hs
  rw [hs] at HS0 HB0 HZ0 ⊢
  clear hs
  have HM0 : Hid (Made w1 (s + 1) (.slice none 0 0) []) := Lib.hid (World.ownsRow_nil _ _ _ _)
  have HX := Lib.hid hid
  clear hid
  obtain ⟨c0, c1⟩ := HCS.out _ _ HS0.out
  obtain ⟨d0, d1, d2, d3, d4⟩ := HCR2.out _ _ HS0.out
  go_wp2_with fail
  refine (rlaid1 (s + 1) _ _ x.id 8 w1 HM0.out HZ0.out (by simp [ar]) (by exact HX.out) (by omega) (by omega) (by exact HX.out)).mono ?_
  rintro e w2 ⟨v1, rfl, hm, hb⟩
  have HM1 := Lib.hid hm
  have HS1 := Lib.hid (HS0.out.below (Nat.lt_succ_self _) hb)
  have HB1 := Lib.hid (HB0.out.trans (hb.mono (Nat.le_succ _)))
  have HZ1 : Hid (s + 1 ≤ w2.heap.size) := Lib.hid (Nat.le_trans HZ0.out hb.size)
  clear hm hb HM0 HS0 HB0 HZ0 c0 c1 d0 d1 d2 d3 d4
  obtain ⟨c0, c1⟩ := HCS.out _ _ HS1.out
  obtain ⟨d0, d1, d2, d3, d4⟩ := HCR2.out _ _ HS1.out
  go_wp2_with fail
  refine (rlaid1 (s + 1) _ _ M 1 w2 HM1.out HZ1.out (by simp [ar]) (by omega) (by omega) (by omega) (by omega)).mono ?_
  rintro e w3 ⟨v2, rfl, hm, hb⟩
  have HM2 := Lib.hid hm
  have HS2 := Lib.hid (HS1.out.below (Nat.lt_succ_self _) hb)
  have HB2 := Lib.hid (HB1.out.trans (hb.mono (Nat.le_succ _)))
  have HZ2 : Hid (s + 1 ≤ w3.heap.size) := Lib.hid (Nat.le_trans HZ1.out hb.size)
  clear hm hb HM1 HS1 HB1 HZ1 c0 c1 d0 d1 d2 d3 d4
  obtain ⟨c0, c1⟩ := HCS.out _ _ HS2.out
  obtain ⟨d0, d1, d2, d3, d4⟩ := HCR2.out _ _ HS2.out
  go_wp2_with fail
  refine (rlaid1 (s + 1) _ _ T 2 w3 HM2.out HZ2.out (by simp [ar]) (by omega) (by omega) (by omega) (by omega)).mono ?_
  rintro e w4 ⟨v3, rfl, hm, hb⟩
  have HM3 := Lib.hid hm
  have HS3 := Lib.hid (HS2.out.below (Nat.lt_succ_self _) hb)
  have HB3 := Lib.hid (HB2.out.trans (hb.mono (Nat.le_succ _)))
  have HZ3 : Hid (s + 1 ≤ w4.heap.size) := Lib.hid (Nat.le_trans HZ2.out hb.size)
  clear hm hb HM2 HS2 HB2 HZ2 c0 c1 d0 d1 d2 d3 d4
  obtain ⟨c0, c1⟩ := HCS.out _ _ HS3.out
  obtain ⟨d0, d1, d2, d3, d4⟩ := HCR2.out _ _ HS3.out
  go_wp2_with fail
  refine (rlaid1 (s + 1) _ _ R 2 w4 HM3.out HZ3.out (by simp [ar]) (by omega) (by omega) (by omega) (by omega)).mono ?_
  rintro e w5 ⟨v4, rfl, hm, hb⟩
  have HM4 := Lib.hid hm
  have HS4 := Lib.hid (HS3.out.below (Nat.lt_succ_self _) hb)
  have HB4 := Lib.hid (HB3.out.trans (hb.mono (Nat.le_succ _)))
  have HZ4 : Hid (s + 1 ≤ w5.heap.size) := Lib.hid (Nat.le_trans HZ3.out hb.size)
  clear hm hb HM3 HS3 HB3 HZ3 c0 c1 d0 d1 d2 d3 d4
  obtain ⟨c0, c1⟩ := HCS.out _ _ HS4.out
  obtain ⟨d0, d1, d2, d3, d4⟩ := HCR2.out _ _ HS4.out
  go_wp2_with fail
  refine (rlaid1 (s + 1) _ _ E 1 w5 HM4.out HZ4.out (by simp [ar]) (by omega) (by omega) (by omega) (by omega)).mono ?_
  rintro e w6 ⟨v5, rfl, hm, hb⟩
  have HM5 := Lib.hid hm
  have HS5 := Lib.hid (HS4.out.below (Nat.lt_succ_self _) hb)
  have HB5 := Lib.hid (HB4.out.trans (hb.mono (Nat.le_succ _)))
  have HZ5 : Hid (s + 1 ≤ w6.heap.size) := Lib.hid (Nat.le_trans HZ4.out hb.size)
  clear hm hb HM4 HS4 HB4 HZ4 c0 c1 d0 d1 d2 d3 d4
  have HRD := Lib.hid HS5.out.rd
  go_wp2_with (first | (refine af rfl (dZ rfl rfl) ?_) | fail)
  refine (rbits_any _ 16 16 _ 2 _ x.ros.st.toList w6 (Lib.hid rfl) HRD.out (Nat.le_refl _) (by omega) (by omega) (by omega)).mono ?_
  rintro e w7 ⟨⟨hy, _⟩, hb⟩
  obtain ⟨vb, rfl, hmb⟩ := hy HNAR.out
  rw [show bytesOf 16 2 = 4 from rfl] at hmb
  obtain ⟨Ab, cb, rfl, hrb, _, _⟩ := hmb.open_ (ar 8 4 _)
  have HRB := Lib.hid hrb
  have HM6 := Lib.hid (HM5.out.below hb)
  have HS6 := Lib.hid (HS5.out.below (aD HS5.out) hb)
  have HB6 := Lib.hid (HB5.out.trans (hb.mono (Nat.le_trans (Nat.le_succ s) HZ5.out)))
  have HZ6 : Hid (s + 1 ≤ w7.heap.size) := Lib.hid (Nat.le_trans HZ5.out hb.size)
  clear hmb hrb hb HM5 HS5 HB5 HZ5 HRD hy
  obtain ⟨a, ha⟩ : ∃ a, [] ++ aC 8 8 x.id ++ aC 8 1 M ++ aC 8 2 T ++ aC 8 2 R ++ aC 8 1 E = a := ⟨_, rfl⟩
  have hal : a.length = 14 := by rw [← ha]; simp [ar]
  rw [ha] at HM6
  have HA := Lib.hid ha
  have HAL := Lib.hid hal
  clear ha hal
  go_wp2_with (first | (refine dd rfl _ _ rfl (s + 1) _ 4 cb _ a (aC 8 4 (val 2 x.ros.st.toList)) Ab rfl rfl HM6.out HRB.out HZ6.out ?_ ?_) | fail)
  · rw [HAL.out]; omega
  intro v8 w8 hm8 hg8
  have hb8 : Below (s + 1) w7 w8 := (Below.refl _ _).grown hg8 HZ6.out (fun k hk => (HM6.out.lt k hk).1)
  have HM7 := Lib.hid hm8
  have HS7 := Lib.hid (HS6.out.below (Nat.lt_succ_self _) hb8)
  have HB7 := Lib.hid (HB6.out.trans (hb8.mono (Nat.le_succ _)))
  have HZ7 : Hid (s + 1 ≤ w8.heap.size) := Lib.hid (Nat.le_trans HZ6.out hb8.size)
  clear hm8 hg8 hb8 HM6 HS6 HB6 HZ6 HRB
  obtain ⟨c0, c1⟩ := HCS.out _ _ HS7.out
  obtain ⟨d0, d1, d2, d3, d4⟩ := HCR2.out _ _ HS7.out
  go_wp2_with fail
  refine (rlaid1 (s + 1) _ _ C 2 w8 HM7.out HZ7.out (by rw [List.length_append, HAL.out, ar]; omega) (by omega) (by omega) (by omega) (by omega)).mono ?_
  rintro e w9 ⟨v9, rfl, hm, hb⟩
  have HM8 := Lib.hid hm
  have HS8 := Lib.hid (HS7.out.below (Nat.lt_succ_self _) hb)
  have HB8 := Lib.hid (HB7.out.trans (hb.mono (Nat.le_succ _)))
  have HZ8 : Hid (s + 1 ≤ w9.heap.size) := Lib.hid (Nat.le_trans HZ7.out hb.size)
  clear hm hb HM7 HS7 HB7 HZ7 c0 c1 d0 d1 d2 d3 d4
  have d4 := (HCR2.out _ _ HS8.out).2.2.2.2
  cases hgn : x.ros.gone
  · have HF := HNO hgn
    rw [hgn] at d4
    have HMA := Lib.hid (HM8.out.below ((Below.refl _ w9).alloc (Nat.le_refl _) (.cells #[.int .u8 0] 5)))
    have HRA := Lib.hid (rd_new w9 [0] #[.int .u8 0] rfl)
    have HZA : Hid (s + 1 ≤ (w9.alloc (.cells #[.int .u8 0] 5)).heap.size) := Lib.hid (by have := HZ8.out; simp only [World.size_alloc]; omega)
    have HBA := Lib.hid (HB8.out.alloc (Nat.le_trans (Nat.le_succ s) HZ8.out) (.cells #[.int .u8 0] 5))
    clear HYES HNO hgn
    go_wp2_with (first | (refine dd rfl _ _ rfl (s + 1) _ 1 1 _ _ [0] _ rfl rfl HMA.out HRA.out HZA.out ?_ ?_) | fail)
    · rw [List.length_append, List.length_append, HAL.out, ar, ar]; omega
    intro v10 w10 hm10 hg10
    rw [← HA.out] at hm10
    have hF := HF.out
    simp only [List.append_assoc] at hF
    simp only [List.nil_append, List.append_assoc] at hm10
    rw [hF] at hm10
    clear hF
    have HM10 := Lib.hid hm10
    have HB10 := Lib.hid (HBA.out.grown hg10 (Nat.le_trans (Nat.le_succ s) HZA.out) (fun k hk => Nat.le_trans (Nat.le_succ s) (HMA.out.lt k hk).1))
    clear hm10 hg10
    go_wp2_with fail
    go_ret
    exact ⟨_, rfl, by rw [HSD.out]; exact HM10.out.base (Nat.le_succ _), by rw [HSD.out]; exact HB10.out⟩
  · have HF := HYES hgn
    rw [hgn] at d4
    have HMA := Lib.hid (HM8.out.below ((Below.refl _ w9).alloc (Nat.le_refl _) (.cells #[.int .u8 1] 5)))
    have HRA := Lib.hid (rd_new w9 [1] #[.int .u8 1] rfl)
    have HZA : Hid (s + 1 ≤ (w9.alloc (.cells #[.int .u8 1] 5)).heap.size) := Lib.hid (by have := HZ8.out; simp only [World.size_alloc]; omega)
    have HBA := Lib.hid (HB8.out.alloc (Nat.le_trans (Nat.le_succ s) HZ8.out) (.cells #[.int .u8 1] 5))
    clear HYES HNO hgn
    go_wp2_with (first | (refine dd rfl _ _ rfl (s + 1) _ 1 1 _ _ [1] _ rfl rfl HMA.out HRA.out HZA.out ?_ ?_) | fail)
    · rw [List.length_append, List.length_append, HAL.out, ar, ar]; omega
    intro v10 w10 hm10 hg10
    rw [← HA.out] at hm10
    have hF := HF.out
    simp only [List.append_assoc] at hF
    simp only [List.nil_append, List.append_assoc] at hm10
    rw [hF] at hm10
    clear hF
    have HM10 := Lib.hid hm10
    have HB10 := Lib.hid (HBA.out.grown hg10 (Nat.le_trans (Nat.le_succ s) HZA.out) (fun k hk => Nat.le_trans (Nat.le_succ s) (HMA.out.lt k hk).1))
    clear hm10 hg10
    go_wp2_with fail
    go_ret
    exact ⟨_, rfl, by rw [HSD.out]; exact HM10.out.base (Nat.le_succ _), by rw [HSD.out]; exact HB10.out⟩
theorem set_tail (y : Ros) (j : Nat) (v : Value) : (vals y.st.toList ++ [Value.int .i64 y.cur, Value.bool y.gone]).set (16 + j) v = vals y.st.toList ++ [Value.int .i64 y.cur, Value.bool y.gone].set j v := by
  rw [List.set_append_right _ _ (by simp [aT])]
  congr 2
  simp [aT]
theorem celS_mk (id : Nat) (self m s r : Int) (st : Vector UInt8 16) (cur : Int) (gone : Bool) : aL ⟨id, self, ⟨m, s, r, st, cur, gone⟩⟩ = Value.int .u64 id :: Value.int .i64 self :: Value.int .i64 m :: Value.int .i64 s :: Value.int .i64 r :: (vals st.toList ++ [Value.int .i64 cur, Value.bool gone]) := rfl
section
variable (y : Sup)
theorem setS_id (n : Nat) : (aL y).set 0 (.int .u64 n) = aL { y with id := n } := rfl
theorem setS_self (n : Int) : (aL y).set 1 (.int .i64 n) = aL { y with self := n } := rfl
theorem setS_m (n : Int) : (aL y).set 2 (.int .i64 n) = aL { y with ros := { y.ros with m := n } } := rfl
theorem setS_s (n : Int) : (aL y).set 3 (.int .i64 n) = aL { y with ros := { y.ros with s := n } } := rfl
theorem setS_r (n : Int) : (aL y).set 4 (.int .i64 n) = aL { y with ros := { y.ros with r := n } } := rfl
theorem setS_cur (n : Int) : (aL y).set 21 (.int .i64 n) = aL { y with ros := { y.ros with cur := n } } := by
  show Value.int .u64 y.id :: Value.int .i64 y.self :: Value.int .i64 y.ros.m :: Value.int .i64 y.ros.s :: Value.int .i64 y.ros.r :: (vals y.ros.st.toList ++ [Value.int .i64 y.ros.cur, Value.bool y.ros.gone]).set (16 + 0) (.int .i64 n) = _
  rw [set_tail]
  rfl
theorem setS_gone (b : Bool) : (aL y).set 22 (.bool b) = aL { y with ros := { y.ros with gone := b } } := by
  show Value.int .u64 y.id :: Value.int .i64 y.self :: Value.int .i64 y.ros.m :: Value.int .i64 y.ros.s :: Value.int .i64 y.ros.r :: (vals y.ros.st.toList ++ [Value.int .i64 y.ros.cur, Value.bool y.ros.gone]).set (16 + 1) (.bool b) = _
  rw [set_tail]
  rfl
theorem splS_st {l : List UInt8} (h : l.length = 16) : splice (aL y) 5 (vals l) = aL { y with ros := { y.ros with st := ofSt l } } := by
  obtain ⟨id, self, m, s, r, st, cur, gone⟩ := y
  show splice (aL ⟨id, self, ⟨m, s, r, st, cur, gone⟩⟩) 5 (vals l) = aL ⟨id, self, ⟨m, s, r, ofSt l, cur, gone⟩⟩
  have h2 : (vals st.toList).length = 16 := by simp [aT]
  rw [celS_mk, celS_mk, dK h]
  generalize vals st.toList = z at *
  unfold splice
  rw [aT, h, show 5 + 16 = 16 + 1 + 1 + 1 + 1 + 1 from rfl]
  simp only [List.drop_succ_cons, List.take_succ_cons, List.take_zero]
  rw [List.drop_append_of_le_length (by omega), List.drop_of_length_le (by omega)]
  rfl
end
theorem bx.set {w : World} {s j : Nat} {y y' : Sup} {v : Value} (h : bx w s y) (e : (aL y).set j v = aL y') : bx (w.setCell ⟨s, j, none⟩ v) s y' := by
  have := heap_setCell_same w s j (aL y).toArray 62 v h
  rw [List.setIfInBounds_toArray, e] at this
  exact this
theorem bx.free {w : World} {s : Nat} {y : Sup} (h : bx w s y) (j : Nat) : w.frozen? ⟨s, j, none⟩ = false := frozen_of_row w s j _ _ h
theorem wpList_copyC {w : World} {ops : Array Oper} {rest : List Oper} {o : Oper} {a : Act} {Q : Exit → Act → World → Prop} (hgd : o.guard = none) (d s : Operand)
    (ho : o.op = .call { callee := .builtin .copy, args := #[d, s], argTypes := #[100, 100] }) (g off n c c' N : Nat) (A : Option Addr) (t : TypeId) (cs : List Value) (x : List UInt8)
    (hd : a.eval d = .slice (some ⟨g, off, none⟩) n c) (hs : a.eval s = .slice A n c') (hS : w.heap[g]? = some (.cells cs.toArray t (0, 0))) (hr : Rd w N A n x) (hn : 0 < n) (hfit : off + n ≤ cs.length)
    (h : ∀ w', w'.heap[g]? = some (.cells (splice cs off (vals x)).toArray t (0, 0)) → w.grownBy w' (some g) → wpList Tryz.prog ops Q rest (a.put o.dst (goInt n)) w') : wpList Tryz.prog ops Q (o :: rest) a w := by
  have hx := hr.1
  obtain ⟨ad, rfl⟩ : ∃ ad, A = some ad := by
    obtain ⟨b, off, e, _⟩ := hr.2 0 hn
    exact ⟨_, e⟩
  have hcl : (vals x).length = n := by rw [aT, hx]
  refine wpList_copy_own hgd d s _ _ ho 5 Tryz.underlying100 (by kernel_rfl) g off n c ad n c' hd hs _ t hS (vals x) (by rw [hcl]; exact (Nat.min_self n).symm) (fun j v hj => ?_) (by simp [hcl]; omega) (vals_one x) ?_
  · have hlt : j < n := by have := (List.getElem?_eq_some_iff.1 hj).1; omega
    obtain ⟨b, o2, e, _, hc⟩ := hr.2 j hlt
    injection e with e
    subst e
    rw [Addr.add_mid, hc, ← hj, er (by omega)]
  · have hrow := setRow_heap w g cs.toArray (cs.toArray.toList.take off ++ (vals x ++ cs.toArray.toList.drop (off + (vals x).length))).toArray t (0, 0) hS
    have e : cs.toArray.toList.take off ++ (vals x ++ cs.toArray.toList.drop (off + (vals x).length)) = splice cs off (vals x) := rfl
    rw [hcl]
    rw [hcl] at hrow e
    refine h _ ?_ ⟨rfl, rfl, rfl, by simp [World.setRow], fun k hk hne => setRow_other w g k _ (fun e => hne (by rw [e]))⟩
    rw [e] at hrow ⊢
    exact hrow
structure TelW (B : Nat) (w0 w : World) (g : Nat) (l : List UInt8) (s r nb p q k : Nat) (y : Sup) : Prop where
  row : bK w g 5 l
  sup : bx w s y
  res : bx w r a7
  nxt : w.heap[nb]? = some (.cells #[onwV p q] 167 (0, 0))
  cut : CutAt w p q (.slice (some ⟨g, 0, none⟩) 44 44) k
  bel : Below B w0 w
  p0 : B ≤ p
  s0 : B ≤ s
  dif : g ≠ p ∧ s ≠ p ∧ r ≠ p ∧ nb ≠ p ∧ p ≠ q ∧ g ≠ s ∧ r ≠ s ∧ nb ≠ s ∧ p ≠ s ∧ q ≠ s
section
variable {B : Nat} {w0 w w' : World} {g s r nb p q k k' : Nat} {l : List UInt8} {y y' : Sup}
theorem TelW.keep (h : TelW B w0 w g l s r nb p q k y) (hb : Below w.heap.size w w') (hB : B ≤ w0.heap.size) : TelW B w0 w' g l s r nb p q k y :=
  ⟨am h.row hb, am h.sup hb, am h.res hb, am h.nxt hb, ⟨am h.cut.1 hb, am h.cut.2 hb⟩, h.bel.trans (hb.mono (Nat.le_trans hB h.bel.size)), h.p0, h.s0, h.dif⟩
theorem TelW.step (h : TelW B w0 w g l s r nb p q k y) (hc : CutAt w' p q (.slice (some ⟨g, 0, none⟩) 44 44) k') (hg : w.grownBy w' (some p)) (hB : B ≤ w0.heap.size) : TelW B w0 w' g l s r nb p q k' y := by
  obtain ⟨d1, d2, d3, d4, d5, d6, d7, d8, d9, d10⟩ := h.dif
  exact ⟨bF h.row hg d1, bF h.sup hg d2, bF h.res hg d3, bF h.nxt hg d4, hc, h.bel.grown hg (Nat.le_trans hB h.bel.size) (fun k hk => by injection hk with e; have := h.p0; omega), h.p0, h.s0, h.dif⟩
theorem TelW.put (h : TelW B w0 w g l s r nb p q k y) (hs : bx w' s y') (hg : w.grownBy w' (some s)) (hB : B ≤ w0.heap.size) : TelW B w0 w' g l s r nb p q k y' := by
  obtain ⟨d1, d2, d3, d4, d5, d6, d7, d8, d9, d10⟩ := h.dif
  exact ⟨bF h.row hg d6, hs, bF h.res hg d7, bF h.nxt hg d8, ⟨bF h.cut.1 hg d9, bF h.cut.2 hg d10⟩, h.bel.grown hg (Nat.le_trans hB h.bel.size) (fun k hk => by injection hk with e; have := h.s0; omega), h.p0, h.s0, h.dif⟩
theorem TelW.set (h : TelW B w0 w g l s r nb p q k y) (j : Nat) (v : Value) (e : (aL y).set j v = aL y') (hB : B ≤ w0.heap.size) : TelW B w0 (w.setCell ⟨s, j, none⟩ v) g l s r nb p q k y' :=
  h.put (h.sup.set e) (dU w s j v) hB
end
set_option maxHeartbeats 1000000 in
theorem tell1 (B : Nat) (w0 w : World) (g : Nat) (l : List UInt8) (s r nb p q k n : Nat) (y : Sup) (h : TelW B w0 w g l s r nb p q k y) (hB : B ≤ w0.heap.size) (hl : l.length = 44) (h1 : 1 ≤ n) (h2 : n ≤ 8) (hk : k + n ≤ 44) :
    Calls Tryz.prog 160 #[.int .i64 n, .pointer (some ⟨nb, 0, none⟩)] w fun e w' => e = .returned (.int .u64 (val 8 (piece l k n) : Nat)) ∧ TelW B w0 w' g l s r nb p q (k + n) y := by
  have HH := Lib.hid h
  have HL := Lib.hid hl
  have HP := Lib.hid (dW (b := piece l k n) (n := n) (bJ (by omega)))
  have c0 := (cell1 h.nxt).1
  unfold onwV at c0
  clear h hl
  go_enter Tryz.func160, Tryz.ntmps160
  go_wp2_with fail
  refine (onw1 p q g 0 44 44 k n w HH.out.cut HH.out.dif.2.2.2.2.1 h1 hk (Nat.le_refl _) (by omega)).mono ?_
  rintro e w1 ⟨rfl, hc, hg⟩
  have H1 := Lib.hid (HH.out.step hc hg hB)
  clear hc hg c0 HH
  have HRD := Lib.hid (H1.out.row.rd (p := k) (k := n) (by rw [HL.out]; omega))
  go_wp2_with fail
  refine (get_ok _ n n _ (piece l k n) 0 n w1 HRD.out (by unfold maxLen; omega) h1 h2 (by omega)).mono ?_
  rintro e w2 ⟨rfl, rfl⟩
  rw [HP.out]
  obtain ⟨v, hv⟩ : ∃ v, val 8 (piece l k n) = v := ⟨_, rfl⟩
  rw [hv]
  have HV := Lib.hid hv
  clear hv
  go_wp2_with fail
  go_ret
  exact ⟨by rw [HV.out]; rfl, H1.out⟩
end Go.Proofs.YtnliphgjcaippaaGreatDoor
