import Derived.Test.YtbbcdhkinbmdnaaGreatDoorLoba
import Derived.Test.YtbbcdhkinbmdnaaGreatDoorLoag
import Derived.Test.YtbbcdhkinbmdnaaGreatDoorLoaw
import Derived.Test.YtbbcdhkinbmdnaaGreatDoorLoZ
namespace Go.Proofs.YtbbcdhkinbmdnaaGreatDoor
open Go.RowKit
set_option linter.unusedVariables false
set_option linter.unusedSimpArgs false
set_option maxRecDepth 100000
def pJ (w : World) (G : Nat → Prop) (q p : Nat) (M : BenS) (x : LgS) : Prop := ∃ v Gb, bw.Bn w Gb q M ∧ PLg w p q v x ∧ (∀ b, ch p v b → ¬ Gb b) ∧ (G = fun b => Gb b ∨ ch p v b) ∧ x.own ≠ 0 ∧ 1 ≤ x.fst
theorem pJ.start {w : World} {G : Nat → Prop} {q p : Nat} {M : BenS} {x : LgS} (h : pJ w G q p M x) (hT : TbG w G) : ∃ v, PJ w G (fun _ => False) w p q v M x ∧ x.own ≠ 0 ∧ 1 ≤ x.fst := by
 obtain ⟨v, Gb, h1, h2, h3, rfl, h4⟩ := h
 exact ⟨v, PJ.start h1 h2 h3 hT, h4⟩
theorem PJ.end_ {w0 w : World} {H : Nat → Prop} {p q : Nat} {v : Value} {M : BenS} {x : LgS} (h : PJ w0 H (fun _ => False) w p q v M x) (ho : x.own ≠ 0) (hf : 1 ≤ x.fst) : ∃ G, pJ w G q p M x ∧ Only H w0 w ∧ Grow w0 H G := by
 obtain ⟨G, h1, h2, h3, h4, h5, _⟩ := h
 exact ⟨_, ⟨v, G, h1, h2, h3, rfl, ho, hf⟩, h4, h5⟩
theorem PJ.first {w w1 : World} {G : Nat → Prop} {q : Nat} {M : BenS} {x : LgS} (hb : bw.Bn w G q M) (hT : TbG w G) (hw : Below w.heap.size w w1) (hx : x.nts = []) :
  PJ (w1.alloc (.cells (plgC q (.slice none 0 0) x).toArray 80)) (fun b => G b ∨ ch w1.heap.size (.slice none 0 0) b) (fun _ => False) (w1.alloc (.cells (plgC q (.slice none 0 0) x).toArray 80)) w1.heap.size q (.slice none 0 0) M x := by
 have hlt := bw.lt hb
 have hs := hw.size
 have hw2 : Below w.heap.size w (w1.alloc (.cells (plgC q (.slice none 0 0) x).toArray 80)) := hw.alloc hs _
 refine PJ.start (bw.below hb hw2) ⟨heap_alloc_new w1 _, by rw [hx]; exact aH.nil _ _⟩ (fun b hb' hg => ?_) ⟨hT.t.below hw2, fun b h1 h2 => ?_⟩
 ·have := hlt b hg
  rcases hb' with rfl | e
  ·omega
  ·simp [Value.ownBlock] at e
 ·have := hT.t.lt h1
  rcases h2 with h2 | rfl | e
  ·exact hT.off b h1 h2
  ·omega
  ·simp [Value.ownBlock] at e
theorem PNew.of {w w1 w' : World} {G H : Nat → Prop} {p q : Nat} {v v0 : Value} {M' : BenS} {x : LgS} {E : Int} {e : Ending} (hb : Below w.heap.size w w1) (hH : ∀ b, H b → G b ∨ ch p v0 b) (hp : ∀ b, ch p v0 b → w.heap.size ≤ b) (h : PJ w1 H (fun _ => False) w' p q v M' x)
  (hE : (E = 0 ∧ e = .returned (.tuple #[.pointer (some ⟨p, 0, none⟩), .int .i64 0]) ∧ x.own ≠ 0 ∧ 1 ≤ x.fst) ∨ (E ≠ 0 ∧ e = .returned (.tuple #[.pointer none, .int .i64 E]))) {x' : LgS} (hx : E = 0 → x = x') : PNew bw.Bn pJ w G q E M' x' e w' := by
 obtain ⟨G', h1, h2, h3, h4, h5, _⟩ := h
 have hs := hb.size
 have ho : Only G w w' := (Only.of_below G hb).trans h4 fun b hb' => (hH b hb').imp id (hp b)
 have hg : ∀ b, (G' b ∨ ch p v b) → G b ∨ w.heap.size ≤ b := fun b hb' => by
  rcases h5 b hb' with e | e
  ·exact (hH b e).imp id (hp b)
  ·exact .inr (by omega)
 rcases hE with ⟨e1, e2, e3, e4⟩ | ⟨e1, e2⟩
 ·rw [← hx e1]
  exact ⟨_, ho, hg, .inl ⟨e1, p, e2, ⟨v, G', h1, h2, h3, rfl, e3, e4⟩⟩⟩
 ·exact ⟨G', ho, fun b hb' => hg b (.inl hb'), .inr ⟨e1, e2, h1⟩⟩
theorem PNew.same {w w' : World} {G : Nat → Prop} {q : Nat} {E : Int} {M : BenS} {x : LgS} {e : Ending} (hb : bw.Bn w G q M) (hw : Below w.heap.size w w') (hE : E ≠ 0) (he : e = .returned (.tuple #[.pointer none, .int .i64 E])) : PNew bw.Bn pJ w G q E M x e w' :=
 ⟨G, Only.of_below _ hw, Grow.same _ _, .inr ⟨hE, he, bw.below hb hw⟩⟩
theorem run_bldMk3 {w : World} (id : Nat) (r : Int) : (Instr.build 32 #[(0, .int .u64 (id : Int)), (1, .int .i64 r), (2, .int .u64 1)]).run Tryz.prog w = .ok (mrk ⟨id, r, 1, 0⟩) w := by kernel_rfl
theorem run_bldLgP {w : World} {q : Nat} {d r : Int} {id : Nat} : (Instr.build 80 #[(0, .pointer (some ⟨q, 0, none⟩)), (1, .int .i64 d), (2, .int .u64 1), (3, mrk ⟨id, r, 1, 0⟩)]).run Tryz.prog w = .ok (.agg #[.pointer (some ⟨q, 0, none⟩), .int .i64 d, .int .u64 1, .int .u64 (id : Int), .int .i64 r, .int .u64 1, .int .u64 0, .slice none 0 0]) w := by kernel_rfl
section
variable {ρ : Operand → Value} {o : Oper} {x1 x2 x3 x4 : Operand} {w : World} {q : Nat} {d r : Int} {id : Nat}
theorem exec_bldMk3 (id : Nat) (r : Int) (ho : o.op = .build 32 #[(0, x1), (1, x2), (2, x3)]) (h1 : ρ x1 = .int .u64 (id : Int)) (h2 : ρ x2 = .int .i64 r) (h3 : ρ x3 = .int .u64 1) : (execOp ρ o).run Tryz.prog w = .ok (.value (mrk ⟨id, r, 1, 0⟩)) w := by
 unfold execOp
 simp only [ho, h1, h2, h3, List.map_toArray, List.map_cons, List.map_nil, Sem.run_bind, run_bldMk3, Result.andThen_ok, Sem.run_pure]
theorem exec_bldLgP (ho : o.op = .build 80 #[(0, x1), (1, x2), (2, x3), (3, x4)]) (h1 : ρ x1 = .pointer (some ⟨q, 0, none⟩)) (h2 : ρ x2 = .int .i64 d) (h3 : ρ x3 = .int .u64 1) (h4 : ρ x4 = mrk ⟨id, r, 1, 0⟩) :
  (execOp ρ o).run Tryz.prog w = .ok (.value (.agg #[.pointer (some ⟨q, 0, none⟩), .int .i64 d, .int .u64 1, .int .u64 (id : Int), .int .i64 r, .int .u64 1, .int .u64 0, .slice none 0 0])) w := by
 unfold execOp
 simp only [ho, h1, h2, h3, h4, List.map_toArray, List.map_cons, List.map_nil, Sem.run_bind, run_bldLgP, Result.andThen_ok, Sem.run_pure]
theorem exec_boxLgP {v : Value} {x : LgS} {y : Operand} (ho : o.op = .box 80 y) (hx : ρ y = .agg (plgC q v x).toArray) : (execOp ρ o).run Tryz.prog w = .ok (.value (.pointer (some ⟨w.heap.size, 0, none⟩))) (w.alloc (.cells (plgC q v x).toArray 80)) := el ho hx
end
theorem lay_no {M : BenS} {d : Int} {id : Nat} {r : Int} (h : ¬ (dq ⟨id, r, 1, 0⟩ = true ∧ r ≤ bO M d - 10)) : layE M d id r = 2 ∧ layB M d id r = M := by
 have e : ¬ layQ M d id r = true := fun e => by
  obtain ⟨a1, a2, a3, a4, a5⟩ := of_decide_eq_true e
  exact h ⟨decide_eq_true ⟨a2, a3, a4, Nat.le_refl _, by show 1 ≤ 4611686018427387904; omega, by show 0 ≤ 4611686018427387904; omega⟩, by omega⟩
 exact ⟨if_neg e, if_neg e⟩
theorem lay_yes {M : BenS} {d : Int} {id : Nat} {r : Int} (h : dq ⟨id, r, 1, 0⟩ = true) (h2 : r ≤ bO M d - 10) : layE M d id r = goE d M (layT id r) ∧ layB M d id r = goB d M (layT id r) ∧ id ≠ 0 ∧ 40 ≤ r ∧ r ≤ 256 ∧ 0 ≤ d := by
 obtain ⟨a1, a2, a3, _⟩ := of_mrkB h
 have a1' : id ≠ 0 := a1
 have a2' : 40 ≤ r := a2
 have hh : dV M d = 0 := by
  by_cases e : dV M d = 0
  ·exact e
  ·have : bO M d = 0 := by unfold bO; rw [if_neg e]
   omega
 have hd : 0 ≤ d := by
  rcases e9 M d with ⟨e, _⟩ | ⟨_, k, rfl, _⟩
  ·omega
  ·omega
 have e : layQ M d id r = true := decide_eq_true ⟨hh, a1, a2, a3, by omega⟩
 exact ⟨if_pos e, if_pos e, a1, a2, a3, hd⟩
theorem pllay_no {w : World} {G : Nat → Prop} {q : Nat} {M : BenS} (d : Int) (id : Nat) (r : Int) (hb : bw.Bn w G q M) (hT : TbG w G) (hr : Room M 13) (hid : id < 18446744073709551616) (hno : ¬ (dq ⟨id, r, 1, 0⟩ = true ∧ r ≤ bO M d - 10)) : Calls Tryz.prog 55 #[.pointer (some ⟨q, 0, none⟩), .int .i64 d, .int .u64 (id : Nat), .int .i64 r] w (PNew bw.Bn pJ w G q (layE M d id r) (layB M d id r) (layX d id r)) := by
 obtain ⟨g1, g2⟩ := lay_no hno
 rw [g1, g2]
 have HB := af hb
 go_enter Tryz.func55, Tryz.ntmps55
 go_upto_region 1 with fail
 refine ag ?_
 refine ai rfl (aj rfl (ev rfl)) ?_;simp only [aa]
 refine ar rfl (av Tryz.call26 rfl (evc (ev rfl) evn)) ?_
 refine (pbmade HB.out).mono ?_
 rintro e w1 ⟨rfl, hb1⟩
 refine ⟨_, rfl, ?_⟩
 simp only [aa]
 refine ai (v := .bool false) rfl (bf true rfl (ev rfl)) ?_;simp only [aa]
 refine ah ?_
 have HB1 := af hb1
 clear hb1
 go_upto_region 3 with fail
 refine ag ?_
 refine ai rfl (aj rfl (ev rfl)) ?_;simp only [aa]
 refine ai rfl (aj rfl (ev rfl)) ?_;simp only [aa]
 refine ai rfl (exec_bldMk3 id r rfl (ev rfl) (ev rfl) evk) ?_;simp only [aa]
 refine ai rfl (bG rfl) ?_;simp only [aa]
 refine az rfl (cX (c := ⟨id, r, 1, 0⟩) rfl (ev rfl) (ev rfl)) ?_;simp only [aa]
 refine ah ?_
 by_cases hm : dq ⟨id, r, 1, 0⟩ = true
 ·have H1 := af hm
  have H2 : Hid (decide (bO M d - 10 < r) = true) := af (decide_eq_true (by
   rcases Int.lt_or_le (bO M d - 10) r with h | h
   ·exact h
   ·exact absurd ⟨hm, h⟩ hno))
  clear hb hT hr hid hno hm g1 g2
  obtain ⟨k1, k2, k3⟩ := eZ w1 ⟨id, r, 1, 0⟩
  have HM := af k1
  have HB2 := af (HB1.out.trans (k2.mono HB1.out.size))
  have HLE := af k3
  have HW1 : Hid (w.heap.size ≤ w1.heap.size) := af HB1.out.size
  clear k1 k2 k3
  generalize w1.alloc (.cells (a8 ⟨id, r, 1, 0⟩).toArray 32) = w2 at *
  generalize w1.heap.size = mb at *
  have HB22 := af (bw.below HB.out HB2.out)
  go_upto_region 4 with fail
  refine aI (B := w2.heap.size) (by kernel_rfl) ?_
  refine ao rfl (fun w' hw => bk rfl (ev rfl) (HM.out.below HLE.out hw).range) ?_;simp only [aa]
  refine a9 rfl (fun _ => av Tryz.call99 rfl (evc (ev rfl) evn)) (aW (Nat.le_refl _) fun w' hw => (pmmay_b ⟨id, r, 1, 0⟩ w' H1.out)) ?_;simp only [aa]
  refine ao (v := .bool false) rfl (fun w' hw => bf true rfl (ev rfl)) ?_;simp only [aa]
  refine ao (v := .bool false) rfl (fun w' hw => aj rfl (ev rfl)) ?_;simp only [aa]
  refine ao gr (fun w' hw => am rfl (ev rfl) faM1) ?_;simp only [aa]
  refine ao gr (fun w' hw => au rfl (ev rfl) (bj (HM.out.below HLE.out hw).cells.2.1)) ?_;simp only [aa]
  refine ao gr (fun w' hw => aj rfl (ev rfl)) ?_;simp only [aa]
  refine ao gr (fun w' hw => aj rfl (ev rfl)) ?_;simp only [aa]
  refine a9 gr (fun _ => av Tryz.call27 rfl (evc (ev rfl) (evc (ev rfl) evn))) (aW (Nat.le_refl _) fun w' hw => (proom d (bw.below HB22.out hw))) ?_;simp only [aa]
  refine ao (v := .bool true) gr (fun w' hw => bp true rfl (ev rfl) (ev rfl) H2.out) ?_;simp only [aa]
  refine ao (v := .bool true) rfl (fun w' hw => aE rfl (ev rfl) (ev rfl)) ?_;simp only [aa]
  refine wpQuiet_nil ?_
  intro w3 hw
  have HB3 := af (HB2.out.trans (hw.mono HB2.out.size))
  go_wp2_with fail
  go_ret2
  exact PNew.same HB.out HB3.out (by decide) rfl
 ·have H1 : Hid (dq ⟨id, r, 1, 0⟩ = false) := af (by simpa using hm)
  clear hb hT hr hid hno hm g1 g2
  obtain ⟨k1, k2, k3⟩ := eZ w1 ⟨id, r, 1, 0⟩
  have HM := af k1
  have HB2 := af (HB1.out.trans (k2.mono HB1.out.size))
  have HLE := af k3
  have HW1 : Hid (w.heap.size ≤ w1.heap.size) := af HB1.out.size
  clear k1 k2 k3
  generalize w1.alloc (.cells (a8 ⟨id, r, 1, 0⟩).toArray 32) = w2 at *
  generalize w1.heap.size = mb at *
  have HB22 := af (bw.below HB.out HB2.out)
  go_upto_region 4 with fail
  refine aI (B := w2.heap.size) (by kernel_rfl) ?_
  refine ao rfl (fun w' hw => bk rfl (ev rfl) (HM.out.below HLE.out hw).range) ?_;simp only [aa]
  refine a9 rfl (fun _ => av Tryz.call99 rfl (evc (ev rfl) evn)) (aW (Nat.le_refl _) fun w' hw => (pmmay_b ⟨id, r, 1, 0⟩ w' H1.out)) ?_;simp only [aa]
  refine ao (v := .bool true) rfl (fun w' hw => bf false rfl (ev rfl)) ?_;simp only [aa]
  refine cI 6 (v := .bool true) rfl (fun w' hw => aj rfl (ev rfl)) (by kernel_rfl) ?_
  simp only [aJ, ae, aa]
  refine ao (v := .bool true) rfl (fun w' hw => aG rfl (ev rfl) evk) ?_;simp only [aa]
  refine wpQuiet_nil ?_
  intro w3 hw
  have HB3 := af (HB2.out.trans (hw.mono HB2.out.size))
  go_wp2_with fail
  go_ret2
  exact PNew.same HB.out HB3.out (by decide) rfl
set_option maxHeartbeats 2000000 in
theorem pllay_go {w : World} {G : Nat → Prop} {q : Nat} {M : BenS} (d : Int) (id : Nat) (r : Int) (hb : bw.Bn w G q M) (hT : TbG w G) (hr : Room M 13) (hid : id < 18446744073709551616) (hm : dq ⟨id, r, 1, 0⟩ = true) (h2 : r ≤ bO M d - 10) : Calls Tryz.prog 55 #[.pointer (some ⟨q, 0, none⟩), .int .i64 d, .int .u64 (id : Nat), .int .i64 r] w (PNew bw.Bn pJ w G q (layE M d id r) (layB M d id r) (layX d id r)) := by
 obtain ⟨g1, g2, g3, g4, g5, g6⟩ := lay_yes hm h2
 rw [g1, g2]
 obtain ⟨dn, rfl⟩ : ∃ dn : Nat, d = (dn : Int) := ⟨d.toNat, by omega⟩
 obtain ⟨rn, rfl⟩ : ∃ rn : Nat, r = (rn : Int) := ⟨r.toNat, by omega⟩
 have HX : Hid (layX (dn : Int) id (rn : Int) = ⟨dn, id, rn, 1, 1, 0, []⟩) := af (by unfold layX; rw [Int.toNat_natCast, Int.toNat_natCast])
 rw [HX.out]
 have HLT : Hid (layT id (rn : Int) = zerT ++ [.fl, .wr (eJ 1) (aN.pB ⟨1, ⟨id, (rn : Int), 1, 0⟩⟩), .fl]) := af (by unfold layT mkT; rw [Int.toNat_natCast])
 have HPE : Hid (aN.pE ⟨1, ⟨id, (rn : Int), 1, 0⟩⟩ = 0) := af (aN.pE_ok (by rw [dM, Bool.and_eq_true]; exact ⟨decide_eq_true ⟨by show 1 ≤ 1; omega, by show 1 ≤ 4611686018427387904; omega⟩, hm⟩))
 have HFT : Hid ((⟨id, (rn : Int), 1, 0⟩ : Mrk).fit) := af ⟨hid, by show 1 < 18446744073709551616; omega, by show 0 < 18446744073709551616; omega⟩
 have H1 := af hm
 have H2 : Hid (decide (bO M (dn : Int) - 10 < (rn : Int)) = false) := af (decide_eq_false (by omega))
 have HB := af hb
 have HT := af hT
 have HR := af hr
 have HID := af g3
 obtain ⟨m, hmd⟩ : ∃ m : Mrk, (⟨id, (rn : Int), 1, 0⟩ : Mrk) = m := ⟨_, rfl⟩
 have HMD := af hmd
 clear hb hT hr hid hm h2 g1 g2 g3 g4 g5 g6 HX hmd
 go_enter Tryz.func55, Tryz.ntmps55
 go_upto_region 1 with fail
 refine ag ?_
 refine ai rfl (aj rfl (ev rfl)) ?_;simp only [aa]
 refine ar rfl (av Tryz.call26 rfl (evc (ev rfl) evn)) ?_
 refine (pbmade HB.out).mono ?_
 rintro e w1 ⟨rfl, hb1⟩
 refine ⟨_, rfl, ?_⟩
 simp only [aa]
 refine ai (v := .bool false) rfl (bf true rfl (ev rfl)) ?_;simp only [aa]
 refine ah ?_
 have HB1 := af hb1
 clear hb1
 go_upto_region 3 with fail
 refine ag ?_
 refine ai rfl (aj rfl (ev rfl)) ?_;simp only [aa]
 refine ai rfl (aj rfl (ev rfl)) ?_;simp only [aa]
 refine ai rfl (exec_bldMk3 id (rn : Int) rfl (ev rfl) (ev rfl) evk) ?_;simp only [aa]
 refine ai rfl (bG rfl) ?_;simp only [aa]
 refine az rfl (cX (c := ⟨id, (rn : Int), 1, 0⟩) rfl (ev rfl) (ev rfl)) ?_;simp only [aa]
 refine ah ?_
 obtain ⟨k1, k2, k3⟩ := eZ w1 ⟨id, (rn : Int), 1, 0⟩
 have HM := af k1
 have HB2 := af (HB1.out.trans (k2.mono HB1.out.size))
 have HLE := af k3
 have HW1 : Hid (w.heap.size ≤ w1.heap.size) := af HB1.out.size
 clear k1 k2 k3
 generalize w1.alloc (.cells (a8 ⟨id, (rn : Int), 1, 0⟩).toArray 32) = w2 at *
 generalize w1.heap.size = mb at *
 have HB22 := af (bw.below HB.out HB2.out)
 go_upto_region 4 with fail
 refine aI (B := w2.heap.size) (by kernel_rfl) ?_
 refine ao rfl (fun w' hw => bk rfl (ev rfl) (HM.out.below HLE.out hw).range) ?_;simp only [aa]
 refine a9 rfl (fun _ => av Tryz.call99 rfl (evc (ev rfl) evn)) (aW (Nat.le_refl _) fun w' hw => (pmmay_b ⟨id, (rn : Int), 1, 0⟩ w' H1.out)) ?_;simp only [aa]
 refine ao (v := .bool false) rfl (fun w' hw => bf true rfl (ev rfl)) ?_;simp only [aa]
 refine ao (v := .bool false) rfl (fun w' hw => aj rfl (ev rfl)) ?_;simp only [aa]
 refine ao gr (fun w' hw => am rfl (ev rfl) faM1) ?_;simp only [aa]
 refine ao gr (fun w' hw => au rfl (ev rfl) (bj (HM.out.below HLE.out hw).cells.2.1)) ?_;simp only [aa]
 refine ao gr (fun w' hw => aj rfl (ev rfl)) ?_;simp only [aa]
 refine ao gr (fun w' hw => aj rfl (ev rfl)) ?_;simp only [aa]
 refine a9 gr (fun _ => av Tryz.call27 rfl (evc (ev rfl) (evc (ev rfl) evn))) (aW (Nat.le_refl _) fun w' hw => (proom (dn : Int) (bw.below HB22.out hw))) ?_;simp only [aa]
 refine ao (v := .bool false) gr (fun w' hw => bp false rfl (ev rfl) (ev rfl) H2.out) ?_;simp only [aa]
 refine ao (v := .bool false) rfl (fun w' hw => aE rfl (ev rfl) (ev rfl)) ?_;simp only [aa]
 refine wpQuiet_nil ?_
 intro w3 hw
 have HB3 := af (HB2.out.trans (hw.mono HB2.out.size))
 have HM3 := af (HM.out.below HLE.out hw)
 have HLE3 : Hid (mb < w3.heap.size) := af (Nat.lt_of_lt_of_le HLE.out hw.size)
 clear hw HM HLE HB22 HB2
 go_upto_region 6 with fail
 refine ag ?_
 refine ai rfl (aj rfl (ev rfl)) ?_;simp only [aa]
 refine ai rfl (aj rfl (ev rfl)) ?_;simp only [aa]
 refine ai rfl (bk (c := ⟨id, (rn : Int), 1, 0⟩) rfl (ev rfl) HM3.out.range) ?_;simp only [aa]
 refine ai rfl (exec_bldLgP rfl (ev rfl) (ev rfl) evk (ev rfl)) ?_;simp only [aa]
 refine ai rfl (exec_boxLgP (q := q) (v := .slice none 0 0) (x := ⟨dn, id, rn, 1, 1, 0, []⟩) rfl (ev rfl)) ?_;simp only [aa]
 refine ai rfl (aq rfl (ev rfl)) ?_;simp only [aa]
 refine ah ?_
 have HJ4 := af (PJ.first (x := ⟨dn, id, rn, 1, 1, 0, []⟩) HB.out HT.out HB3.out rfl)
 have HB4 := af (HB3.out.alloc HB3.out.size (.cells (plgC q (.slice none 0 0) ⟨dn, id, rn, 1, 1, 0, []⟩).toArray 80))
 have HM4 := af (HM3.out.past (.cells (plgC q (.slice none 0 0) ⟨dn, id, rn, 1, 1, 0, []⟩).toArray 80))
 have HZ4 : Hid (w3.heap.size < (w3.alloc (.cells (plgC q (.slice none 0 0) ⟨dn, id, rn, 1, 1, 0, []⟩).toArray 80)).heap.size) := af (by rw [World.size_alloc]; omega)
 have HPW : Hid (w.heap.size ≤ w3.heap.size) := af HB3.out.size
 generalize w3.alloc (.cells (plgC q (.slice none 0 0) ⟨dn, id, rn, 1, 1, 0, []⟩).toArray 80) = w4 at *
 have HML : Hid (mb < w4.heap.size) := af (Nat.lt_trans HLE3.out HZ4.out)
 clear HM3 HB3 HLE3
 generalize w3.heap.size = p at *
 obtain ⟨x, hx⟩ : ∃ x : LgS, (⟨dn, id, rn, 1, 1, 0, []⟩ : LgS) = x := ⟨_, rfl⟩
 have HXD := af (show x.d = dn ∧ x.own = id ∧ x.fst = 1 from by rw [← hx]; exact ⟨rfl, rfl, rfl⟩)
 rw [hx] at HJ4 ⊢
 have HXE := af hx
 rw [HMD.out] at HM4 HPE HFT HLT
 clear hx
 go_upto_region 7 with fail
 refine ag ?_
 refine ai rfl (aj rfl (ev rfl)) ?_;simp only [aa]
 refine ar rfl (av Tryz.call100 rfl (evc (ev rfl) evn)) ?_
 refine (plblanking w4 p).mono ?_
 rintro e w6 ⟨r0, rfl, hla⟩
 have HLY := af hla
 have HM6 := af (HM4.out.below HML.out hla.bel)
 clear hla
 refine ⟨_, rfl, ?_⟩
 simp only [aa]
 refine ai rfl (aq rfl (ev rfl)) ?_;simp only [aa]
 refine ah ?_
 go_upto_region 8 with fail
 refine ag ?_
 refine ai rfl (aj rfl (ev rfl)) ?_;simp only [aa]
 refine ai rfl (aj rfl (ev rfl)) ?_;simp only [aa]
 refine ai rfl (fd rfl (ev rfl)) ?_;simp only [aa]
 refine ai rfl (aj rfl (ev rfl)) ?_;simp only [aa]
 refine ai rfl (bk (c := m) rfl (ev rfl) HM6.out.range) ?_;simp only [aa]
 refine ar rfl (av Tryz.call96 rfl (evc (ev rfl) (evc evk (evc (ev rfl) evn)))) ?_
 refine (pmarking (p := p) (w := w6) 1 m (by omega) HFT.out HPE.out).mono ?_
 rintro e w7 ⟨s, rfl, hs, hb7⟩
 have HLY7 := af (HLY.out.below hb7)
 have HS7 := af (hs.below (B' := w4.heap.size) (C' := w7.heap.size) (Nat.le_refl _) (Below.refl _ _) HLY.out.bel.size (Nat.le_refl _))
 clear hs hb7
 refine ⟨_, rfl, ?_⟩
 simp only [aa]
 refine ai rfl (aj rfl (ev rfl)) ?_;simp only [aa]
 refine ai rfl (fd rfl (ev rfl)) ?_;simp only [aa]
 refine ai rfl (exec_mk3F (s1 := flF p) (s2 := s) (s3 := flF p) rfl (ev rfl) (ev rfl) (ev rfl)) ?_;simp only [aa]
 have HAL := af ((Below.refl w7.heap.size w7).alloc (Nat.le_refl _) (.cells #[(flF p).val, s.val, (flF p).val] 134))
 have HLY8 := af (HLY7.out.below HAL.out)
 have HST8 : Hid (Stps (Btw w4.heap.size (w7.alloc (.cells #[(flF p).val, s.val, (flF p).val] 134)).heap.size) (w7.alloc (.cells #[(flF p).val, s.val, (flF p).val] 134)) p [flF p, s, flF p] [.fl, .wr (eJ 1) (aN.pB ⟨1, m⟩), .fl]) := af ⟨.fl, HS7.out.below (Nat.le_refl _) HAL.out (Nat.le_refl _) HAL.out.size, .fl, trivial⟩
 refine gd (ts' := [.fl, .wr (eJ 1) (aN.pB ⟨1, m⟩), .fl]) rfl _ _ rfl (w7.heap.size + 1) 3 3 (some ⟨w7.heap.size, 0, none⟩) rfl rfl HLY8.out HST8.out (rdF_new3 w7 (flF p) s (flF p)) (by show 10 + 3 ≤ 1000000; omega) ?_
 intro v9 w9 hl9 hg9
 simp only [aa]
 refine ai rfl (aq rfl (ev rfl)) ?_;simp only [aa]
 refine ah ?_
 rw [← HLT.out] at hl9
 obtain ⟨l9, hm9, hst9, hll⟩ := hl9.len
 have hlt9 : l9.length = 13 := by rw [hll, HLT.out]; rfl
 obtain ⟨g9, c9, rfl, hb9, hg9', _, _⟩ := hm9.slice_ (by omega)
 have hrd9 := hm9.rd
 rw [hlt9] at hm9 hrd9 ⊢
 have HJ9 := af (HJ4.out.guard (K' := Btw w4.heap.size w9.heap.size) hl9.bel (fun b e => .inr e))
 have HCH := af (ptaken (some ⟨g9, 0, none⟩) 13 c9 w9.heap.size l9 w9 (Btw w4.heap.size w9.heap.size) _ hrd9 (Nat.le_refl _) (by omega) (fun b off e => by injection e with e; injection e with e1 e2; subst e1; exact ⟨hb9, hg9'⟩) (chn_go (wK := w9) (fun _ e => e) _ _ hst9 HJ9.out (fun _ _ => rfl) (room_more HR.out (by rw [← hll, hlt9]; exact Nat.le_refl _))))
 rw [HXD.out.1] at HCH
 clear hl9 hg9 hm9 hst9 hll hlt9 hb9 hg9' hrd9 HM4 HM6 HLY HLY7 HLY8 HST8 HS7 HAL HJ9 HZ4 HML
 go_upto_region 9 with fail
 refine ag ?_
 refine ai rfl (aj rfl (ev rfl)) ?_;simp only [aa]
 refine ar rfl (av Tryz.call28 rfl (evc (ev rfl) evn)) ?_
 refine HCH.out.mono ?_
 rintro e w10 ⟨E, rfl, hE, hj10, _⟩
 have HJ10 := af (hj10.less (K' := fun _ => False) fun _ e => e.elim)
 clear hj10 HCH
 refine ⟨_, rfl, ?_⟩
 simp only [aa]
 refine ai rfl (aq rfl (ev rfl)) ?_;simp only [aa]
 refine ah ?_
 have HPF : Hid (∀ b, ch p (.slice none 0 0) b → w.heap.size ≤ b) := af fun b e => by
  rcases e with rfl | e
  ·exact HPW.out
  ·simp [Value.ownBlock] at e
 by_cases h0 : E = 0
 ·subst h0
  have HEE := af hE
  clear hE
  go_wp2_with fail
  go_ret2
  rw [← HEE.out]
  (try rw [HXE.out])
  exact PNew.of HB4.out (fun b e => e) HPF.out HJ10.out (.inl ⟨rfl, rfl, by rw [HXD.out.2.1]; exact HID.out, by rw [HXD.out.2.2]; exact Nat.le_refl _⟩) fun _ => rfl
 ·have hne : (E != 0) = true := by simpa using h0
  have HEE := af hE
  clear hE
  go_wp2_with fail
  go_ret2
  rw [← HEE.out]
  (try rw [HXE.out])
  exact PNew.of HB4.out (fun b e => e) HPF.out HJ10.out (.inr ⟨h0, rfl⟩) fun _ => rfl
theorem pllay {w : World} {G : Nat → Prop} {q : Nat} {M : BenS} (d : Int) (id : Nat) (r : Int) (hb : bw.Bn w G q M) (hT : TbG w G) (hr : Room M 13) (hid : id < 18446744073709551616) : Calls Tryz.prog 55 #[.pointer (some ⟨q, 0, none⟩), .int .i64 d, .int .u64 (id : Nat), .int .i64 r] w (PNew bw.Bn pJ w G q (layE M d id r) (layB M d id r) (layX d id r)) := by
 by_cases h : dq ⟨id, r, 1, 0⟩ = true ∧ r ≤ bO M d - 10
 ·exact pllay_go d id r hb hT hr hid h.1 h.2
 ·exact pllay_no d id r hb hT hr hid h
theorem three_newM (w : World) (a b : Blk) : (((w.alloc (.cells (cel a).toArray 29)).alloc (.cells (cel b).toArray 29)).alloc (.cells (a8 br).toArray 32)).rangeAt w.heap.size 0 (cel a) ∧
  (((w.alloc (.cells (cel a).toArray 29)).alloc (.cells (cel b).toArray 29)).alloc (.cells (a8 br).toArray 32)).rangeAt (w.heap.size + 1) 0 (cel b) ∧
  (((w.alloc (.cells (cel a).toArray 29)).alloc (.cells (cel b).toArray 29)).alloc (.cells (a8 br).toArray 32)).there (w.heap.size + 1 + 1) 0 4 ∧
  Below w.heap.size w (((w.alloc (.cells (cel a).toArray 29)).alloc (.cells (cel b).toArray 29)).alloc (.cells (a8 br).toArray 32)) ∧ w.heap.size + 1 + 1 < (((w.alloc (.cells (cel a).toArray 29)).alloc (.cells (cel b).toArray 29)).alloc (.cells (a8 br).toArray 32)).heap.size := by
 have e1 := World.size_alloc (w := w) (o := Obj.cells (cel a).toArray 29)
 have e2 := World.size_alloc (w := (w.alloc (.cells (cel a).toArray 29))) (o := Obj.cells (cel b).toArray 29)
 have h3 := bP.new ((w.alloc (.cells (cel a).toArray 29)).alloc (.cells (cel b).toArray 29)) br
 rw [e2, e1] at h3
 refine ⟨World.rangeAt_alloc (World.rangeAt_alloc (cf w (cel a) _) _) _, ?_, h3.there, ?_, aK h3⟩
 ·rw [← e1]; exact World.rangeAt_alloc (cf _ (cel b) _) _
 ·exact (((Below.refl _ w).alloc (Nat.le_refl _) _).alloc (by omega) _).alloc (by omega) _
set_option maxHeartbeats 4000000 in
theorem pmnew (a b : Blk) (w : World) (T : TabM w) : Calls Tryz.prog 69 #[blk a, blk b] w fun e w' => e = .returned (.tuple #[.int .u64 ((aN.nX a b).n : Nat), mrk (aN.nX a b).m, .int .i64 (aN.nE a b : Nat)]) ∧ Below w.heap.size w w' := by
 obtain ⟨h1, h2, h3, h4, h5⟩ := three_newM w a b
 obtain ⟨x, hx⟩ : ∃ x, aN.gN a = x := ⟨_, rfl⟩
 obtain ⟨y, hy⟩ : ∃ y, aN.gN b = y := ⟨_, rfl⟩
 obtain ⟨p, hp⟩ : ∃ p, (aN.gX a).m = p := ⟨_, rfl⟩
 obtain ⟨q, hq⟩ : ∃ q, (aN.gX b).m = q := ⟨_, rfl⟩
 obtain ⟨ea, hea⟩ : ∃ e, aN.gE a = e := ⟨_, rfl⟩
 obtain ⟨eb, heb⟩ : ∃ e, aN.gE b = e := ⟨_, rfl⟩
 have HX := af hx
 have HY := af hy
 have HP := af hp
 have HQ := af hq
 have HEA := af hea
 have HEB := af heb
 have hxa := aN.gN_zero (b := a)
 have hxb := aN.gN_zero (b := b)
 rw [hx, hea] at hxa
 rw [hy, heb] at hxb
 have HXA := af hxa
 have HXB := af hxb
 clear hx hy hp hq hea heb hxa hxb
 have HNN : Hid ((aN.nX a b).n = if x < y then y else x) := af (by
  unfold Cod.nX
  rw [HX.out, HY.out]
  split
  ·exact HY.out
  ·exact HX.out)
 have HNS : Hid ((aN.nX a b).m = if x < y then q else p) := af (by
  unfold Cod.nX
  rw [HX.out, HY.out]
  split
  ·exact HQ.out
  ·exact HP.out)
 have HNE : Hid (aN.nE a b = if x = 0 ∧ y = 0 then 7 else 0) := af (by unfold Cod.nE; rw [HX.out, HY.out])
 have HPZ : Hid (x = 0 → p = br) := af fun h => by rw [← HP.out, aN.gX_no (aN.gN_zero.1 (HX.out.trans h))]; rfl
 have HT := af (T.below h4)
 clear T
 have HA := af h1
 have HBK := af h2
 have HR := af h3
 have HB := af h4
 have HZ := af h5
 clear h1 h2 h3 h4 h5
 go_enter Tryz.func69, Tryz.ntmps69
 go_wp2_with (first | (refine ai rfl (bE rfl rfl) ?_) | (refine ai rfl (bG rfl) ?_) | (refine ai rfl (aS (c := a) rfl rfl ?_) ?_; (with_reducible exact HA.out)) | fail)
 try simp only [World.size_alloc]
 generalize ((w.alloc (.cells (cel a).toArray 29)).alloc (.cells (cel b).toArray 29)).alloc (.cells (a8 br).toArray 32) = w0 at *
 refine (pmget a w0 HT.out).mono ?_
 rintro e w1 ⟨rfl, hb⟩
 rw [HX.out, HP.out, HEA.out]
 have hb1 := hb.alloc hb.size (.cells (a8 p).toArray 32)
 have HBK1 := af (dR HBK.out (by have := HZ.out; omega) hb1)
 have HR1 := af (aO HR.out HZ.out hb1)
 have HB1 := af (HB.out.trans (hb1.mono HB.out.size))
 have HPA := af (bP.new w1 p)
 have HZ1 : Hid (w.heap.size + 1 + 1 < (w1.alloc (.cells (a8 p).toArray 32)).heap.size) := af (Nat.lt_of_lt_of_le HZ.out hb1.size)
 have HT1 := af (HT.out.below hb1)
 clear hb hb1 HA HBK HB HZ HR
 go_upto_region 2 with (first | (refine ai rfl (bG rfl) ?_) | (refine az rfl (cX rfl rfl rfl) ?_) | fail)
 generalize w1.alloc (.cells (a8 p).toArray 32) = w2 at *
 go_wp2_with (first | (refine ai rfl (aS (c := b) rfl rfl ?_) ?_; (with_reducible exact HBK1.out)) | fail)
 refine (pmget b w2 HT1.out).mono ?_
 rintro e w3 ⟨rfl, hb⟩
 rw [HY.out, HQ.out, HEB.out]
 have hb3 := hb.alloc hb.size (.cells (a8 q).toArray 32)
 have HB4 := af (HB1.out.trans (hb3.mono HB1.out.size))
 have HR4 := af (aO HR1.out HZ1.out hb3)
 have HPR := af (HPA.out.below (aK HPA.out) hb3).range
 have HQR := af (bP.new w3 q).range
 clear hb hb3 HBK1 HB1 HR1 HPA HZ1
 go_upto_region 3 with (first | (refine ai rfl (bG rfl) ?_) | (refine az rfl (cX rfl rfl rfl) ?_) | fail)
 generalize w3.alloc (.cells (a8 q).toArray 32) = w4 at *
 by_cases k0 : x = 0
 ·have HXQ : Hid (((x : Int) == 0) = true) := af (by simp; omega)
  have HPZ2 := af (HPZ.out k0)
  by_cases k1 : y = 0
  ·have HYQ : Hid (((y : Int) == 0) = true) := af (by simp; omega)
   rw [if_neg (by omega)] at HNN HNS
   rw [if_pos (by omega)] at HNE
   rw [k0] at HNN
   rw [HPZ2.out] at HNS
   clear k0 k1
   refine ag ?_
   refine ai rfl (aj rfl (ev rfl)) ?_;simp only [aa]
   refine ai (v := .bool true) rfl (aP true rfl (ev rfl) evk HXQ.out) ?_;simp only [aa]
   refine ai (v := .bool true) rfl (aj rfl (ev rfl)) ?_;simp only [aa]
   refine al gr (aj rfl (ev rfl)) ?_;simp only [aa]
   refine al (v := .bool true) gr (aP true rfl (ev rfl) evk HYQ.out) ?_;simp only [aa]
   refine ai (v := .bool true) rfl (aG rfl (ev rfl) (ev rfl)) ?_;simp only [aa]
   refine ai (v := .bool true) rfl (aq rfl (ev rfl)) ?_;simp only [aa]
   refine ah ?_
   go_wp2_with (first | (refine ai rfl (d8 rfl) ?_) | (refine az rfl (b7 (c := br) rfl rfl rfl ?_) ?_; (with_reducible exact HR4.out)) | fail)
   refine bodyPost_ret (de (t := 32) (cs := a8 br) rfl _ _ _ rfl ?h1 Tryz.underlying32 rfl ?h2) rfl ⟨by rw [HNE.out, HNN.out, HNS.out]; rfl, ?h3⟩
   case h1 => exact World.rangeAt_setCells_same _ _ _ _ HR4.out
   case h2 => exact ec
   case h3 => exact below_setCells HB4.out (by omega) _
  ·have HYQ : Hid (((y : Int) == 0) = false) := af (by simp; omega)
   rw [if_neg (by omega)] at HNE
   clear k1
   refine ag ?_
   refine ai rfl (aj rfl (ev rfl)) ?_;simp only [aa]
   refine ai (v := .bool true) rfl (aP true rfl (ev rfl) evk HXQ.out) ?_;simp only [aa]
   refine ai (v := .bool true) rfl (aj rfl (ev rfl)) ?_;simp only [aa]
   refine al gr (aj rfl (ev rfl)) ?_;simp only [aa]
   refine al (v := .bool false) gr (aP false rfl (ev rfl) evk HYQ.out) ?_;simp only [aa]
   refine ai (v := .bool false) rfl (aG rfl (ev rfl) (ev rfl)) ?_;simp only [aa]
   refine ai (v := .bool false) rfl (aq rfl (ev rfl)) ?_;simp only [aa]
   refine ah ?_
   go_upto_region 5 with fail
   by_cases hlt : x < y
   ·have HGT : Hid (decide ((x : Int) < (y : Int)) = true) := af (decide_eq_true (by omega))
    rw [if_pos hlt] at HNN HNS
    clear k0 hlt
    refine ag ?_
    refine ai rfl (aj rfl (ev rfl)) ?_;simp only [aa]
    refine ai rfl (aj rfl (ev rfl)) ?_;simp only [aa]
    refine ai (v := .bool true) rfl (bp true rfl (ev rfl) (ev rfl) HGT.out) ?_;simp only [aa]
    refine ai (v := .bool true) rfl (aq rfl (ev rfl)) ?_;simp only [aa]
    refine ah ?_
    go_wp2_with fail
    refine wp_region_still_tail 3 (by kernel_rfl) (by kernel_rfl) ?_
    simp only [ae]
    refine aF rfl (aj rfl (ev rfl)) ?_;simp only [aa]
    refine aF rfl (bk (c := q) rfl (ev rfl) HQR.out) ?_;simp only [aa]
    refine aF rfl (aq rfl (ev rfl)) ?_;simp only [aa]
    refine wpStill_nil ?_
    change wpList _ _ _ _ _ (World.drew _)
    refine aV rfl (b7 (c := q) rfl (ev rfl) (ev rfl) HR4.out) ?_;simp only [aa]
    refine al rfl (aq rfl evk) ?_;simp only [aa]
    refine ah ?_
    go_wp2_with fail
    refine bodyPost_ret (de (t := 32) (cs := a8 q) rfl _ _ _ rfl ?h1 Tryz.underlying32 rfl ?h2) rfl ⟨by rw [HNE.out, HNN.out, HNS.out]; rfl, ?h3⟩
    case h1 => exact World.rangeAt_setCells_same _ _ _ _ HR4.out
    case h2 => exact ec
    case h3 => exact below_setCells (bd HB4.out) (by omega) _
   ·have HGT : Hid (decide ((x : Int) < (y : Int)) = false) := af (decide_eq_false (by omega))
    rw [if_neg hlt] at HNN HNS
    clear k0 hlt
    refine ag ?_
    refine ai rfl (aj rfl (ev rfl)) ?_;simp only [aa]
    refine ai rfl (aj rfl (ev rfl)) ?_;simp only [aa]
    refine ai (v := .bool false) rfl (bp false rfl (ev rfl) (ev rfl) HGT.out) ?_;simp only [aa]
    refine ai (v := .bool false) rfl (aq rfl (ev rfl)) ?_;simp only [aa]
    refine ah ?_
    go_wp2_with fail
    refine wp_region_still_tail 3 (by kernel_rfl) (by kernel_rfl) ?_
    simp only [ae]
    refine aF rfl (aj rfl (ev rfl)) ?_;simp only [aa]
    refine aF rfl (bk (c := p) rfl (ev rfl) HPR.out) ?_;simp only [aa]
    refine aF rfl (aq rfl (ev rfl)) ?_;simp only [aa]
    refine wpStill_nil ?_
    change wpList _ _ _ _ _ (World.drew _)
    refine aV rfl (b7 (c := p) rfl (ev rfl) (ev rfl) HR4.out) ?_;simp only [aa]
    refine al rfl (aq rfl evk) ?_;simp only [aa]
    refine ah ?_
    go_wp2_with fail
    refine bodyPost_ret (de (t := 32) (cs := a8 p) rfl _ _ _ rfl ?h1 Tryz.underlying32 rfl ?h2) rfl ⟨by rw [HNE.out, HNN.out, HNS.out]; rfl, ?h3⟩
    case h1 => exact World.rangeAt_setCells_same _ _ _ _ HR4.out
    case h2 => exact ec
    case h3 => exact below_setCells (bd HB4.out) (by omega) _
 ·have HXQ : Hid (((x : Int) == 0) = false) := af (by simp; omega)
  rw [if_neg (by omega)] at HNE
  refine ag ?_
  refine ai rfl (aj rfl (ev rfl)) ?_;simp only [aa]
  refine ai (v := .bool false) rfl (aP false rfl (ev rfl) evk HXQ.out) ?_;simp only [aa]
  refine aC 2 (v := .bool false) rfl (aj rfl (ev rfl)) (by kernel_rfl) ?_
  simp only [aJ, ae, aa]
  refine ai (v := .bool false) rfl (aE rfl (ev rfl) evk) ?_;simp only [aa]
  refine ai (v := .bool false) rfl (aq rfl (ev rfl)) ?_;simp only [aa]
  refine ah ?_
  go_upto_region 5 with fail
  by_cases hlt : x < y
  ·have HGT : Hid (decide ((x : Int) < (y : Int)) = true) := af (decide_eq_true (by omega))
   rw [if_pos hlt] at HNN HNS
   clear k0 hlt
   refine ag ?_
   refine ai rfl (aj rfl (ev rfl)) ?_;simp only [aa]
   refine ai rfl (aj rfl (ev rfl)) ?_;simp only [aa]
   refine ai (v := .bool true) rfl (bp true rfl (ev rfl) (ev rfl) HGT.out) ?_;simp only [aa]
   refine ai (v := .bool true) rfl (aq rfl (ev rfl)) ?_;simp only [aa]
   refine ah ?_
   go_wp2_with fail
   refine wp_region_still_tail 3 (by kernel_rfl) (by kernel_rfl) ?_
   simp only [ae]
   refine aF rfl (aj rfl (ev rfl)) ?_;simp only [aa]
   refine aF rfl (bk (c := q) rfl (ev rfl) HQR.out) ?_;simp only [aa]
   refine aF rfl (aq rfl (ev rfl)) ?_;simp only [aa]
   refine wpStill_nil ?_
   change wpList _ _ _ _ _ (World.drew _)
   refine aV rfl (b7 (c := q) rfl (ev rfl) (ev rfl) HR4.out) ?_;simp only [aa]
   refine al rfl (aq rfl evk) ?_;simp only [aa]
   refine ah ?_
   go_wp2_with fail
   refine bodyPost_ret (de (t := 32) (cs := a8 q) rfl _ _ _ rfl ?h1 Tryz.underlying32 rfl ?h2) rfl ⟨by rw [HNE.out, HNN.out, HNS.out]; rfl, ?h3⟩
   case h1 => exact World.rangeAt_setCells_same _ _ _ _ HR4.out
   case h2 => exact ec
   case h3 => exact below_setCells (bd HB4.out) (by omega) _
  ·have HGT : Hid (decide ((x : Int) < (y : Int)) = false) := af (decide_eq_false (by omega))
   rw [if_neg hlt] at HNN HNS
   clear k0 hlt
   refine ag ?_
   refine ai rfl (aj rfl (ev rfl)) ?_;simp only [aa]
   refine ai rfl (aj rfl (ev rfl)) ?_;simp only [aa]
   refine ai (v := .bool false) rfl (bp false rfl (ev rfl) (ev rfl) HGT.out) ?_;simp only [aa]
   refine ai (v := .bool false) rfl (aq rfl (ev rfl)) ?_;simp only [aa]
   refine ah ?_
   go_wp2_with fail
   refine wp_region_still_tail 3 (by kernel_rfl) (by kernel_rfl) ?_
   simp only [ae]
   refine aF rfl (aj rfl (ev rfl)) ?_;simp only [aa]
   refine aF rfl (bk (c := p) rfl (ev rfl) HPR.out) ?_;simp only [aa]
   refine aF rfl (aq rfl (ev rfl)) ?_;simp only [aa]
   refine wpStill_nil ?_
   change wpList _ _ _ _ _ (World.drew _)
   refine aV rfl (b7 (c := p) rfl (ev rfl) (ev rfl) HR4.out) ?_;simp only [aa]
   refine al rfl (aq rfl evk) ?_;simp only [aa]
   refine ah ?_
   go_wp2_with fail
   refine bodyPost_ret (de (t := 32) (cs := a8 p) rfl _ _ _ rfl ?h1 Tryz.underlying32 rfl ?h2) rfl ⟨by rw [HNE.out, HNN.out, HNS.out]; rfl, ?h3⟩
   case h1 => exact World.rangeAt_setCells_same _ _ _ _ HR4.out
   case h2 => exact ec
   case h3 => exact below_setCells (bd HB4.out) (by omega) _
end Go.Proofs.YtbbcdhkinbmdnaaGreatDoor
