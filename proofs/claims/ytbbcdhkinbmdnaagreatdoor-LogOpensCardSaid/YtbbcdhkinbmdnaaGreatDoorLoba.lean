import Derived.Test.YtbbcdhkinbmdnaaGreatDoorLoay
import Derived.Test.YtbbcdhkinbmdnaaGreatDoorLoaz
import Derived.Test.YtbbcdhkinbmdnaaGreatDoorLoao
import Derived.Test.YtbbcdhkinbmdnaaGreatDoorLoam
import Derived.Laws.MakeOwn
import Derived.Test.YtbbcdhkinbmdnaaGreatDoorLoZ
namespace Go.Proofs.YtbbcdhkinbmdnaaGreatDoor
open Go.RowKit
set_option linter.unusedVariables false
set_option linter.unusedSimpArgs false
set_option maxRecDepth 100000
section
variable {ρ : Operand → Value} {o : Oper} {x1 x2 x3 : Operand} {w : World} {s1 s2 s3 : Fv}
theorem run_mk2F : (Instr.buildSlice 82 2 #[(0, s1.val), (1, s2.val)]).run Tryz.prog w = .ok (.slice (some ⟨w.heap.size, 0, none⟩) 2 2) (w.alloc (.cells #[s1.val, s2.val] 134)) := by kernel_rfl
theorem run_mk3F : (Instr.buildSlice 82 3 #[(0, s1.val), (1, s2.val), (2, s3.val)]).run Tryz.prog w = .ok (.slice (some ⟨w.heap.size, 0, none⟩) 3 3) (w.alloc (.cells #[s1.val, s2.val, s3.val] 134)) := by kernel_rfl
theorem exec_mk2F (ho : o.op = .buildSlice 82 2 #[(0, x1), (1, x2)]) (h1 : ρ x1 = s1.val) (h2 : ρ x2 = s2.val) : (execOp ρ o).run Tryz.prog w = .ok (.value (.slice (some ⟨w.heap.size, 0, none⟩) 2 2)) (w.alloc (.cells #[s1.val, s2.val] 134)) := by
 unfold execOp
 simp only [ho, h1, h2, List.map_toArray, List.map_cons, List.map_nil, Sem.run_bind, run_mk2F, Result.andThen_ok, Sem.run_pure]
theorem exec_mk3F (ho : o.op = .buildSlice 82 3 #[(0, x1), (1, x2), (2, x3)]) (h1 : ρ x1 = s1.val) (h2 : ρ x2 = s2.val) (h3 : ρ x3 = s3.val) : (execOp ρ o).run Tryz.prog w = .ok (.value (.slice (some ⟨w.heap.size, 0, none⟩) 3 3)) (w.alloc (.cells #[s1.val, s2.val, s3.val] 134)) := by
 unfold execOp
 simp only [ho, h1, h2, h3, List.map_toArray, List.map_cons, List.map_nil, Sem.run_bind, run_mk3F, Result.andThen_ok, Sem.run_pure]
theorem rdF_new2 (w : World) (s1 s2 : Fv) : RdE FnE (w.alloc (.cells #[s1.val, s2.val] 134)) (w.heap.size + 1) (some ⟨w.heap.size, 0, none⟩) 2 [s1, s2] := eF (E := FnE) (l := [s1, s2]) w #[s1.val, s2.val] 134 rfl
theorem rdF_new3 (w : World) (s1 s2 s3 : Fv) : RdE FnE (w.alloc (.cells #[s1.val, s2.val, s3.val] 134)) (w.heap.size + 1) (some ⟨w.heap.size, 0, none⟩) 3 [s1, s2, s3] := eF (E := FnE) (l := [s1, s2, s3]) w #[s1.val, s2.val, s3.val] 134 rfl
theorem fd {y : Operand} {f : FuncId} {v : Value} (ho : o.op = .makeFunc (.func f) #[y] #[]) (hy : ρ y = v) : (execOp ρ o).run Tryz.prog w = .ok (.value (.func (.func f) #[v] #[])) w := by
 unfold execOp
 simp [ho, hy, run_mkFn]
theorem exec_stU {x y : Operand} {g j : Nat} {a b : Int} (ho : o.op = .store 30 x y) (hx : ρ x = .pointer (some ⟨g, j, none⟩)) (hy : ρ y = .int .u64 a) (hc : w.cell? ⟨g, j, none⟩ = some (.int .u64 b)) (hf : w.frozen? ⟨g, j, none⟩ = false) : (execOp ρ o).run Tryz.prog w = .ok .skip (w.setCell ⟨g, j, none⟩ (.int .u64 a)) :=
 fD ho hx hy (by simp [go_sem, hc, hf])
end
def flF (p : Nat) : Fv := ⟨86, [ptr p], [], Tryz.call86⟩
theorem bP.frz {w : World} {b : Nat} {m : Mrk} (h : bP w b m) (j : Nat) : w.frozen? ⟨b, j, none⟩ = false := frozen_of_row w b j _ _ h
theorem bP.set2 {w : World} {b f : Nat} {m : Mrk} (h : bP w b m) : bP (w.setCell ⟨b, 2, none⟩ (.int .u64 (f : Int))) b { m with first := f } := heap_setCell_same w b 2 _ _ _ h
theorem bP.set3 {w : World} {b f : Nat} {m : Mrk} (h : bP w b m) : bP (w.setCell ⟨b, 3, none⟩ (.int .u64 (f : Int))) b { m with pos := f } := heap_setCell_same w b 3 _ _ _ h
theorem clr_no' {M : BenS} {x : LgS} {f : Nat} (h : ¬ (x.fst ≤ f ∧ f ≤ x.next)) : clrE M x f = 2 ∧ clrB M x f = M ∧ clrX M x f = x := by
 have e : ¬ clrQ x f = true := fun e => h (of_decide_eq_true e)
 have e1 : clrE M x f = 2 := if_neg e
 exact ⟨e1, if_neg e, by unfold clrX; rw [e1]; rfl⟩
theorem clr_go' {M : BenS} {x : LgS} {f : Nat} (h : x.fst ≤ f ∧ f ≤ x.next) : clrE M x f = goE x.d M (mkT x.own x.size (x.cnt + 1) f (x.at_ f)) ∧ clrB M x f = goB x.d M (mkT x.own x.size (x.cnt + 1) f (x.at_ f)) := by
 have e : clrQ x f = true := decide_eq_true h
 exact ⟨if_pos e, if_pos e⟩
theorem clr_mark {M : BenS} {x : LgS} {N f : Nat} (hk : LgOk M x N) (h : x.fst ≤ f ∧ f ≤ x.next) (h1 : x.own ≠ 0) (h2 : 1 ≤ f) : aN.pE ⟨x.cnt + 1, ⟨x.own, (x.size : Int), f, x.at_ f⟩⟩ = 0 ∧ (⟨x.own, (x.size : Int), f, x.at_ f⟩ : Mrk).fit := by
 obtain ⟨s1, s2⟩ := hk.siz
 have ho := hk.own
 have hc := hk.cnt
 have hn := hk.nxt
 have hd := hk.hed
 have hl := hk.lim
 have hat : x.at_ f ≤ x.head := by
  unfold LgS.at_ LgS.head LgS.used
  have := fL x.nts (f - x.fst)
  omega
 have hf : (⟨x.own, (x.size : Int), f, x.at_ f⟩ : Mrk).fit := ⟨ho, by show f < _; omega, by show x.at_ f < _; omega⟩
 refine ⟨aN.pE_ok ?_, hf⟩
 rw [dM, Bool.and_eq_true]
 exact ⟨decide_eq_true ⟨by show 1 ≤ x.cnt + 1; omega, by show x.cnt + 1 ≤ _; omega⟩, decide_eq_true ⟨h1, by show (40 : Int) ≤ (x.size : Int); omega, by show (x.size : Int) ≤ 256; omega, h2, by show f ≤ _; omega, by show x.at_ f ≤ _; omega⟩⟩
theorem fo (w : World) (p o : Nat) (vs : List Value) : Only (fun b => b = p) w (w.setCells p o vs) := by
 obtain ⟨e1, e2, e3, e4⟩ := ft p vs o w
 exact ⟨e2, e3, e4, Nat.le_of_eq e1.symm, fun b hb hne => cY p vs o w b hne⟩
theorem eu (w : World) (p o : Nat) (u : Value) : Only (fun b => b = p) w (w.setCell ⟨p, o, none⟩ u) := fo w p o [u]
structure PLo (w : World) (p q : Nat) (v : Value) (d c : Nat) (m : Mrk) (l : List Nte) : Prop where
 at_ : w.heap[p]? = some (.cells (ploC q v d c m).toArray 80 (0, 0))
 row : aH aY w 0 v l
theorem PLg.to {w : World} {p q : Nat} {v : Value} {x : LgS} (h : PLg w p q v x) : PLo w p q v x.d x.cnt x.mark x.nts := ⟨h.at_, h.row⟩
theorem PLo.to {w : World} {p q : Nat} {v : Value} {x : LgS} (h : PLo w p q v x.d x.cnt x.mark x.nts) : PLg w p q v x := ⟨h.at_, h.row⟩
theorem PLo.setm {w : World} {p q d c0 c : Nat} {v : Value} {m0 m : Mrk} {l : List Nte} (h : PLo w p q v d c0 m0 l) : PLo ((w.setCell ⟨p, 2, none⟩ (.int .u64 (c : Int))).setCells p 3 (a8 m)) p q v d c m l := by
 have h1 := heap_setCell_same w p 2 _ _ (.int .u64 (c : Int)) h.at_
 have h2 := heap_put p 80 [v] (a8 m) (a8 m0) [ptr q, .int .i64 (d : Int), .int .u64 (c : Int)] _ rfl h1
 refine ⟨h2, h.row.only ((eu w p 2 (.int .u64 (c : Int))).trans (fo _ p 3 (a8 m)) fun _ e => .inl e) fun b hb e => ?_⟩
 subst e
 exact h.row.dc h.at_ (by decide) hb
theorem Only.wide {F G : Nat → Prop} {a b : World} (h : Only F a b) (hw : ∀ k, F k → G k) : Only G a b := ⟨h.os, h.tape, h.output, h.size, fun k hk hn => h.block k hk fun e => hn (hw k e)⟩
theorem PLo.setn {w : World} {p q d c : Nat} {v v' : Value} {m : Mrk} {l' : List Nte} (h : w.heap[p]? = some (.cells (ploC q v d c m).toArray 80 (0, 0))) (hm : aH aY w 0 v' l') : PLo (w.setCell ⟨p, 7, none⟩ v') p q v' d c m l' := by
 refine ⟨heap_setCell_same w p 7 _ _ v' h, hm.only (eu w p 7 v') fun b hb e => ?_⟩
 subst e
 exact hm.dc h (by decide) hb
theorem exec_stN {ρ : Operand → Value} {o : Oper} {y z : Operand} {w : World} {g j n c n' c' : Nat} {A A' : Option Addr} (ho : o.op = .store 78 y z) (hx : ρ y = .pointer (some ⟨g, j, none⟩)) (hy : ρ z = .slice A n c) (hc : w.cell? ⟨g, j, none⟩ = some (.slice A' n' c')) (hf : w.frozen? ⟨g, j, none⟩ = false) : (execOp ρ o).run Tryz.prog w = .ok .skip (w.setCell ⟨g, j, none⟩ (.slice A n c)) :=
 fD ho hx hy (by simp [go_sem, hc, hf])
theorem plclear_no {w0 w : World} {H : Nat → Prop} {p q N : Nat} {v : Value} {M : BenS} {x : LgS} (f : Nat) (h : PJ w0 H (fun _ => False) w p q v M x) (hk : LgOk M x N) (hr : Room M 2) (hf : f < 18446744073709551616) (ho : x.own ≠ 0) (h1 : 1 ≤ x.fst) (hno : ¬ (x.fst ≤ f ∧ f ≤ x.next)) : Calls Tryz.prog 53 #[.pointer (some ⟨p, 0, none⟩), .int .u64 (f : Nat)] w fun e w' => e = .returned (.int .i64 (clrE M x f)) ∧ ∃ v', PJ w0 H (fun _ => False) w' p q v' (clrB M x f) (clrX M x f) := by
 obtain ⟨g1, g2, g3⟩ := clr_no' (M := M) hno
 rw [g1, g2, g3]
 have HJ := af h
 have HL := af h.log
 have HK := af hk
 clear g1 g2 g3
 go_enter Tryz.func53, Tryz.ntmps53
 go_upto_region 1 with fail
 refine ag ?_
 refine ai rfl (aj rfl (ev rfl)) ?_;simp only [aa]
 refine ar rfl (av Tryz.call79 rfl (evc (ev rfl) evn)) ?_
 refine (plmade _ HL.out).mono ?_
 rintro e w1 ⟨rfl, rfl⟩
 refine ⟨_, rfl, ?_⟩
 simp only [aa]
 refine ai (v := .bool false) rfl (bf true rfl (ev rfl)) ?_;simp only [aa]
 refine ai (v := .bool false) rfl (aq rfl (ev rfl)) ?_;simp only [aa]
 refine ah ?_
 go_upto_region 3 with fail
 refine ag ?_
 refine ai rfl (aj rfl (ev rfl)) ?_;simp only [aa]
 refine ai rfl (aj rfl (ev rfl)) ?_;simp only [aa]
 refine ai rfl (aB rfl (ev rfl)) ?_;simp only [aa]
 refine ai rfl (am rfl (ev rfl) eK) ?_;simp only [aa]
 refine ai rfl (am rfl (ev rfl) faQm2) ?_;simp only [aa]
 refine ai rfl (au rfl (ev rfl) (bL (PLg.c5 HL.out))) ?_;simp only [aa]
 by_cases hlt : (f : Int) < (x.fst : Int)
 ·have H1 := af (decide_eq_true hlt)
  clear h hk hr hf hno hlt
  refine ai (v := .bool true) rfl (aZ true rfl (ev rfl) (ev rfl) H1.out) ?_;simp only [aa]
  refine aC 4 (v := .bool true) rfl (aj rfl (ev rfl)) (by kernel_rfl) ?_
  simp only [aJ, ae, aa]
  refine ai (v := .bool true) rfl (aG rfl (ev rfl) evk) ?_;simp only [aa]
  refine ai (v := .bool true) rfl (aq rfl (ev rfl)) ?_;simp only [aa]
  refine ah ?_
  go_wp2_with fail
  go_ret
  exact ⟨rfl, v, HJ.out⟩
 ·have H1 := af (decide_eq_false hlt)
  have H2 : Hid (decide ((x.next : Int) < (f : Int)) = true) := af (decide_eq_true (by omega))
  clear h hk hr hf hno hlt
  refine ai (v := .bool false) rfl (aZ false rfl (ev rfl) (ev rfl) H1.out) ?_;simp only [aa]
  refine ai (v := .bool false) rfl (aj rfl (ev rfl)) ?_;simp only [aa]
  refine al gr (aj rfl (ev rfl)) ?_;simp only [aa]
  refine al gr (aj rfl (ev rfl)) ?_;simp only [aa]
  refine ar gr (av Tryz.call71 rfl (evc (ev rfl) evn)) ?_
  refine (plnext w HL.out HK.out).mono ?_
  rintro e w1 ⟨rfl, hb1⟩
  have HB1 := af hb1
  clear hb1
  refine ⟨_, rfl, ?_⟩
  simp only [aa]
  refine al (v := .bool true) gr (bp true rfl (ev rfl) (ev rfl) H2.out) ?_;simp only [aa]
  refine ai (v := .bool true) rfl (aE rfl (ev rfl) (ev rfl)) ?_;simp only [aa]
  refine ai (v := .bool true) rfl (aq rfl (ev rfl)) ?_;simp only [aa]
  refine ah ?_
  go_wp2_with fail
  go_ret
  exact ⟨rfl, v, HJ.out.below HB1.out⟩
set_option maxHeartbeats 2000000 in
theorem plclear_go {w0 w : World} {H : Nat → Prop} {p q N : Nat} {v : Value} {M : BenS} {x : LgS} (f : Nat) (h : PJ w0 H (fun _ => False) w p q v M x) (hk : LgOk M x N) (hr : Room M 2) (hf : f < 18446744073709551616) (ho : x.own ≠ 0) (h1 : 1 ≤ x.fst) (hle : x.fst ≤ f ∧ f ≤ x.next) : Calls Tryz.prog 53 #[.pointer (some ⟨p, 0, none⟩), .int .u64 (f : Nat)] w fun e w' => e = .returned (.int .i64 (clrE M x f)) ∧ ∃ v', PJ w0 H (fun _ => False) w' p q v' (clrB M x f) (clrX M x f) := by
 obtain ⟨g1, g2⟩ := clr_go' (M := M) hle
 obtain ⟨k1, k2⟩ := clr_mark hk hle ho (by omega)
 obtain ⟨g, rfl⟩ : ∃ g, f = x.fst + g := ⟨f - x.fst, by omega⟩
 have hg : g ≤ x.nts.length := by have := hle.2; unfold LgS.next at this; omega
 have hat : x.pos + usd (x.nts.take g) = x.at_ (x.fst + g) := by unfold LgS.at_; rw [Nat.add_sub_cancel_left]
 obtain ⟨a, ha⟩ : ∃ a, x.at_ (x.fst + g) = a := ⟨_, rfl⟩
 have HFG := af (show x.fst + g - x.fst = g from Nat.add_sub_cancel_left _ _)
 have HAT := af ha
 rw [ha] at g1 g2 k1 k2 hat
 have hcn := hk.cnt
 have hlm := hk.lim
 have heg := hk.eig
 have HJ := af h
 have HL := af h.log
 have HK := af hk
 have HR := af hr
 have HLE := af hle
 have HE := af g1
 have HB := af g2
 have HPE := af k1
 have HFIT := af k2
 have HG := af hg
 have HBG : Hid (Calls Tryz.prog 95 #[.pointer (some ⟨p, 0, none⟩), .int .i64 (g : Int)] w fun e w' => True) := af ((plbegin w g hg h.log hk).mono fun _ _ _ => trivial)
 have HPA := af hat
 have H1 : Hid (decide (((x.fst + g : Nat) : Int) < (x.fst : Int)) = false) := af (decide_eq_false (by omega))
 have H2 : Hid (decide ((x.next : Int) < ((x.fst + g : Nat) : Int)) = false) := af (decide_eq_false (by omega))
 have HFL : Hid (x.fst + g < 18446744073709551616) := af hf
 have HGL : Hid (g < 9223372036854775808) := af (by omega)
 have HCN : Hid (IntKind.u64.wrap ((x.cnt : Int) + 1) = ((x.cnt + 1 : Nat) : Int)) := af (by rw [IntWalk.u64_in _ ⟨by omega, by omega⟩]; omega)
 have HCL : Hid (x.cnt + 1 < 18446744073709551616) := af (by omega)
 clear h hk hr hf hle g1 g2 k1 k2 hg hat ha hcn hlm heg HBG
 go_enter Tryz.func53, Tryz.ntmps53
 go_upto_region 1 with fail
 refine ag ?_
 refine ai rfl (aj rfl (ev rfl)) ?_;simp only [aa]
 refine ar rfl (av Tryz.call79 rfl (evc (ev rfl) evn)) ?_
 refine (plmade _ HL.out).mono ?_
 rintro e w1 ⟨rfl, rfl⟩
 refine ⟨_, rfl, ?_⟩
 simp only [aa]
 refine ai (v := .bool false) rfl (bf true rfl (ev rfl)) ?_;simp only [aa]
 refine ai (v := .bool false) rfl (aq rfl (ev rfl)) ?_;simp only [aa]
 refine ah ?_
 go_upto_region 3 with fail
 refine ag ?_
 refine ai rfl (aj rfl (ev rfl)) ?_;simp only [aa]
 refine ai rfl (aj rfl (ev rfl)) ?_;simp only [aa]
 refine ai rfl (aB rfl (ev rfl)) ?_;simp only [aa]
 refine ai rfl (am rfl (ev rfl) eK) ?_;simp only [aa]
 refine ai rfl (am rfl (ev rfl) faQm2) ?_;simp only [aa]
 refine ai rfl (au rfl (ev rfl) (bL (PLg.c5 HL.out))) ?_;simp only [aa]
 refine ai (v := .bool false) rfl (aZ false rfl (ev rfl) (ev rfl) H1.out) ?_;simp only [aa]
 refine ai (v := .bool false) rfl (aj rfl (ev rfl)) ?_;simp only [aa]
 refine al gr (aj rfl (ev rfl)) ?_;simp only [aa]
 refine al gr (aj rfl (ev rfl)) ?_;simp only [aa]
 refine ar gr (av Tryz.call71 rfl (evc (ev rfl) evn)) ?_
 refine (plnext w HL.out HK.out).mono ?_
 rintro e w1 ⟨rfl, hb1⟩
 have HB1 := af hb1
 clear hb1
 refine ⟨_, rfl, ?_⟩
 simp only [aa]
 refine al (v := .bool false) gr (bp false rfl (ev rfl) (ev rfl) H2.out) ?_;simp only [aa]
 refine ai (v := .bool false) rfl (aE rfl (ev rfl) (ev rfl)) ?_;simp only [aa]
 refine ai (v := .bool false) rfl (aq rfl (ev rfl)) ?_;simp only [aa]
 refine ah ?_
 have HJ1 := af (HJ.out.below HB1.out)
 have HL1 := af (HL.out.below HB1.out)
 clear HL
 go_upto_region 5 with fail
 refine ag ?_
 refine ai rfl (aj rfl (ev rfl)) ?_;simp only [aa]
 refine ai rfl (aj rfl (ev rfl)) ?_;simp only [aa]
 refine ai rfl (aB rfl (ev rfl)) ?_;simp only [aa]
 refine ai rfl (am rfl (ev rfl) eK) ?_;simp only [aa]
 refine ai rfl (am rfl (ev rfl) faQm2) ?_;simp only [aa]
 refine ai rfl (au rfl (ev rfl) (bL (PLg.c5 HL1.out))) ?_;simp only [aa]
 refine ai rfl (exec_sbU rfl (ev rfl) (ev rfl) HFL.out) ?_;simp only [aa]
 refine ai rfl (exec_cvU6I rfl (ev rfl) HGL.out) ?_;simp only [aa]
 refine ai rfl (aq rfl (ev rfl)) ?_;simp only [aa]
 refine ah ?_
 go_upto_region 6 with fail
 refine ag ?_
 refine ai rfl (aj rfl (ev rfl)) ?_;simp only [aa]
 refine ai rfl (aB rfl (ev rfl)) ?_;simp only [aa]
 refine ai rfl (am rfl (ev rfl) eK) ?_;simp only [aa]
 refine ai rfl (bk rfl (ev rfl) (PLg.mrk HL1.out)) ?_;simp only [aa]
 refine ai rfl (bG rfl) ?_;simp only [aa]
 refine az rfl (cX (c := x.mark) rfl (ev rfl) (ev rfl)) ?_;simp only [aa]
 refine ah ?_
 have HM := af (bP.new w1 x.mark)
 have HBM := af ((Below.refl w1.heap.size w1).alloc (Nat.le_refl _) (.cells (a8 x.mark).toArray 32))
 have HBL : Hid (w1.heap.size < (w1.alloc (.cells (a8 x.mark).toArray 32)).heap.size) := af (by rw [World.size_alloc]; omega)
 have HW0 : Hid (w.heap.size ≤ w1.heap.size) := af HB1.out.size
 generalize w1.alloc (.cells (a8 x.mark).toArray 32) = w2 at *
 have HJ2 := af (HJ1.out.below HBM.out)
 have HL2 := af (HL1.out.below HBM.out)
 clear HL1
 obtain ⟨mb, hmb⟩ : ∃ mb, w1.heap.size = mb := ⟨_, rfl⟩
 rw [hmb] at HM HBL HBM HW0 ⊢
 have HWE := af hmb
 clear hmb
 go_upto_region 7 with fail
 refine ag ?_
 iterate 3 (refine ai rfl (aj rfl (ev rfl)) ?_;simp only [aa])
 refine ar rfl (av Tryz.call95 rfl (evc (ev rfl) (evc (ev rfl) evn))) ?_
 refine (plbegin w2 g HG.out HL2.out HK.out).mono ?_
 rintro e w3 ⟨rfl, hb3⟩
 rw [HPA.out]
 have HM3 := af (HM.out.below HBL.out hb3)
 have HBW3 := af (HBM.out.trans (hb3.mono (Nat.le_of_lt HBL.out)))
 have HBL3 : Hid (mb < w3.heap.size) := af (Nat.lt_of_lt_of_le HBL.out hb3.size)
 clear hb3 HM HJ2 HL2 HBM
 refine ⟨_, rfl, ?_⟩
 simp only [aa]
 refine ai rfl (exec_faM2 rfl (ev rfl)) ?_;simp only [aa]
 refine az rfl (exec_stU rfl (ev rfl) (ev rfl) HM3.out.cells.2.2.1 (HM3.out.frz 2)) ?_;simp only [aa]
 have HM4 := af (HM3.out.set2 (f := x.fst + g))
 have HB4 := af (below_setCells (B := mb) (o := 2) (Below.refl mb w3) (Nat.le_refl _) [.int .u64 ((x.fst + g : Nat) : Int)])
 change Hid (Below mb w3 (w3.setCell ⟨mb, 2, none⟩ (.int .u64 ((x.fst + g : Nat) : Int)))) at HB4
 generalize w3.setCell ⟨mb, 2, none⟩ (.int .u64 ((x.fst + g : Nat) : Int)) = w4 at *
 refine ai rfl (exec_faM3 rfl (ev rfl)) ?_;simp only [aa]
 refine az rfl (exec_stU rfl (ev rfl) (ev rfl) HM4.out.cells.2.2.2 (HM4.out.frz 3)) ?_;simp only [aa]
 have HM5 := af (HM4.out.set3 (f := a))
 have HB5 := af (below_setCells (B := mb) (o := 3) HB4.out (Nat.le_refl _) [.int .u64 (a : Int)])
 change Hid (Below mb w3 (w4.setCell ⟨mb, 3, none⟩ (.int .u64 (a : Int)))) at HB5
 generalize w4.setCell ⟨mb, 3, none⟩ (.int .u64 (a : Int)) = w5 at *
 refine ah ?_
 have HB15 := af (HBW3.out.trans HB5.out)
 have HBE : ∀ w' : World, Below mb w1 w' → Below w1.heap.size w1 w' := fun w' h => by rw [HWE.out]; exact h
 have HBE := af HBE
 have HJ5 := af (HJ1.out.below (HBE.out _ HB15.out))
 have HS5 : Hid (mb < w5.heap.size) := af (Nat.lt_of_lt_of_le HBL3.out HB5.out.size)
 obtain ⟨m, hm⟩ : ∃ m : Mrk, (⟨x.own, (x.size : Int), x.fst + g, a⟩ : Mrk) = m := ⟨_, rfl⟩
 have HM := af (show bP w5 mb m from by rw [← hm]; exact HM5.out)
 rw [hm] at HPE HFIT
 have HMD := af hm
 have HPB : Hid (p < mb) := af (by rw [← HWE.out]; exact HJ1.out.log.lt p (.inl rfl))
 clear HM3 HM4 HM5 HB4 HB5 HBW3 HBL3 hm
 have hS : PLg w5.drew p q v x ∧ bP w5.drew mb m := ⟨HJ5.out.drew.log, HM.out⟩
 go_upto_region 8 with fail
 refine bH (fun w' => PLg w' p q v x ∧ bP w' mb m) 12 (by kernel_rfl) ?_
 change cF _ _ _ _ _ _ 13 _ _ w5.drew
 refine gu 0 rfl (fun w' hw => aj rfl (ev rfl)) hS ?_;simp only [aa]
 refine gu 1 rfl (fun w' hw => aj rfl (ev rfl)) hS ?_;simp only [aa]
 refine gu 2 rfl (fun w' hw => aB rfl (ev rfl)) hS ?_;simp only [aa]
 refine gu 3 rfl (fun w' hw => am rfl (ev rfl) faQl2) hS ?_;simp only [aa]
 refine gu 4 rfl (fun w' hw => au rfl (ev rfl) (bL (PLg.c2 hw.1))) hS ?_;simp only [aa]
 refine gu 5 rfl (fun w' hw => exec_adU rfl (ev rfl) evk HCN.out) hS ?_;simp only [aa]
 refine gu 6 rfl (fun w' hw => bk rfl (ev rfl) hw.2.range) hS ?_;simp only [aa]
 refine gu 8 rfl (fun w' hw => aj rfl (ev rfl)) hS ?_;simp only [aa]
 refine gu 9 rfl (fun w' hw => fd rfl (ev rfl)) hS ?_;simp only [aa]
 refine cQ 7 rfl (by kernel_rfl) rfl (av Tryz.call96 rfl (evc (ev rfl) (evc (ev rfl) (evc (ev rfl) evn)))) ?_
 refine (pmarking (p := p) (w := w5.drew) (x.cnt + 1) m HCL.out HFIT.out HPE.out).mono ?_
 rintro e w6 ⟨s1, rfl, hs, hb6⟩
 have HB6 := af (HB15.out.trans (((bd (Below.refl w5.heap.size w5)).trans hb6).mono (Nat.le_of_lt HS5.out)))
 have hS6 : PLg w6 p q v x ∧ bP w6 mb m := ⟨(HJ1.out.below (HBE.out _ HB6.out)).log, HM.out.below HS5.out ((bd (Below.refl w5.heap.size w5)).trans hb6)⟩
 have HS1 := af (hs.below (B' := mb) (C' := w6.heap.size) (Nat.le_refl _) (Below.refl _ _) (Nat.le_of_lt HS5.out) (Nat.le_refl _))
 have HZ6 : Hid (w5.heap.size ≤ w6.heap.size) := af hb6.size
 clear hs hb6
 refine ⟨_, rfl, fun _ => hS6, ?_⟩
 simp only [aa]
 refine bl 10 rfl (by kernel_rfl) rfl (exec_mk2F (s1 := s1) (s2 := flF p) rfl (ev rfl) (ev rfl)) (fun _ => ⟨(HJ1.out.below (HBE.out _ (HB6.out.trans (((Below.refl w6.heap.size w6).alloc (Nat.le_refl _) (.cells #[s1.val, (flF p).val] 134)).mono (by have := HZ6.out; have := HS5.out; omega))))).log, hS6.2.past _⟩) ?_;simp only [aa]
 have HAL := af ((Below.refl w6.heap.size w6).alloc (Nat.le_refl _) (.cells #[s1.val, (flF p).val] 134))
 have HRD := af (rdF_new2 w6 s1 (flF p))
 have HZ7 : Hid (w6.heap.size + 1 = (w6.alloc (.cells #[s1.val, (flF p).val] 134)).heap.size) := af (by rw [World.size_alloc])
 generalize w6.alloc (.cells #[s1.val, (flF p).val] 134) = w7 at *
 have HB7 := af (HB6.out.trans (HAL.out.mono (by have := HZ6.out; have := HS5.out; omega)))
 have HJ7 := af (HJ1.out.guard (K' := Btw mb w7.heap.size) (HBE.out _ HB7.out) (fun b e => .inr ⟨by rw [HWE.out]; exact e.1, e.2⟩))
 have hS7 : PLg w7 p q v x ∧ bP w7 mb m := ⟨HJ7.out.log, hS6.2.below (by have := HZ6.out; have := HS5.out; omega) HAL.out⟩
 have HST : Hid (Stps (Btw mb w7.heap.size) w7 p [s1, flF p] (mkT x.own x.size (x.cnt + 1) (x.fst + g) a)) := af ⟨by have := HS1.out.below (B' := mb) (C' := w7.heap.size) (Nat.le_refl _) HAL.out (Nat.le_refl _) HAL.out.size; rw [← HMD.out] at this; exact this, .fl, trivial⟩
 refine cQ 11 rfl (by kernel_rfl) rfl (av Tryz.call28 rfl (evc (ev rfl) evn)) ?_
 refine (ptaken (some ⟨w6.heap.size, 0, none⟩) 2 2 (w6.heap.size + 1) [s1, flF p] w7 (Btw mb w7.heap.size) _ HRD.out (Nat.le_of_eq HZ7.out) (by omega) (fun b off e => by injection e with e; injection e with e1 e2; subst e1; exact ⟨by have := HZ6.out; have := HS5.out; omega, by have := HZ7.out; omega⟩) (chn_go (wK := w7) (fun _ e => e) _ _ HST.out HJ7.out (fun _ _ => rfl) HR.out)).mono ?_
 rintro e w8 ⟨E, rfl, hE, hj8, hk8⟩
 have hS8 : PLg w8 p q v x ∧ bP w8 mb m := ⟨hj8.log, (hk8 mb ⟨Nat.le_refl _, by have := HZ6.out; have := HS5.out; have := HZ7.out; omega⟩).trans hS7.2⟩
 refine ⟨_, rfl, fun _ => hS8, ?_⟩
 simp only [aa]
 refine bl 12 rfl (by kernel_rfl) rfl (aq rfl (ev rfl)) (fun e => absurd rfl e) ?_;simp only [aa]
 refine cm (by kernel_rfl) ?_ _
 rw [← hE] at HE
 have HJ8 := af (hj8.less (K' := fun _ => False) fun _ e => e.elim)
 have HS8 := af hS8
 clear hS hS6 hS7 hS8 HJ7 HST HRD HS1 HB6 HB7 hj8 hk8 HAL HZ6 HZ7 HM HJ5 HJ1 HJ HB15 HBE
 by_cases h0 : E = 0
 ·have HX : Hid (clrX M x (x.fst + g) = x.cut (x.fst + g)) := af (by unfold clrX; rw [HE.out, h0]; rfl)
  subst h0
  clear hE
  go_upto_region 11 with fail
  have hS : PLg w8.drew p q v x ∧ bP w8.drew mb m := ⟨HJ8.out.drew.log, HS8.out.2⟩
  refine wp_region_two (fun w' => PLg w' p q v x ∧ bP w' mb m) (fun w' => bP w' mb m) 10 (by kernel_rfl) ?_
  change eG _ _ _ _ _ _ _ 14 _ _ w8.drew
  refine gv 0 rfl (fun w' hw => aj rfl (ev rfl)) hS ?_;simp only [aa]
  refine gw 1 rfl (fun w' hw => aj rfl (ev rfl)) (condW_pre (by kernel_rfl) hS) ?_;simp only [aa]
  refine gv 2 rfl (fun w' hw => aj rfl (ev rfl)) hS ?_;simp only [aa]
  refine gv 3 rfl (fun w' hw => aB rfl (ev rfl)) hS ?_;simp only [aa]
  refine gv 4 rfl (fun w' hw => am rfl (ev rfl) faQl2) hS ?_;simp only [aa]
  refine gv 5 rfl (fun w' hw => au rfl (ev rfl) (bL (PLg.c2 hw.1))) hS ?_;simp only [aa]
  refine gv 6 rfl (fun w' hw => exec_adU rfl (ev rfl) evk HCN.out) hS ?_;simp only [aa]
  refine gw 7 rfl (fun w' hw => bk rfl (ev rfl) (bP.range (hw.elim (fun h => h.2) fun h => h))) (condW_pre (by kernel_rfl) hS) ?_;simp only [aa]
  refine gw 8 rfl (fun w' hw => aB rfl (ev rfl)) (condW_pre (by kernel_rfl) hS) ?_;simp only [aa]
  refine gv 9 rfl (fun w' hw => am rfl (ev rfl) faQl2) hS ?_;simp only [aa]
  have hT9 : bP (w8.drew.setCell ⟨p, 2, none⟩ (.int .u64 ((x.cnt + 1 : Nat) : Int))) mb m := (heap_setCell_other _ ⟨p, 2, none⟩ mb _ (Nat.ne_of_gt HPB.out)).trans hS.2
  refine two_nul 10 rfl (by kernel_rfl) rfl (exec_stU rfl (ev rfl) (ev rfl) hS.1.c2 (hS.1.free_ 2)) (condW_post (by kernel_rfl) hT9) ?_
  simp only [Act.put]
  refine gw 11 rfl (fun w' hw => aB rfl (ev rfl)) (condW_post (by kernel_rfl) hT9) ?_;simp only [aa]
  refine gw 12 rfl (fun w' hw => am rfl (ev rfl) eK) (condW_post (by kernel_rfl) hT9) ?_;simp only [aa]
  have HTH : Hid ((w8.drew.setCell ⟨p, 2, none⟩ (.int .u64 ((x.cnt + 1 : Nat) : Int))).there p 3 4) := af (d7 (o := 3) (n := 4) (heap_setCell_same w8.drew p 2 _ _ (.int .u64 ((x.cnt + 1 : Nat) : Int)) hS.1.at_) (by show 7 ≤ 8; omega))
  have hT10 : bP ((w8.drew.setCell ⟨p, 2, none⟩ (.int .u64 ((x.cnt + 1 : Nat) : Int))).setCells p 3 (a8 m)) mb m := (cY p (a8 m) 3 _ mb (Nat.ne_of_gt HPB.out)).trans hT9
  refine two_nul 13 rfl (by kernel_rfl) rfl (b7 (c := m) rfl (ev rfl) (ev rfl) HTH.out) (condW_post (by kernel_rfl) hT10) ?_
  simp only [Act.put]
  refine wpAnyW_done (by kernel_rfl) ?_ _
  have HP := af (hS.1.to.setm (c := x.cnt + 1) (m := m))
  have HO := af ((Only.of_below (fun b => b = p) (bd (Below.refl w8.heap.size w8))).trans ((eu w8.drew p 2 (.int .u64 ((x.cnt + 1 : Nat) : Int))).trans (fo _ p 3 (a8 m)) fun _ e => .inl e) fun _ e => .inl e)
  clear hT9 hT10 HTH hS
  generalize (w8.drew.setCell ⟨p, 2, none⟩ (.int .u64 ((x.cnt + 1 : Nat) : Int))).setCells p 3 (a8 m) = w9 at *
  obtain ⟨A, c, hv, hv1, hv2⟩ := HP.out.row.form
  have HV := af hv
  have HC7 : Hid (w9.cell? ⟨p, 7, none⟩ = some (.slice A x.nts.length c)) := af (by rw [← hv]; exact cell_of_row w9 p 7 _ _ _ HP.out.at_)
  have HG8 : Hid (x.nts.length ≤ 1000) := af (by have := HK.out.eig; omega)
  have HROW := af (show aH aY w9 0 (.slice A x.nts.length c) x.nts from by rw [← hv]; exact HP.out.row)
  clear hv hv1 hv2
  go_upto_region 12 with fail
  refine ag ?_
  refine ai rfl (aj rfl (ev rfl)) ?_;simp only [aa]
  refine ai rfl (aj rfl (ev rfl)) ?_;simp only [aa]
  refine ai rfl (aB rfl (ev rfl)) ?_;simp only [aa]
  refine ai rfl (am rfl (ev rfl) faQl4) ?_;simp only [aa]
  refine ai rfl (au rfl (ev rfl) (ldNts HC7.out)) ?_;simp only [aa]
  refine ai rfl (aj rfl (ev rfl)) ?_;simp only [aa]
  refine ar rfl (av Tryz.call97 rfl (evc (ev rfl) (evc evk (evc (ev rfl) evn)))) ?_
  refine (pdel g HROW.out HG.out HG8.out).mono ?_
  rintro e w10 ⟨v', rfl, hm10, hv10, ho10⟩
  have hp10 : w10.heap[p]? = some (.cells (ploC q v x.d (x.cnt + 1) m).toArray 80 (0, 0)) := ho10.keep HP.out.at_ (fun e => HROW.out.dc HP.out.at_ (by decide) e)
  obtain ⟨A', c', hv', _⟩ := hm10.form
  subst hv'
  have HC10 : Hid (w10.cell? ⟨p, 7, none⟩ = some (.slice A x.nts.length c)) := af (by rw [← HV.out]; exact cell_of_row w10 p 7 _ _ _ hp10)
  have HF10 : Hid (w10.frozen? ⟨p, 7, none⟩ = false) := af (frozen_of_row w10 p 7 _ _ hp10)
  have HPO := af (PLo.setn hp10 hm10)
  have HOV := af ho10
  have HVV := af hv10
  clear hm10 hv10 ho10 hp10
  refine ⟨_, rfl, ?_⟩
  simp only [aa]
  refine ai rfl (aB rfl (ev rfl)) ?_;simp only [aa]
  refine ai rfl (am rfl (ev rfl) faQl4) ?_;simp only [aa]
  refine az rfl (exec_stN rfl (ev rfl) (ev rfl) HC10.out HF10.out) ?_;simp only [aa]
  refine ah ?_
  have HOF := af (eu w10 p 7 (.slice A' (x.nts.drop g).length c'))
  generalize w10.setCell ⟨p, 7, none⟩ (.slice A' (x.nts.drop g).length c') = w11 at *
  go_wp2_with fail
  go_ret
  have hpl : PLg w11 p q (.slice A' (x.nts.drop g).length c') (x.cut (x.fst + g)) := by
   have e : PLo w11 p q (.slice A' (x.nts.drop g).length c') (x.cut (x.fst + g)).d (x.cut (x.fst + g)).cnt (x.cut (x.fst + g)).mark (x.cut (x.fst + g)).nts := by
    unfold LgS.cut LgS.mark
    simp only [HFG.out, HAT.out]
    rw [HMD.out]
    exact HPO.out
   exact e.to
  have hon : Only (ch p v) w8 w11 := (HO.out.wide fun b e => .inl e).trans ((HOV.out.wide (G := ch p v) fun b e => .inr (by rw [HV.out]; exact e)).trans (HOF.out.wide fun b e => .inl e) fun b e => .inl e) fun b e => .inl e
  rw [HE.out, HB.out, HX.out]
  exact ⟨rfl, _, HJ8.out.grow hon hpl fun b e => .inl (by rw [HV.out]; exact HVV.out b e)⟩
 ·have hne : (E != 0) = true := by simpa using h0
  have HX : Hid (clrX M x (x.fst + g) = x) := af (by unfold clrX; rw [HE.out, if_neg h0])
  clear hE
  go_wp2_with fail
  go_ret
  rw [HE.out, HB.out, HX.out]
  exact ⟨rfl, v, HJ8.out⟩
theorem plclear {w0 w : World} {H : Nat → Prop} {p q N : Nat} {v : Value} {M : BenS} {x : LgS} (f : Nat) (h : PJ w0 H (fun _ => False) w p q v M x) (hk : LgOk M x N) (hr : Room M 2) (hf : f < 18446744073709551616) (ho : x.own ≠ 0) (h1 : 1 ≤ x.fst) : Calls Tryz.prog 53 #[.pointer (some ⟨p, 0, none⟩), .int .u64 (f : Nat)] w fun e w' => e = .returned (.int .i64 (clrE M x f)) ∧ ∃ v', PJ w0 H (fun _ => False) w' p q v' (clrB M x f) (clrX M x f) := by
 by_cases hle : x.fst ≤ f ∧ f ≤ x.next
 ·exact plclear_go f h hk hr hf ho h1 hle
 ·exact plclear_no f h hk hr hf ho h1 hle
section
variable {ρ : Operand → Value} {o : Oper} {x y : Operand} {w : World} {A : Option Addr} {n c k B : Nat} {l : List Nte} {ad : Addr} {v : Value}
theorem stNts {m cc : Nat} {A' : Option Addr} (h : w.cell? ad = some v) (hf : w.frozen? ad = false) : (Instr.storeAt 78 (.pointer (some ad)) (.slice A' m cc)).run Tryz.prog w = .ok () (w.setCell ad (.slice A' m cc)) := by simp [go_sem, h, hf]
end
theorem row_set {w : World} {p : Nat} {cs : List Value} {t : TypeId} (h : w.heap[p]? = some (.cells cs.toArray t (0, 0))) (j : Nat) (u : Value) : (w.setCell ⟨p, j, none⟩ u).heap[p]? = some (.cells (cs.set j u).toArray t (0, 0)) := by
 have := heap_setCell_same w p j cs.toArray t u h
 rwa [List.setIfInBounds_toArray] at this
theorem cell_row {w : World} {p j : Nat} {cs : List Value} {t : TypeId} {u : Value} (h : w.heap[p]? = some (.cells cs.toArray t (0, 0))) (hu : cs[j]? = some u) : w.cell? ⟨p, j, none⟩ = some u := by
 have := dt h j u hu
 rwa [Nat.zero_add] at this
theorem flatE_zeros {α : Type} (E : Elt α) (hz : E.z.cells.toList = E.cel E.d) (n : Nat) : (bC E (List.replicate n E.d)).toArray = madeCells E.z.cells (n * E.n) := by
 have hp := E.pos
 apply Array.ext
 ·rw [size_madeCells, List.size_toArray, bM, List.length_replicate]
 ·intro j h1 h2
  rw [size_madeCells] at h2
  have hjn : j / E.n < n := Nat.div_lt_of_lt_mul (by rw [Nat.mul_comm]; exact h2)
  have hr : j % E.n < E.n := Nat.mod_lt _ hp
  have hk : j / E.n < (List.replicate n E.d).length := by rw [List.length_replicate]; exact hjn
  have := flatE_at E (List.replicate n E.d) hk hr
  rw [Nat.div_add_mod'] at this
  have hd0 : (List.replicate n E.d).getD (j / E.n) E.d = E.d := by
   rw [List.getD, List.getElem?_replicate]
   split <;> rfl
  rw [hd0, List.getElem?_eq_getElem (by simpa using h1), List.getElem?_eq_getElem (by rw [E.len]; exact hr)] at this
  injection this with this
  have e1 : (bC E (List.replicate n E.d)).toArray[j] = (bC E (List.replicate n E.d))[j]'(by simpa using h1) := by simp
  rw [e1, this]
  simp only [madeCells, Array.getElem_map, Array.getElem_range, E.zc]
  have hs : j % E.n < E.z.cells.size := by rw [E.zc]; exact hr
  rw [getElem!_pos E.z.cells (j % E.n) hs]
  have e2 : E.z.cells[j % E.n] = E.z.cells.toList[j % E.n]'(by simpa using hs) := by simp
  rw [e2]
  simp only [hz]
theorem exec_makeE {α : Type} {E : Elt α} {ρ : Operand → Value} {o : Oper} {x y : Operand} {w : World} {n : Nat} (ho : o.op = .makeSlice E.s x y) (hx : ρ x = .int .i64 (n : Int)) (hy : ρ y = .int .i64 (n : Int)) (hn : n ≤ 1000000) :
  (execOp ρ o).run Tryz.prog w = .ok (.value (.slice (some ⟨w.heap.size, 0, none⟩) n n)) (w.alloc (.cells (madeCells E.z.cells (n * E.n)) E.t)) := by
 obtain ⟨i0, hi, hz0, hz1, hz2⟩ := info_parts E.info
 have hb : (i0.bytes : Int) * n ≤ 281474976710656 := by
  have h1 := Nat.mul_le_mul E.small hn
  rw [hz2]
  have h2 : E.by_ * n ≤ 4096000000 := by simpa using h1
  have : ((E.by_ * n : Nat) : Int) ≤ 4096000000 := by omega
  rw [Int.natCast_mul] at this
  omega
 have hr := run_make (P := Tryz.prog) w E.s E.t i0 E.z E.und hi hz0 .i64 .i64 n n (by omega) (Int.le_refl _) hb (by omega)
 rw [hz1] at hr
 simp only [Int.toNat_natCast] at hr
 unfold execOp
 simp only [ho, hx, hy, Sem.run_bind, hr, Result.andThen_ok, Sem.run_pure]
theorem cells_made (w : World) (n B : Nat) (hB : B ≤ w.heap.size) (hn : n ≤ 1000000) : aH bY (w.alloc (.cells (madeCells bY.z.cells (n * bY.n)) bY.t)) B (.slice (some ⟨w.heap.size, 0, none⟩) n n) (List.replicate n cC) := by
 refine aH.of_block (heap_alloc_new w _) ?_ hB (by simp) (by unfold maxLen; omega)
 rw [← flatE_zeros bY rfl n]
 rfl
theorem rdB_new1 (w : World) (b : Blk) : RdB (w.alloc (.cells (cel b).toArray 29)) (w.heap.size + 1) (some ⟨w.heap.size, 0, none⟩) 1 [b] := by
 have h := rdB_new w [b] 29
 have e : flat [b] = cel b := by simp [flat]
 rw [e] at h
 exact h
section
variable {ρ : Operand → Value} {o : Oper} {x y : Operand} {w : World} {B g n c k : Nat} {l : List Cl} {s m s0 m0 : Int} {b b0 : Blk} {L : List Blk}
theorem exec_indexC (ho : o.op = .indexAddr 52 x y) (hx : ρ x = .slice (some ⟨g, 0, none⟩) n c) (hy : ρ y = .int .i64 (k : Int)) (hk : k < n) : (execOp ρ o).run Tryz.prog w = .ok (.value (.pointer (some ⟨g, k * 66, none⟩))) w := by
 have h := bQ (E := bY) (ρ := ρ) (o := o) (w := w) ho hx hy hk
 rwa [Nat.zero_add] at h
theorem stInt {a : Addr} {v : Value} {u : Int} (h : w.cell? a = some v) (hf : w.frozen? a = false) : (Instr.storeAt 3 (.pointer (some a)) (.int .i64 u)).run Tryz.prog w = .ok () (w.setCell a (.int .i64 u)) := by simp [go_sem, h, hf]
theorem exec_stInt {u : Int} {b off : Nat} (ho : o.op = .store 3 x y) (hx : ρ x = .pointer (some ⟨b, off, none⟩)) (hy : ρ y = .int .i64 u) (h : w.there b off 1) : (execOp ρ o).run Tryz.prog w = .ok .skip (w.setCells b off [.int .i64 u]) := by
 obtain ⟨h1, h2⟩ := h 0 (by omega)
 rw [Nat.add_zero] at h1 h2
 obtain ⟨v, hv⟩ := Option.isSome_iff_exists.1 h1
 exact fD ho hx hy (stInt hv h2)
theorem aH.cl_s (h : aH bY w B (.slice (some ⟨g, 0, none⟩) n n) l) (hk : k < n) (hx : l.getD k cC = ⟨s0, m0, b0⟩) (s : Int) : aH bY (w.setCells g (k * 66) [.int .i64 s]) B (.slice (some ⟨g, 0, none⟩) n n) (l.set k ⟨s, m0, b0⟩) := by
 have := aH.put (j := 0) (vs := [.int .i64 s]) h hk ⟨s, m0, b0⟩ (by show _ = List.take 0 (cG (l.getD k cC)) ++ _ ++ List.drop _ (cG (l.getD k cC)); rw [hx]; rfl) (by show 0 + 1 ≤ 66; omega)
 exact this
theorem aH.cl_m (h : aH bY w B (.slice (some ⟨g, 0, none⟩) n n) l) (hk : k < n) (hx : l.getD k cC = ⟨s0, m0, b0⟩) (m : Int) : aH bY (w.setCells g (k * 66 + 1) [.int .i64 m]) B (.slice (some ⟨g, 0, none⟩) n n) (l.set k ⟨s0, m, b0⟩) := by
 have := aH.put (j := 1) (vs := [.int .i64 m]) h hk ⟨s0, m, b0⟩ (by show _ = List.take 1 (cG (l.getD k cC)) ++ _ ++ List.drop _ (cG (l.getD k cC)); rw [hx]; rfl) (by show 1 + 1 ≤ 66; omega)
 exact this
theorem aH.cl_b (h : aH bY w B (.slice (some ⟨g, 0, none⟩) n n) l) (hk : k < n) (hx : l.getD k cC = ⟨s0, m0, b0⟩) (b : Blk) : aH bY (w.setCells g (k * 66 + 2) (cel b)) B (.slice (some ⟨g, 0, none⟩) n n) (l.set k ⟨s0, m0, b⟩) := by
 have := aH.put (j := 2) (vs := cel b) h hk ⟨s0, m0, b⟩ (by
  show cG _ = List.take 2 (cG (l.getD k cC)) ++ _ ++ List.drop _ (cG (l.getD k cC))
  rw [hx, List.drop_eq_nil_of_le (by rw [ei, aA]; omega), List.append_nil]
  rfl) (by rw [aA]; show 2 + 64 ≤ 66; omega)
 exact this
theorem aH.cl_there (h : aH bY w B (.slice (some ⟨g, 0, none⟩) n n) l) (hk : k < n) {j m : Nat} (hj : j + m ≤ 66) : w.there g (k * 66 + j) m := aH.there h hk hj
theorem RdB.bJ {A : Option Addr} {N : Nat} (h : RdB w N A n L) : Rd w N A (64 * n) (bJ L) :=
 ⟨by rw [cx, h.1], fun j hj => by
  obtain ⟨b, off, e, hb, hc⟩ := h.2 (j / 64) (by omega)
  refine ⟨b, off, e, hb, ?_⟩
  have h1 := hc (j % 64) _ (cel_at _ (by omega))
  have e2 : j = 64 * (j / 64) + j % 64 := by omega
  rw [show off + j / 64 * 64 + j % 64 = off + j from by omega] at h1
  rw [h1]
  conv => rhs; rw [e2]
  rw [bt_byts (by have := h.1; omega) (by omega)]⟩
end
def tlK (T : List Cl) (k : Nat) : List Cl := T.take k ++ List.replicate (T.length - k) cC
theorem tlK_zero (T : List Cl) : tlK T 0 = List.replicate T.length cC := rfl
theorem tlK_all (T : List Cl) : tlK T T.length = T := by simp [tlK]
section
variable {T : List Cl} {k : Nat} (hk : k < T.length)
include hk
theorem tlK_at : (tlK T k).getD k cC = cC := by
 unfold tlK
 rw [List.getD, List.getElem?_append_right (by rw [List.length_take]; omega), List.getElem?_replicate]
 split <;> rfl
theorem tlK_len : (tlK T k).length = T.length := by
 unfold tlK
 rw [List.length_append, List.length_take, List.length_replicate]
 omega
theorem tlK_set : (tlK T k).set k (T.getD k cC) = tlK T (k + 1) := by
 have hlen : (T.take k).length = k := by rw [List.length_take]; omega
 unfold tlK
 rw [List.set_append_right _ _ (by omega), hlen, Nat.sub_self, show T.length - k = (T.length - (k + 1)) + 1 from by omega, List.replicate_succ, List.set_cons_zero, List.take_add_one, List.getElem?_eq_getElem hk, List.getD, List.getElem?_eq_getElem hk, Option.getD_some, Option.toList_some, List.append_assoc, List.singleton_append]
end
theorem set_at {l : List Cl} {k : Nat} (hk : k < l.length) (c : Cl) : (l.set k c).getD k cC = c := by
 rw [List.getD, List.getElem?_set_self hk]
 rfl
end Go.Proofs.YtbbcdhkinbmdnaaGreatDoor
