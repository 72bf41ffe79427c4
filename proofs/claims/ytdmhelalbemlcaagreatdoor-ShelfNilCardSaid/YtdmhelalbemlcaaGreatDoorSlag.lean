import Derived.Test.YtdmhelalbemlcaaGreatDoorSlaf
import Derived.Deep.Slices
import Derived.LaidEqlPtr
import Derived.Laws.MakeOwn
namespace Go.Proofs.YtdmhelalbemlcaaGreatDoor
set_option maxHeartbeats 8000000
open Go.Proofs.Tryz
open Go.RowKit
set_option linter.unusedVariables false
set_option linter.unusedSimpArgs false
set_option maxRecDepth 100000
def l6 (M : a6) (x : Ros) : Nat -> Bool
 |0 => true
 |k + 1 => l6 M x k && !decide (iF M (k : Int) < 2 + x.s)
def gA (M : a6) (id ev : Nat) (x : Ros) : Bool := !decide (id = 0) && (!decide (2305843009213693952 < ev) && (a7 x && (decide ((M.ds.length : Int) = x.m + 1) && l6 M x x.m.toNat)))
theorem sG {M : a6} {x : Ros} {i : Nat} (h : iF M (i : Int) < 2 + x.s) : ∀ {n : Nat}, i < n -> l6 M x n = false
 |0, hi => absurd hi (by omega)
 |n + 1, hi => by
  rw [l6];by_cases e : i = n
  ·subst e; rw [ao h]; simp
  ·rw [sG h (n := n) (by omega)]; rfl
theorem mE {M : a6} {x : Ros} {i : Nat} (h : l6 M x i = true) (h' : ¬ iF M (i : Int) < 2 + x.s) : l6 M x (i + 1) = true := by rw [l6, h, am h']; rfl
def rhC (q id ev : Nat) (x : Ros) : List Value := .pointer (some ⟨q, 0, none⟩) :: .int .u64 (id : Int) :: .int .u64 (ev : Int) :: aX x
theorem aid : (prog.info? 96).map (fun i => i.zero) = some (some (.agg (.pointer none :: .int .u64 0 :: .int .u64 0 :: aX bP).toArray)) := by kernel_rfl
section
variable {ρ : Operand -> Value} {o : Oper} {x1 x2 x3 x4 : Operand} {w : World} {q id ev : Nat} {x : Ros}
theorem zI (q id ev : Nat) (x : Ros) : (Instr.build 96 #[(0, .pointer (some ⟨q, 0, none⟩)), (1, .int .u64 (id : Int)), (2, .int .u64 (ev : Int)), (3, ros x)]).run prog w = .ok (.agg (rhC q id ev x).toArray) w := by
 have hz := f4 aid w;have h0 := da (place := fun i => (#[(0, 1), (1, 1), (2, 1), (3, 21)] : Array (Nat × Nat))[i]?) (i := 0) (off := 0) (size := 1) (v := .pointer (some ⟨q, 0, none⟩)) (pre := []) (mid := [.pointer none]) (post := .int .u64 0 :: .int .u64 0 :: aX bP) (vs := [.pointer (some ⟨q, 0, none⟩)]) (rest := [(1, .int .u64 (id : Int)), (2, .int .u64 (ev : Int)), (3, ros x)]) rfl rfl rfl rfl rfl;have h1 := da (place := fun i => (#[(0, 1), (1, 1), (2, 1), (3, 21)] : Array (Nat × Nat))[i]?) (i := 1) (off := 1) (size := 1) (v := .int .u64 (id : Int)) (pre := [.pointer (some ⟨q, 0, none⟩)]) (mid := [.int .u64 0]) (post := .int .u64 0 :: aX bP) (vs := [.int .u64 (id : Int)]) (rest := [(2, .int .u64 (ev : Int)), (3, ros x)]) rfl rfl rfl rfl rfl;have h2 := da (place := fun i => (#[(0, 1), (1, 1), (2, 1), (3, 21)] : Array (Nat × Nat))[i]?) (i := 2) (off := 2) (size := 1) (v := .int .u64 (ev : Int)) (pre := [.pointer (some ⟨q, 0, none⟩), .int .u64 (id : Int)]) (mid := [.int .u64 0]) (post := aX bP) (vs := [.int .u64 (ev : Int)]) (rest := [(3, ros x)]) rfl rfl rfl rfl rfl;have h3 := da (place := fun i => (#[(0, 1), (1, 1), (2, 1), (3, 21)] : Array (Nat × Nat))[i]?) (i := 3) (off := 3) (size := 21) (v := ros x) (pre := [.pointer (some ⟨q, 0, none⟩), .int .u64 (id : Int), .int .u64 (ev : Int)]) (mid := aX bP) (post := []) (vs := aX x) (rest := []) rfl rfl (bD x) rfl (bD bP);simp only [List.nil_append, List.append_nil, List.cons_append] at h0 h1 h2 h3;have h4 := h0.trans (h1.trans (h2.trans h3));have hz' : (zeroValue 96).run prog w = .ok (.agg (.pointer none :: .int .u64 0 :: .int .u64 0 :: aX bP).toArray) w := hz;have hc : (Value.agg (.pointer none :: .int .u64 0 :: .int .u64 0 :: aX bP).toArray).cells = (.pointer none :: .int .u64 0 :: .int .u64 0 :: aX bP).toArray := rfl;simp only [Instr.build, Sem.run_bind, hz', run_underlying underlying96, Result.andThen_ok, hc];refine Eq.trans (congrArg (fun r => Result.andThen r _) (?h : _ = Result.ok #[(0, 1), (1, 1), (2, 1), (3, 21)] w)) ?_
 case h => kernel_rfl
 simp only [Result.andThen_ok];have h5 : Instr.fill (fun i => (#[(0, 1), (1, 1), (2, 1), (3, 21)] : Array (Nat × Nat))[i]?) (rhC q id ev x).toArray [] = some (rhC q id ev x).toArray := by rw [Instr.fill]
 rw [h4.trans h5]
 rfl
theorem wi (ho : o.op = .build 96 #[(0, x1), (1, x2), (2, x3), (3, x4)]) (h1 : ρ x1 = .pointer (some ⟨q, 0, none⟩)) (h2 : ρ x2 = .int .u64 (id : Int)) (h3 : ρ x3 = .int .u64 (ev : Int)) (h4 : ρ x4 = ros x) : (execOp ρ o).run prog w = .ok (.value (.agg (rhC q id ev x).toArray)) w := by
 unfold execOp;simp only [ho, h1, h2, h3, h4, List.map_toArray, List.map_cons, List.map_nil, Sem.run_bind, zI, Result.andThen_ok, Sem.run_pure]
end
def RHu (w : World) (p q id ev : Nat) (x : Ros) : Prop := w.heap[p]? = some (.cells (rhC q id ev x).toArray 96 (0, 0))
section
variable {w : World} {F : Nat -> Prop} {q : Nat} {M : a6}
def rE (w : World) (q : Nat) (M : a6) (id en : Nat) (x : Ros) (e : Ending) (w' : World) : Prop :=
 Below w.heap.size w w' /\ ((gA M id en x = true /\ ∃ p, e = .returned (.tuple #[.pointer (some ⟨p, 0, none⟩), .int .i64 0]) /\ RHu w' p q id en x /\ w.heap.size <= p) \/ (gA M id en x = false /\ e = .returned (.tuple #[.pointer none, .int .i64 2])))
theorem af5 (id en : Nat) (x : Ros) (w : World) (hb : dl.Bn w F q M) (h0 : id = 0) : Calls prog 32 #[.pointer (some ⟨q, 0, none⟩), .int .u64 (id : Int), .int .u64 (en : Int), ros x] w (rE w q M id en x) := by
 obtain ⟨w1, hw1⟩ : ∃ w1, w.alloc (.cells (aX x).toArray 86) = w1 := ⟨_, rfl⟩;obtain ⟨hx, hb1, hlt⟩ := df w x;rw [hw1] at hx hb1 hlt;have HW1 := ae hw1;have HX := ae hx;have HB1 := ae hb1;have HLT := ae hlt;have HB := ae (dl.below hb hb1);clear hw1 hx hb1 hlt hb;have H0 : Hid (((id : Int) == 0) = true) := ae (by rw [h0]; rfl);have HNO : Hid (gA M id en x = false) := ae (by unfold gA; rw [ao h0]; rfl);clear h0;go_enter func32, ntmps32;go_upto_region 0 with fail;refine af ?_;refine aku (bg rfl akE) ?_;rw [HW1.out];refine aH 2 ?_;go_upto_region 1 with fail;refine aR (B := w1.heap.size) (by kernel_rfl) ?_;refine cE 1 ?_;refine akC (fun _ hw => aF true rfl akE evk H0) ?_;refine gO 2 rfl (fun _ hw => aM rfl akE) (by kernel_rfl) ?_;simp only [bQ, ac, aa];refine cE 1 ?_;refine gO 3 rfl (fun _ hw => aM rfl akE) (by kernel_rfl) ?_;simp only [bQ, ac, aa];refine cE 1 ?_;refine gO 7 rfl (fun _ hw => aM rfl akE) (by kernel_rfl) ?_;simp only [bQ, ac, aa];refine cE 1 ?_;refine wpQuiet_nil ?_;intro w2 hw;have HB2 := ae (HB1.out.trans (hw.mono HB1.out.size));go_wp2_with fail;go_ret2;exact ⟨HB2, .inr ⟨HNO, rfl⟩⟩
theorem aft (id en : Nat) (x : Ros) (w : World) (hb : dl.Bn w F q M) (h0 : id ≠ 0) (h1 : 2305843009213693952 < en) : Calls prog 32 #[.pointer (some ⟨q, 0, none⟩), .int .u64 (id : Int), .int .u64 (en : Int), ros x] w (rE w q M id en x) := by
 obtain ⟨w1, hw1⟩ : ∃ w1, w.alloc (.cells (aX x).toArray 86) = w1 := ⟨_, rfl⟩;obtain ⟨hx, hb1, hlt⟩ := df w x;rw [hw1] at hx hb1 hlt;have HW1 := ae hw1;have HX := ae hx;have HB1 := ae hb1;have HLT := ae hlt;have HB := ae (dl.below hb hb1);clear hw1 hx hb1 hlt hb;have H0 : Hid (((id : Int) == 0) = false) := ae (au (by omega));have H1 : Hid (decide ((2305843009213693952 : Int) < (en : Int)) = true) := ae (ao (by omega));have HNO : Hid (gA M id en x = false) := ae (by unfold gA; rw [ao h1]; simp);clear h0 h1;go_enter func32, ntmps32;go_upto_region 0 with fail;refine af ?_;refine aku (bg rfl akE) ?_;rw [HW1.out];refine aH 2 ?_;go_upto_region 1 with fail;refine aR (B := w1.heap.size) (by kernel_rfl) ?_;refine cE 1 ?_;refine akC (fun _ hw => aF false rfl akE evk H0) ?_;refine cE 2 ?_;refine akD (fun _ hw => dX true rfl akE evk H1) ?_;refine cE 1 ?_;refine gO 3 rfl (fun _ hw => aM rfl akE) (by kernel_rfl) ?_;simp only [bQ, ac, aa];refine cE 1 ?_;refine gO 7 rfl (fun _ hw => aM rfl akE) (by kernel_rfl) ?_;simp only [bQ, ac, aa];refine cE 1 ?_;refine wpQuiet_nil ?_;intro w2 hw;have HB2 := ae (HB1.out.trans (hw.mono HB1.out.size));go_wp2_with fail;go_ret2;exact ⟨HB2, .inr ⟨HNO, rfl⟩⟩
theorem aei (id en : Nat) (x : Ros) (w : World) (hb : dl.Bn w F q M) (h0 : id ≠ 0) (h1 : ¬ 2305843009213693952 < en) (h2 : a7 x = false) : Calls prog 32 #[.pointer (some ⟨q, 0, none⟩), .int .u64 (id : Int), .int .u64 (en : Int), ros x] w (rE w q M id en x) := by
 obtain ⟨w1, hw1⟩ : ∃ w1, w.alloc (.cells (aX x).toArray 86) = w1 := ⟨_, rfl⟩;obtain ⟨hx, hb1, hlt⟩ := df w x;rw [hw1] at hx hb1 hlt;have HW1 := ae hw1;have HX := ae hx;have HB1 := ae hb1;have HLT := ae hlt;have HB := ae (dl.below hb hb1);clear hw1 hx hb1 hlt hb;have H0 : Hid (((id : Int) == 0) = false) := ae (au (by omega));have H1 : Hid (decide ((2305843009213693952 : Int) < (en : Int)) = false) := ae (am (by omega));have H2 := ae h2;have HNO : Hid (gA M id en x = false) := ae (by unfold gA; rw [h2]; simp);clear h0 h1 h2;go_enter func32, ntmps32;go_upto_region 0 with fail;refine af ?_;refine aku (bg rfl akE) ?_;rw [HW1.out];refine aH 2 ?_;go_upto_region 1 with fail;refine aR (B := w1.heap.size) (by kernel_rfl) ?_;refine cE 1 ?_;refine akC (fun _ hw => aF false rfl akE evk H0) ?_;refine cE 2 ?_;refine akD (fun _ hw => dX false rfl akE evk H1) ?_;refine cE 2 ?_;refine akD (fun _ hw => bu rfl akE ((HX.out.below HLT hw).range)) ?_;refine bW akp (fun _ => aA call78 rfl (evc akE evn)) (bH aj fun w' hw => xv w' H2) ?_;simp only [aa];refine cE 2 ?_;refine gO 7 rfl (fun _ hw => aM rfl akE) (by kernel_rfl) ?_;simp only [bQ, ac, aa];refine cE 1 ?_;refine wpQuiet_nil ?_;intro w2 hw;have HB2 := ae (HB1.out.trans (hw.mono HB1.out.size));go_wp2_with fail;go_ret2;exact ⟨HB2, .inr ⟨HNO, rfl⟩⟩
theorem aed (id en : Nat) (x : Ros) (w : World) (hb : dl.Bn w F q M) (h0 : id ≠ 0) (h1 : ¬ 2305843009213693952 < en) (h2 : a7 x = true) (h3 : ¬ (M.ds.length : Int) = x.m + 1) : Calls prog 32 #[.pointer (some ⟨q, 0, none⟩), .int .u64 (id : Int), .int .u64 (en : Int), ros x] w (rE w q M id en x) := by
 obtain ⟨w1, hw1⟩ : ∃ w1, w.alloc (.cells (aX x).toArray 86) = w1 := ⟨_, rfl⟩;obtain ⟨hx, hb1, hlt⟩ := df w x;rw [hw1] at hx hb1 hlt;have HW1 := ae hw1;have HX := ae hx;have HB1 := ae hb1;have HLT := ae hlt;have HB := ae (dl.below hb hb1);clear hw1 hx hb1 hlt hb;have H0 : Hid (((id : Int) == 0) = false) := ae (au (by omega));have H1 : Hid (decide ((2305843009213693952 : Int) < (en : Int)) = false) := ae (am (by omega));have H2 := ae h2;have HAD : Hid (IntKind.i64.wrap (x.m + 1) = x.m + 1) := ae (eV (by have := fw (eF h2).1; omega));have H3 : Hid (((M.ds.length : Int) != x.m + 1) = true) := ae (by simpa using h3);have HNO : Hid (gA M id en x = false) := ae (by unfold gA; rw [am h3]; simp);clear h0 h1 h2 h3;go_enter func32, ntmps32;go_upto_region 0 with fail;refine af ?_;refine aku (bg rfl akE) ?_;rw [HW1.out];refine aH 2 ?_;go_upto_region 1 with fail;refine aR (B := w1.heap.size) (by kernel_rfl) ?_;refine cE 1 ?_;refine akC (fun _ hw => aF false rfl akE evk H0) ?_;refine cE 2 ?_;refine akD (fun _ hw => dX false rfl akE evk H1) ?_;refine cE 2 ?_;refine akD (fun _ hw => bu rfl akE ((HX.out.below HLT hw).range)) ?_;refine bW akp (fun _ => aA call78 rfl (evc akE evn)) (bH aj fun w' hw => xv w' H2) ?_;simp only [aa];refine cE 3 ?_;refine cE 1 ?_;refine bW akp (fun _ => aA call79 rfl (evc akE evn)) (bH aj fun _ hw => dl.devices (dl.below HB hw)) ?_;simp only [aa];refine akD (fun _ hw => ax rfl akE pu) ?_;refine akD (fun _ hw => ax rfl akE oG) ?_;refine akD (fun _ hw => aC rfl akE (bS (HX.out.below HLT hw).cells.1)) ?_;refine akD (fun _ hw => bJ rfl akE evk HAD) ?_;refine akD (fun _ hw => aL true rfl akE akE H3) ?_;refine cE 1 ?_;refine wpQuiet_nil ?_;intro w2 hw;have HB2 := ae (HB1.out.trans (hw.mono HB1.out.size));go_wp2_with fail;go_ret2;exact ⟨HB2, .inr ⟨HNO, rfl⟩⟩
theorem afG (id en : Nat) (x : Ros) (w : World) (hb : dl.Bn w F q M) (h0 : id ≠ 0) (h1 : ¬ 2305843009213693952 < en) (h2 : a7 x = true) (h3 : (M.ds.length : Int) = x.m + 1) : Calls prog 32 #[.pointer (some ⟨q, 0, none⟩), .int .u64 (id : Int), .int .u64 (en : Int), ros x] w (rE w q M id en x) := by
 obtain ⟨w1, hw1⟩ : ∃ w1, w.alloc (.cells (aX x).toArray 86) = w1 := ⟨_, rfl⟩;obtain ⟨hx, hb1, hlt⟩ := df w x;rw [hw1] at hx hb1 hlt;have HW1 := ae hw1;have HX := ae hx;have HB1 := ae hb1;have HLT := ae hlt;have HB := ae (dl.below hb hb1);clear hw1 hx hb1 hlt hb;have H0 : Hid (((id : Int) == 0) = false) := ae (au (by omega));have H1 : Hid (decide ((2305843009213693952 : Int) < (en : Int)) = false) := ae (am (by omega));have H2 := ae h2;have hge := fw (eF h2).1;have HGE := ae hge;have HAD : Hid (IntKind.i64.wrap (x.m + 1) = x.m + 1) := ae (eV (by omega));have HSD : Hid (IntKind.i64.wrap (x.s + 2) = x.s + 2) := ae (eV (by omega));have H3 : Hid (((M.ds.length : Int) != x.m + 1) = false) := ae (by rw [h3]; exact bne_self_eq_false _);have HK : Hid (gA M id en x = l6 M x x.m.toNat) := ae (by unfold gA; rw [am h0, am h1, h2, ao h3]; rfl);clear h0 h1 h2 h3 hge;go_enter func32, ntmps32;go_upto_region 0 with fail;refine af ?_;refine aku (bg rfl akE) ?_;rw [HW1.out];refine aH 2 ?_;go_upto_region 1 with fail;refine aR (B := w1.heap.size) (by kernel_rfl) ?_;refine cE 1 ?_;refine akC (fun _ hw => aF false rfl akE evk H0) ?_;refine cE 2 ?_;refine akD (fun _ hw => dX false rfl akE evk H1) ?_;refine cE 2 ?_;refine akD (fun _ hw => bu rfl akE ((HX.out.below HLT hw).range)) ?_;refine bW akp (fun _ => aA call78 rfl (evc akE evn)) (bH aj fun w' hw => xv w' H2) ?_;simp only [aa];refine cE 3 ?_;refine cE 1 ?_;refine bW akp (fun _ => aA call79 rfl (evc akE evn)) (bH aj fun _ hw => dl.devices (dl.below HB hw)) ?_;simp only [aa];refine akD (fun _ hw => ax rfl akE pu) ?_;refine akD (fun _ hw => ax rfl akE oG) ?_;refine akD (fun _ hw => aC rfl akE (bS (HX.out.below HLT hw).cells.1)) ?_;refine akD (fun _ hw => bJ rfl akE evk HAD) ?_;refine akD (fun _ hw => aL false rfl akE akE H3) ?_;refine cE 1 ?_;refine wpQuiet_nil ?_;intro w2 hw;have HB2 := ae (HB1.out.trans (hw.mono HB1.out.size));have HX2 := ae (HX.out.below HLT hw);have HL2 := ae (ar HLT hw.size);have HBB := ae (dl.below HB hw);clear hw;go_wp2_with fail
 go_loopw [10] (fun z wr => ∃ i : Nat, z = .int .i64 i /\ i <= x.m.toNat /\ l6 M x i = true /\ Below w2.heap.size w2 wr) (fun z _ => x.m.toNat - (intOf z).toNat)
 case atStart => exact ⟨0, by go_num, Nat.zero_le _, rfl, ak⟩
 case round =>
  obtain ⟨i, rfl, hi, hs, hb⟩ := hrel;have HS := ae hs;have HW := ae hb;have HX3 := ae (HX2.out.below HL2 (hb.mono aj));have HL3 := ae (ar HL2 hb.size);have HB3 := ae (dl.below HBB hb);clear hs hb;go_upto_region 4 with fail;refine aI 1 ?_;refine aku (ax rfl akE pu) ?_;refine aku (ax rfl akE oG) ?_;refine aku (aC rfl akE (bS HX3.out.cells.1)) ?_;by_cases hlt : i < x.m.toNat
  ·have HI := ae hlt;have HT : Hid (decide ((i : Int) < x.m) = true) := ae (ao (by have := HGE.out; omega));have HA : Hid (IntKind.i64.wrap ((i : Int) + 1) = ((i + 1 : Nat) : Int)) := ae (by have := HGE.out; rw [eV ⟨by omega, by omega⟩]; omega);clear hi hlt;refine aku (aZ true rfl akE akE HT) ?_;refine ah ?_;go_upto_region 6 with fail;refine aR (B := wr.heap.size) (by kernel_rfl) ?_;refine cE 2 ?_;refine bW rfl (fun _ => aA call80 rfl (evc akE (evc akE evn))) (bH aj fun _ hw => dl.fR (i : Int) (dl.below HB3 hw)) ?_;simp only [aa];refine akC (fun _ hw => ax rfl akE pu) ?_;refine akC (fun _ hw => ax rfl akE acb) ?_;refine akC (fun _ hw => aC rfl akE (bS (HX3.out.below HL3 hw).cells.2.1)) ?_;refine akC (fun _ hw => bJ rfl akE evk HSD) ?_;by_cases hq : iF M (i : Int) < x.s + 2
   ·have HQ : Hid (decide (iF M (i : Int) < x.s + 2) = true) := ae (ao hq);have HNO : Hid (gA M id en x = false) := ae (by rw [HK.out]; exact sG (by omega) HI);clear hq;refine akC (fun _ hw => aZ true rfl akE akE HQ) ?_;refine wpQuiet_nil ?_;intro w4 hw;have HW4 := ae (HW.out.trans (hw.mono HW.out.size));clear hw;go_wp2_with fail;go_ret2;exact ⟨HB2.out.trans (HW4.out.mono HB2.out.size), .inr ⟨HNO, rfl⟩⟩
   have HQ : Hid (decide (iF M (i : Int) < x.s + 2) = false) := ae (am hq);have HS2 := ae (mE HS (by omega));clear hq;refine akC (fun _ hw => aZ false rfl akE akE HQ) ?_;refine wpQuiet_nil ?_;intro w4 hw;have HW4 := ae (HW.out.trans (hw.mono HW.out.size));clear hw;go_upto_region 5 with fail;refine aI 1 ?_;refine aku (bJ rfl akE evk HA) ?_;refine aH 1 ?_;go_wp2_with fail;go_roundw
   case rel => exact ⟨i + 1, by go_num, HI, HS2, HW4⟩
   case measure => have := HI.out; simp [intOf]; omega
  have hin : i = x.m.toNat := by omega
  have HT : Hid (decide ((i : Int) < x.m) = false) := ae (am (by have := HGE.out; omega));have HYES : Hid (gA M id en x = true) := ae (by rw [HK.out, <- hin]; exact HS);clear hi hlt hin;refine aku (aZ false rfl akE akE HT) ?_;refine ah ?_;go_upto_region 8 with fail;refine aI 3 ?_;refine aku (bu rfl akE HX3.out.range) ?_;refine aku (wi rfl akE akE akE akE) ?_;refine aku (ch (cs := rhC q id en x) rfl akE) ?_;refine aH 2 ?_;go_wp2_with fail;go_ret2;have hw3 := HB2.out.trans (HW.out.mono HB2.out.size);exact ⟨hw3.alloc hw3.size _, .inl ⟨HYES, _, rfl, heap_alloc_new wr _, hw3.size⟩⟩
theorem aiH (id en : Nat) (x : Ros) (w : World) (hb : dl.Bn w F q M) : Calls prog 32 #[.pointer (some ⟨q, 0, none⟩), .int .u64 (id : Int), .int .u64 (en : Int), ros x] w (rE w q M id en x) := by
 by_cases h0 : id = 0
 ·exact af5 id en x w hb h0
 by_cases h1 : 2305843009213693952 < en
 ·exact aft id en x w hb h0 h1
 cases h2 : a7 x
 ·exact aei id en x w hb h0 h1 h2
 by_cases h3 : (M.ds.length : Int) = x.m + 1
 ·exact afG id en x w hb h0 h1 h2 h3
 ·exact aed id en x w hb h0 h1 h2 h3
end
structure CrG (w : World) (G : Nat -> Prop) : Prop where
 t : Tab w
 off : ¬ G 0
structure iV where
 R : aju
 J : World -> (Nat -> Prop) -> Nat -> Nat -> HuS -> Prop
 lt : ∀ {w G q p h}, J w G q p h -> ∀ b, G b -> b < w.heap.size
 fin : ∀ {w G q p h}, J w G q p h -> a7 h.R = true /\ h.id ≠ 0
 only : ∀ {w w' G F q p h}, J w G q p h -> Only F w w' -> (∀ b, G b -> ¬ F b) -> J w' G q p h
 ben : ∀ {w G q p h}, J w G q p h -> ∃ Gb, R.Bn w Gb q h.M /\ (∀ b, Gb b -> G b) /\ ∀ w' Gb' M', R.Bn w' Gb' q M' -> Only Gb w w' -> Grow w Gb Gb' -> ∃ G', J w' G' q p { h with M := M' } /\ Only G w w' /\ Grow w G G'
 new_ : ∀ {w G q M} (id ev : Nat) (x : Ros), id < 18446744073709551616 -> ev < 18446744073709551616 -> R.Bn w G q M -> Calls prog 31 #[.pointer (some ⟨q, 0, none⟩), .int .u64 (id : Int), .int .u64 (ev : Int), ros x] w fun e w' =>
  Below w.heap.size w w' /\ ((gA M id ev x = true /\ ∃ p G', e = .returned (.tuple #[.pointer (some ⟨p, 0, none⟩), .int .i64 0]) /\ J w' G' q p ⟨M, id, ev, x⟩ /\ ∀ b, G' b -> G b \/ w.heap.size <= b) \/ (gA M id ev x = false /\ e = .returned (.tuple #[.pointer none, .int .i64 2])))
 new_nil : ∀ (w : World) (id ev : Nat) (x : Ros), id < 18446744073709551616 -> ev < 18446744073709551616 -> Calls prog 31 #[.pointer none, .int .u64 (id : Int), .int .u64 (ev : Int), ros x] w fun e w' => e = .returned (.tuple #[.pointer none, .int .i64 1]) /\ Below w.heap.size w w'
 read : ∀ {w G q p h} (s m : Int), J w G q p h -> CrG w G -> Room h.M 600 -> h.ev <= 4611686018427387000 -> Calls prog 114 #[.pointer (some ⟨p, 0, none⟩), .agg #[.int .i64 s, .int .i64 m]] w fun e w' => e = .returned (.tuple #[blk (jZ h s m), .int .i64 (f9 h s m)]) /\ ∃ G', (qy h s m -> J w' G' q p (ie h s m)) /\ Only G w w' /\ Grow w G G' /\ ∃ Gb, R.Bn w' Gb q (ie h s m).M /\ ∀ b, Gb b -> G' b
 write : ∀ {w G q p h} (s m : Int) (b : Blk), J w G q p h -> CrG w G -> Room h.M 600 -> h.ev <= 4611686018427387000 -> Calls prog 38 #[.pointer (some ⟨p, 0, none⟩), .agg #[.int .i64 s, .int .i64 m], blk b] w fun e w' => e = .returned (.int .i64 (aaU h s m b)) /\ ∃ G', (zY h s m -> J w' G' q p (qA h s m b)) /\ Only G w w' /\ Grow w G G' /\ ∃ Gb, R.Bn w' Gb q (qA h s m b).M /\ ∀ b, Gb b -> G' b
 aiN : ∀ {w G q p h}, J w G q p h -> Calls prog 47 #[.pointer (some ⟨p, 0, none⟩)] w fun e w' => e = .returned (.int .u64 (h.ev : Int)) /\ Below w.heap.size w w'
 id_ : ∀ {w G q p h}, J w G q p h -> Calls prog 56 #[.pointer (some ⟨p, 0, none⟩)] w fun e w' => e = .returned (.int .u64 (h.id : Int)) /\ Below w.heap.size w w'
 state : ∀ {w G q p h}, J w G q p h -> Calls prog 182 #[.pointer (some ⟨p, 0, none⟩)] w fun e w' => e = .returned (.int .i64 (stN h.R : Nat)) /\ Below w.heap.size w w'
 sy : ∀ {w G q p h}, J w G q p h -> Calls prog 49 #[.pointer (some ⟨p, 0, none⟩)] w fun e w' => e = .returned (ros h.R) /\ Below w.heap.size w w'
 No : World -> Value -> Prop
 zc : List Value
 zb : List Value
 no_nil : ∀ w : World, No w (.pointer none)
 bld0 : ∀ w : World, (Instr.build 136 #[]).run prog w = .ok (.agg zc.toArray) w
 bldB : ∀ w : World, (Instr.build 126 #[]).run prog w = .ok (.agg zb.toArray) w
 no_zero : ∀ w : World, No (w.alloc (.cells zc.toArray 136)) (.pointer (some ⟨w.heap.size, 0, none⟩))
 no_below : ∀ {w w' : World} {v : Value}, No w v -> Below w.heap.size w w' -> No w' v
 new_zero : ∀ (w : World) (b : Nat) (id ev : Nat) (x : Ros), w.heap[b]? = some (.cells zb.toArray 126 (0, 0)) -> id < 18446744073709551616 -> ev < 18446744073709551616 -> Calls prog 31 #[.pointer (some ⟨b, 0, none⟩), .int .u64 (id : Int), .int .u64 (ev : Int), ros x] w fun e w' => e = .returned (.tuple #[.pointer none, .int .i64 1]) /\ Below w.heap.size w w'
 no_read : ∀ (w : World) (v : Value) (s m : Int), No w v -> Calls prog 114 #[v, .agg #[.int .i64 s, .int .i64 m]] w fun e w' => e = .returned (.tuple #[blk aD, .int .i64 1]) /\ Below w.heap.size w w'
 no_write : ∀ (w : World) (v : Value) (s m : Int) (b : Blk), No w v -> Calls prog 38 #[v, .agg #[.int .i64 s, .int .i64 m], blk b] w fun e w' => e = .returned (.int .i64 1) /\ Below w.heap.size w w'
 no_event : ∀ (w : World) (v : Value) , No w v -> Calls prog 47 #[v] w fun e w' => e = .returned (.int .u64 0) /\ Below w.heap.size w w'
 no_id : ∀ (w : World) (v : Value) , No w v -> Calls prog 56 #[v] w fun e w' => e = .returned (.int .u64 0) /\ Below w.heap.size w w'
 no_state : ∀ (w : World) (v : Value) , No w v -> Calls prog 182 #[v] w fun e w' => e = .returned (.int .i64 0) /\ Below w.heap.size w w'
theorem iV.below (C : iV) {w w' : World} {G : Nat -> Prop} {q p : Nat} {h : HuS} (hj : C.J w G q p h) (k : Below w.heap.size w w') : C.J w' G q p h := C.only hj (Only.of_below (fun _ => False) k) fun _ _ e => e
structure zn (w0 : World) (B : Nat) : Prop where
 le : B <= w0.heap.size
 t : Tab w0
 lo : 0 < B
theorem fJ {w : World} {b j : Nat} {v : Value} (h : w.cell? ⟨b, j, none⟩ = some v) : b < w.heap.size := by
 rcases Nat.lt_or_ge b w.heap.size with h' | h'
 ·exact h'
 ·have : w.heap[b]? = none := Array.getElem?_eq_none h';simp [World.cell?, this] at h
theorem zn.start {w : World} (h : Tab w) : zn w w.heap.size := ⟨aj, h, fJ (h 0 (by omega))⟩
def HAt (C : iV) (w0 : World) (B : Nat) (K : Nat -> Prop) (w : World) (q p : Nat) (h : HuS) : Prop := ∃ G, C.J w G q p h /\ (∀ b, G b -> B <= b) /\ Below B w0 w /\ zn w0 B /\ ∀ b, K b -> ¬ G b /\ b < w.heap.size
def ci (K : Nat -> Prop) (w w' : World) : Prop := ∀ b, K b -> w'.heap[b]? = w.heap[b]?
theorem ci.refl (K : Nat -> Prop) (w : World) : ci K w w := fun _ _ => rfl
theorem ci.trans {K : Nat -> Prop} {w1 w2 w3 : World} (h : ci K w1 w2) (k : ci K w2 w3) : ci K w1 w3 := fun b e => (k b e).trans (h b e)
theorem ci.less {K K' : Nat -> Prop} {w1 w2 : World} (h : ci K w1 w2) (hK : ∀ b, K' b -> K b) : ci K' w1 w2 := fun b e => h b (hK b e)
theorem ci.at_ {K : Nat -> Prop} {w w' : World} {b : Nat} {o : Obj} (k : ci K w w') (hb : K b) (ho : w.heap[b]? = some o) : w'.heap[b]? = some o := (k b hb).trans ho
theorem ci.jq {K : Nat -> Prop} {w w' : World} {g : Nat} (ho : Only (fun b => b = g) w w') (hK : ∀ b, K b -> b ≠ g /\ b < w.heap.size) : ci K w w' := fun b e => ho.block b (hK b e).2 (hK b e).1
section
variable {C : iV} {w0 w w' : World} {B q p : Nat} {K K' : Nat -> Prop} {h h' : HuS}
theorem HAt.bel (a : HAt C w0 B K w q p h) : Below B w0 w := by obtain ⟨G, h1, h2, h3, _⟩ := a; exact h3
end
structure LC where
 kn : Bool
 dt : Bool
 b : Blk
def lc0 : LC := ⟨false, false, aD⟩
structure LnS where
 l : List LC
 f : Nat
def dd (s : LnS) (k : Nat) : LC := s.l.getD k lc0
def lnR (s : LnS) (m : Int) : Bool := decide (0 <= m) && decide (m < (s.l.length : Int))
def nD (f q : Nat) : Nat := if f = 0 \/ q < f then q else f
def lnE (s : LnS) (m : Int) : Int := if lnR s m then 0 else 2
def fq (s : LnS) (m : Int) (b : Blk) : LnS := if lnR s m then (if (dd s m.toNat).kn then s else ⟨s.l.set m.toNat ⟨true, false, b⟩, s.f⟩) else s
def qu (s : LnS) (m : Int) (q : Nat) : Int := if lnR s m && !decide (q = 0) then 0 else 2
def eJ (s : LnS) (m : Int) (b : Blk) (q : Nat) : LnS := if lnR s m && !decide (q = 0) then ⟨s.l.set m.toNat ⟨true, true, b⟩, nD s.f q⟩ else s
def fX (s : LnS) (m : Int) : LnS := if lnR s m then ⟨s.l.set m.toNat lc0, s.f⟩ else s
def lcC (c : LC) : LC := { c with dt := false }
def gu (s : LnS) : LnS := ⟨s.l.map lcC, 0⟩
def lnG (s : LnS) (m : Int) : LC := if lnR s m then dd s m.toNat else lc0
def fU (l : List LC) : Nat -> List Int
 |0 => []
 |n + 1 => fU l n ++ (if (l.getD n lc0).dt then [(n : Int)] else [])
def lnD (s : LnS) : List Int := fU s.l s.l.length
structure dI (s : LnS) : Prop where
 lo : 1 <= s.l.length
 hi : s.l.length <= 16
 fb : s.f < 18446744073709551616
 no : ∀ k, k < s.l.length -> (dd s k).kn = false -> dd s k = lc0
def dQ (n : Nat) : LnS := ⟨List.replicate n lc0, 0⟩
theorem aeY {f q B : Nat} (hf : f < B) (hq : q < B) : nD f q < B := by unfold nD; split <;> omega
theorem ia {α : Type} (l : List α) (k j : Nat) (a d : α) (hk : k < l.length) : (l.set k a).getD j d = if j = k then a else l.getD j d := by
 by_cases e : j = k
 ·subst e; rw [if_pos rfl]; simp [List.getD, hk]
 ·rw [if_neg e]; simp only [List.getD]; rw [List.getElem?_set_ne (by omega)]
section
variable {s : LnS} {m : Int} {b : Blk} {q n : Nat}
theorem ag0 (h : lnR s m = true) : 0 <= m /\ m < (s.l.length : Int) := by unfold lnR at h; simpa using h
theorem gq {k : Nat} (h : k < s.l.length) : lnR s (k : Int) = true := by unfold lnR; simp [h]
theorem od {a : LC} {f : Nat} (h : dI s) (k : Nat) (ha : a.kn = false -> a = lc0) (hf : f < 18446744073709551616) : dI ⟨s.l.set k a, f⟩ := by
 refine ⟨by rw [List.length_set]; exact h.lo, by rw [List.length_set]; exact h.hi, hf, fun j hj hn => ?_⟩;rw [List.length_set] at hj;unfold dd at hn ⊢;by_cases hk : k < s.l.length
 ·rw [ia _ _ _ _ _ hk] at hn ⊢;by_cases e : j = k
  ·rw [if_pos e] at hn ⊢; exact ha hn
  ·rw [if_neg e] at hn ⊢; exact h.no j hj hn
 ·have e : s.l.set k a = s.l := List.set_eq_of_length_le (by omega);simp only [e] at hn ⊢;exact h.no j hj hn
theorem dI.lrn (h : dI s) (m : Int) (b : Blk) : dI (fq s m b) := by
 unfold fq
 split
 ·split
  ·exact h
  ·exact od h _ (fun e => by cases e) h.fb
 ·exact h
theorem dI.set (h : dI s) (m : Int) (b : Blk) (hq : q < 18446744073709551616) : dI (eJ s m b q) := by
 unfold eJ
 split
 ·exact od h _ (fun e => by cases e) (aeY h.fb hq)
 ·exact h
theorem dI.frg (h : dI s) (m : Int) : dI (fX s m) := by
 unfold fX
 split
 ·exact od h _ (fun _ => rfl) h.fb
 ·exact h
theorem xy (k : Nat) : dd (gu s) k = lcC (dd s k) := by
 unfold dd gu;simp only [List.getD, List.getElem?_map];cases s.l[k]? <;> rfl
theorem dI.cln (h : dI s) : dI (gu s) := by
 refine ⟨by simp [gu]; exact h.lo, by simp [gu]; exact h.hi, by simp [gu], fun k hk hn => ?_⟩;rw [xy] at hn ⊢;have hk' : k < s.l.length := by simpa [gu] using hk
 rw [h.no k hk' hn]
 rfl
theorem dI.new (h1 : 1 <= n) (h2 : n <= 16) : dI (dQ n) := by
 refine ⟨by simp [dQ]; exact h1, by simp [dQ]; exact h2, by simp [dQ], fun k hk _ => ?_⟩;have hk' : k < n := by simpa [dQ] using hk
 simp [dd, dQ, List.getD, hk']
theorem adX (m : Int) (b : Blk) : (fq s m b).l.length = s.l.length := by unfold fq; split <;> (try split) <;> simp
theorem yG (m : Int) (b : Blk) (q : Nat) : (eJ s m b q).l.length = s.l.length := by unfold eJ; split <;> simp
theorem ae7 (m : Int) : (fX s m).l.length = s.l.length := by unfold fX; split <;> simp
theorem yn : (gu s).l.length = s.l.length := by simp [gu]
theorem xL {l : List LC} : ∀ {n : Nat} {x : Int}, x ∈ fU l n -> ∃ k : Nat, x = (k : Int) /\ k < n /\ (l.getD k lc0).dt = true
 |0, x, h => by simp [fU] at h
 |n + 1, x, h => by
  rw [fU, List.mem_append] at h;rcases h with h | h
  ·obtain ⟨k, h1, h2, h3⟩ := xL h; exact ⟨k, h1, by omega, h3⟩
  ·split at h
   ·rename_i e; simp at h; exact ⟨n, h, by omega, e⟩
   ·simp at h
theorem yA (l : List LC) (n : Nat) : (fU l n).length <= n := by
 induction n with
 |zero => simp [fU]
 |succ n ih => rw [fU, List.length_append]; split <;> simp <;> omega
theorem qf {l : List LC} {n : Nat} (h : ∀ k, k < n -> (l.getD k lc0).dt = false) : fU l n = [] := by
 induction n with
 |zero => rfl
 |succ n ih => rw [fU, ih fun k hk => h k (by omega), h n (by omega)]; rfl
theorem yM (n : Nat) : lnD (dQ n) = [] := qf fun k hk => by
 have hk' : k < n := by simpa [dQ] using hk
 simp [dQ, List.getD, hk', lc0]
theorem aeB : lnD (gu s) = [] := qf fun k hk => by
 have := xy (s := s) k;unfold dd at this;rw [this]
 rfl
end
section
variable {s : LnS} {m : Int} {b : Blk} {q k : Nat}
theorem jy (h : lnR s m = true) : ∃ k : Nat, m = (k : Int) /\ k < s.l.length := by
 have := ag0 h;exact ⟨m.toNat, by omega, by omega⟩
theorem mV (h : lnR s m = false) : lnE s m = 2 := by unfold lnE; rw [h]; rfl
theorem sI (h : k < s.l.length) : lnE s (k : Int) = 0 := by unfold lnE; rw [gq h]; rfl
theorem ady (h : lnR s m = false) : fq s m b = s := by unfold fq; rw [h]; rfl
theorem aay (h : k < s.l.length) (hn : (dd s k).kn = true) : fq s (k : Int) b = s := by unfold fq; rw [gq h, Int.toNat_natCast, hn]; rfl
theorem qL (h : k < s.l.length) (hn : (dd s k).kn = false) : fq s (k : Int) b = ⟨s.l.set k ⟨true, false, b⟩, s.f⟩ := by unfold fq; rw [gq h, Int.toNat_natCast, hn]; rfl
theorem afT (h : lnR s m = false) : qu s m q = 2 := by unfold qu; rw [h]; rfl
theorem ahJ : qu s m 0 = 2 := by unfold qu; cases lnR s m <;> rfl
theorem ym (h : k < s.l.length) (hq : q ≠ 0) : qu s (k : Int) q = 0 := by unfold qu; rw [gq h, am hq]; rfl
theorem abE (h : lnR s m = false) : eJ s m b q = s := by unfold eJ; rw [h]; rfl
theorem ae8 : eJ s m b 0 = s := by unfold eJ; cases lnR s m <;> rfl
theorem pZ (h : k < s.l.length) (hq : q ≠ 0) : eJ s (k : Int) b q = ⟨s.l.set k ⟨true, true, b⟩, nD s.f q⟩ := by unfold eJ; rw [gq h, am hq, Int.toNat_natCast]; rfl
theorem acN (h : lnR s m = false) : fX s m = s := by unfold fX; rw [h]; rfl
theorem acG (h : k < s.l.length) : fX s (k : Int) = ⟨s.l.set k lc0, s.f⟩ := by unfold fX; rw [gq h, Int.toNat_natCast]; rfl
theorem ag4 (h : lnR s m = false) : lnG s m = lc0 := by unfold lnG; rw [h]; rfl
theorem aih (h : k < s.l.length) : lnG s (k : Int) = dd s k := by unfold lnG; rw [gq h, Int.toNat_natCast]; rfl
end
structure Ky where
 n : Int
 pin : Bool
def ky0 : Ky := ⟨0, false⟩
def plc (k : Int) : List Ky -> Nat
 |[] => 0
 |x :: r => if x.n = k then 0 else plc k r + 1
theorem oZ {k : Int} {L : List Ky} (h : plc k L < L.length) : (L.getD (plc k L) ky0).n = k := by
 induction L with
 |nil => simp at h
 |cons x r ih =>
  unfold plc at h ⊢
  split
  ·rename_i e; simpa using e
  ·rename_i e
   rw [if_neg e] at h
   simpa using ih (by simpa using h)
theorem ah0 {k : Int} {L : List Ky} {j : Nat} (h : j < plc k L) : (L.getD j ky0).n ≠ k := by
 induction L generalizing j with
 |nil => simp [plc] at h
 |cons x r ih =>
  unfold plc at h
  split at h
  ·omega
  ·rename_i e
   cases j with
   |zero => simpa using e
   |succ j => simpa using ih (by omega)
def wo {α : Type} (L : List α) (i : Nat) : List α := L.take i ++ L.drop (i + 1)
theorem ol {α : Type} {L : List α} {i : Nat} (h : i < L.length) : (wo L i).length + 1 = L.length := by
 unfold wo; simp; omega
theorem mP {α β : Type} (f : α -> β) (L : List α) (i : Nat) : (wo L i).map f = wo (L.map f) i := by unfold wo; simp [List.map_take, List.map_drop]
theorem jH {α : Type} (L : List α) (i : Nat) : (wo L i).Sublist L := by
 unfold wo
 conv => rhs; rw [<- List.take_append_drop i L]
 exact (List.Sublist.refl _).append ((List.drop_sublist_drop_left L (Nat.le_succ i)))
theorem nW {α : Type} (L : List α) (d : α) {i : Nat} (h : i < L.length) : L = L.take i ++ L.getD i d :: L.drop (i + 1) := by
 conv => lhs; rw [<- List.take_append_drop i L]
 rw [List.drop_eq_getElem_cons h];simp [List.getD, h]
theorem getD_map {α β : Type} (f : α -> β) (L : List α) (d : α) (e : β) {i : Nat} (h : i < L.length) : (L.map f).getD i e = f (L.getD i d) := by simp [List.getD, h]
def lu : List Ky -> Nat
 |[] => 0
 |x :: r => if 0 < lu r then lu r + 1 else if x.pin = true then 0 else 1
theorem acP (L : List Ky) : lu L <= L.length := by
 induction L with
 |nil => exact aj
 |cons x r ih => unfold lu; split <;> (try split) <;> simp <;> omega
theorem ahN {L : List Ky} {j : Nat} (h : lu L <= j) (hj : j < L.length) : (L.getD j ky0).pin = true := by
 induction L generalizing j with
 |nil => simp at hj
 |cons x r ih =>
  unfold lu at h
  split at h
  ·cases j with
   |zero => omega
   |succ j => simpa using ih (by omega) (by simpa using hj)
  ·split at h
   ·rename_i h0 hx
    cases j with
    |zero => simpa using hx
    |succ j => simpa using ih (by omega) (by simpa using hj)
   ·cases j with
    |zero => omega
    |succ j => simpa using ih (by omega) (by simpa using hj)
theorem ago {L : List Ky} (h : 0 < lu L) : (L.getD (lu L - 1) ky0).pin = false := by
 induction L with
 |nil => simp [lu] at h
 |cons x r ih =>
  unfold lu at h ⊢
  split
  ·rename_i h0
   have := ih h0;rw [show lu r + 1 - 1 = (lu r - 1) + 1 from by omega]
   simpa using this
  ·rename_i h0
   rw [if_neg h0] at h
   split
   ·rename_i hx; rw [if_pos hx] at h; omega
   ·rename_i hx; simpa using hx
theorem ai6 {L : List Ky} {i : Nat} (hi : i < L.length) (h : (L.getD i ky0).pin = false) (hn : ∀ j, i < j -> j < L.length -> (L.getD j ky0).pin = true) : lu L = i + 1 := by
 have h1 := acP L;rcases Nat.lt_trichotomy (lu L) (i + 1) with h2 | h2 | h2
 ·have := ahN (L := L) (j := i) (by omega) hi;rw [h] at this; cases this
 ·exact h2
 ·have := ago (L := L) (by omega);rw [hn (lu L - 1) (by omega) (by omega)] at this; cases this
theorem ae0 {L : List Ky} (hn : ∀ j, j < L.length -> (L.getD j ky0).pin = true) : lu L = 0 := by
 have h1 := acP L;rcases Nat.eq_zero_or_pos (lu L) with h2 | h2
 ·exact h2
 ·have := ago h2;rw [hn (lu L - 1) (by omega)] at this; cases this
def vg (room : Nat) (k : Int) (L : List Ky) : List Ky := if plc k L < L.length then L.getD (plc k L) ky0 :: wo L (plc k L) else if L.length < room then ⟨k, false⟩ :: L else if lu L = 0 then L else ⟨k, false⟩ :: wo L (lu L - 1)
def tW (room : Nat) (k : Int) (L : List Ky) : Int := if plc k L < L.length then 0 else if L.length < room then 0 else if lu L = 0 then 0 else (L.getD (lu L - 1) ky0).n
def wQ (room : Nat) (k : Int) (L : List Ky) : Bool := if plc k L < L.length then false else if L.length < room then false else if lu L = 0 then false else true
def vG (room : Nat) (k : Int) (L : List Ky) : Int := if plc k L < L.length then 0 else if L.length < room then 0 else if lu L = 0 then 10 else 0
def mW (k : Int) (is : Bool) (L : List Ky) : List Ky := if plc k L < L.length then L.set (plc k L) ⟨k, is⟩ else L
def xk (k : Int) (L : List Ky) : List Ky := if plc k L < L.length then wo L (plc k L) else L
def nJ (k : Int) (L : List Ky) : Int := if plc k L < L.length then 0 else 7
def ql (k : Int) (L : List Ky) : Bool := decide (plc k L < L.length) && (L.getD (plc k L) ky0).pin
def fy (L : List Ky) : List Int := L.map Ky.n
structure LOk (room : Nat) (L : List Ky) : Prop where
 one : (fy L).Nodup
 len : L.length <= room
 wf : ∀ x ∈ L, (Lit.int .i64 x.n).wf = true
theorem cz {α : Type} {L : List α} {d : α} {i : Nat} (h : i < L.length) : L.getD i d ∈ L := by simp [List.getD, h]
theorem lO {k : Int} {L : List Ky} : plc k L < L.length ↔ k ∈ fy L := by
 constructor
 ·intro h;unfold fy;exact List.mem_map.2 ⟨_, cz h, oZ h⟩
 ·intro h;unfold fy at h;obtain ⟨x, hx, e⟩ := List.mem_map.1 h;rcases Nat.lt_or_ge (plc k L) L.length with h2 | h2
  ·exact h2
  ·obtain ⟨j, hj, e2⟩ := List.getElem_of_mem hx;exact absurd (by simp [List.getD, hj, e2, e]) (ah0 (k := k) (L := L) (j := j) (by omega))
section
variable {room : Nat} {k : Int} {L : List Ky} {is : Bool}
theorem LOk.nil : LOk room [] := ⟨by simp [fy], by simp, by simp⟩
theorem LOk.wo (h : LOk room L) (i : Nat) : LOk room (wo L i) :=
 ⟨h.one.sublist ((jH L i).map _), aq (jH L i).length_le h.len, fun x hx => h.wf x ((jH L i).subset hx)⟩
theorem LOk.lt (h : LOk room L) {i : Nat} (hi : i < L.length) : (Proofs.YtdmhelalbemlcaaGreatDoor.wo L i).length < room := by have := ol hi; have := h.len; omega
theorem ahw {L : List Ky} (h : (fy L).Nodup) {i : Nat} (hi : i < L.length) : (L.getD i ky0).n ∉ fy (wo L i) := by
 have e := nW L ky0 hi;unfold fy wo at *;rw [e, List.map_append, List.map_cons] at h;rw [List.map_append];have := List.nodup_append.1 h;intro hm;rcases List.mem_append.1 hm with hm | hm
 ·exact this.2.2 _ hm _ (by simp) rfl
 ·exact (List.nodup_cons.1 this.2.1).1 hm
theorem LOk.cons (h : LOk room L) {x : Ky} (hn : x.n ∉ fy L) (hl : L.length < room) (hw : (Lit.int .i64 x.n).wf = true) : LOk room (x :: L) :=
 ⟨by unfold fy at *; rw [List.map_cons]; exact List.nodup_cons.2 ⟨hn, h.one⟩, by simp; omega, fun y hy => by
  rcases List.mem_cons.1 hy with rfl | hy
  ·exact hw
  ·exact h.wf y hy⟩
theorem abi {i : Nat} {x : Ky} (hx : x.n = (L.getD i ky0).n) : fy (L.set i x) = fy L := by
 unfold fy;rw [List.map_set];rcases Nat.lt_or_ge i L.length with hi | hi
 ·apply List.ext_getElem (by simp);intro j h1 h2;rw [List.getElem_set]
  split
  ·rename_i e; subst e; simp [hx, List.getD, hi]
  ·rfl
 ·rw [List.set_eq_of_length_le (by simpa using hi)]
theorem ul : fy (mW k is L) = fy L := by
 unfold mW
 split
 ·rename_i h; exact abi (oZ h).symm
 ·rfl
theorem LOk.pin (h : LOk room L) : LOk room (mW k is L) := by
 refine ⟨by rw [ul]; exact h.one, by unfold mW; split <;> simp [h.len], fun x hx => ?_⟩;have : x.n ∈ fy (mW k is L) := List.mem_map.2 ⟨x, hx, rfl⟩;rw [ul] at this;obtain ⟨y, hy, e⟩ := List.mem_map.1 this;rw [<- e]; exact h.wf y hy
end
def dj {α : Type} (f : Nat -> α) (i : Nat) (x : α) : Nat -> α := fun j => if j = i then x else f j
theorem dc {α : Type} (f : Nat -> α) (i : Nat) (x : α) : dj f i x i = x := if_pos rfl
theorem cj {α : Type} (f : Nat -> α) {i j : Nat} (x : α) (h : j ≠ i) : dj f i x j = f j := if_neg h
def Seg (pv nx : Nat -> Nat) : Nat -> List Nat -> Nat -> Prop
 |a, [], b => nx a = b /\ pv b = a
 |a, x :: r, b => nx a = x /\ pv x = a /\ Seg pv nx x r b
section
variable {pv nx pv' nx' : Nat -> Nat} {a b c n : Nat} {l r : List Nat}
theorem seg_append : Seg pv nx a (l ++ c :: r) b ↔ Seg pv nx a l c /\ Seg pv nx c r b := by
 induction l generalizing a with
 |nil => simp [Seg, and_assoc]
 |cons x l ih => simp [Seg, ih, and_assoc]
theorem tU (h : Seg pv nx a l b) (hn : ∀ x, x = a \/ x ∈ l -> nx' x = nx x) (hp : ∀ x, x ∈ l \/ x = b -> pv' x = pv x) : Seg pv' nx' a l b := by
 induction l generalizing a with
 |nil => exact ⟨(hn a (.inl rfl)).trans h.1, (hp b (.inr rfl)).trans h.2⟩
 |cons x l ih =>
  refine ⟨(hn a (.inl rfl)).trans h.1, (hp x (.inl (by simp))).trans h.2.1, ih h.2.2 (fun y hy => hn y (.inr ?_)) fun y hy => hp y ?_⟩
  ·rcases hy with rfl | hy
   ·simp
   ·simp [hy]
  ·rcases hy with hy | hy
   ·exact .inl (by simp [hy])
   ·exact .inr hy
theorem rR (h : Seg pv nx a l b) : pv b ∈ a :: l := by
 induction l generalizing a with
 |nil => rw [h.2]; simp
 |cons x l ih => exact List.mem_cons_of_mem _ (ih h.2.2)
theorem rK (h : Seg pv nx a l b) : nx a ∈ l ++ [b] := by
 cases l with
 |nil => rw [h.1]; simp
 |cons x l => rw [h.1]; simp
theorem x8 (h : Seg pv nx a l n) (hd : (a :: l).Nodup) (hn : ∀ x, x ∈ a :: l -> x ≠ pv n -> nx' x = nx x) (hp : ∀ x, x ∈ l -> pv' x = pv x) (h1 : nx' (pv n) = b) (h2 : pv' b = pv n) : Seg pv' nx' a l b := by
 induction l generalizing a with
 |nil => have e := h.2; rw [e] at h1 h2; exact ⟨h1, h2⟩
 |cons x l ih =>
  have hm := rR h.2.2;have hd' := List.nodup_cons.1 hd;refine ⟨(hn a (by simp) fun e => hd'.1 (by rw [e]; exact hm)).trans h.1, (hp x (by simp)).trans h.2.1, ih h.2.2 hd'.2 (fun y hy => hn y (List.mem_cons_of_mem _ hy)) fun y hy => hp y (by simp [hy])⟩
theorem aaO (h : Seg pv nx n l b) (hd : (l ++ [b]).Nodup) (h1 : nx' a = nx n) (h2 : pv' (nx n) = a) (hn : ∀ x, x ∈ l -> nx' x = nx x) (hp : ∀ x, x ∈ l ++ [b] -> x ≠ nx n -> pv' x = pv x) : Seg pv' nx' a l b := by
 cases l with
 |nil => have e := h.1; rw [e] at h1 h2; exact ⟨h1, h2⟩
 |cons y l =>
  have e := h.1;rw [e] at h1 h2;rw [List.cons_append] at hd;have hd' := List.nodup_cons.1 hd;refine ⟨h1, h2, tU h.2.2 (fun x hx => hn x ?_) fun x hx => ?_⟩
  ·rcases hx with rfl | hx
   ·simp
   ·simp [hx]
  ·have hx' : x ∈ l ++ [b] := by
    rcases hx with hx | rfl
    ·simp [hx]
    ·simp
   exact hp x (by rw [List.cons_append]; exact List.mem_cons_of_mem _ hx') fun e2 => hd'.1 (by rw [e] at e2; rw [<- e2]; exact hx')
theorem zM {E : Nat} (h : Seg pv nx E (l ++ n :: r) E) (hd : (E :: (l ++ n :: r)).Nodup) : Seg (dj pv (nx n) (pv n)) (dj nx (pv n) (nx n)) E (l ++ r) E := by
 obtain ⟨h1, h2⟩ := seg_append.1 h;have hdE := List.nodup_cons.1 hd;have hdl := List.nodup_append.1 hdE.2;have hdn := List.nodup_cons.1 hdl.2.1;have hel : (E :: l).Nodup := List.nodup_cons.2 ⟨fun e => hdE.1 (by simp [e]), hdl.1⟩;have hm := rR h1;cases r with
 |nil =>
  have e : nx n = E := h2.1;rw [List.append_nil];refine x8 (n := n) h1 hel (fun x _ hx => cj _ _ hx) (fun x hx => cj _ _ ?_) (by rw [dc]; exact e) (by rw [<- e, dc]);rw [e]; rintro rfl; exact hdE.1 (by simp [hx])
 |cons y r =>
  have e : nx n = y := h2.1;refine seg_append.2 ⟨x8 (n := n) h1 hel (fun x _ hx => cj _ _ hx) (fun x hx => cj _ _ ?_) (by rw [dc]; exact e) (by rw [<- e, dc]), tU h2.2.2 (fun x hx => cj _ _ ?_) fun x hx => cj _ _ ?_⟩
  ·rw [e]; rintro rfl; exact hdl.2.2 x hx x (by simp) rfl
  ·have hx' : x ∈ y :: r := by
    rcases hx with rfl | hx
    ·simp
    ·simp [hx]
   intro e2;rw [<- e2] at hm;rcases List.mem_cons.1 hm with rfl | hm
   ·exact hdE.1 (by simp [hx'])
   ·exact hdl.2.2 x hm x (List.mem_cons_of_mem _ hx') rfl
  ·rw [e];have hyr := List.nodup_cons.1 hdn.2;rcases hx with hx | rfl
   ·rintro rfl; exact hyr.1 hx
   ·rintro rfl; exact hdE.1 (by simp)
theorem pD {E : Nat} (h : Seg pv nx E l E) (hd : (E :: l).Nodup) (hn : n ∉ E :: l) : Seg (dj (dj pv n E) (nx E) n) (dj (dj nx n (nx E)) E n) E (n :: l) E := by
 have hm := rK h;have hdE := List.nodup_cons.1 hd;have hmE : nx E ∈ E :: l := by
  rcases List.mem_append.1 hm with e | e
  ·exact List.mem_cons_of_mem _ e
  ·simp at e; rw [e]; simp
 have hne : n ≠ nx E := fun e => hn (by rw [e]; exact hmE)
 have hnE : n ≠ E := fun e => hn (by rw [e]; simp)
 refine ⟨dc _ _ _, by rw [cj _ _ hne, dc], aaO h ?_ (by rw [cj _ _ hnE, dc]) (dc _ _ _) (fun x hx => ?_) fun x hx hx2 => ?_⟩
 ·refine List.nodup_append.2 ⟨hdE.2, by simp, fun x hx y hy e => ?_⟩;simp at hy; subst hy e; exact hdE.1 hx
 ·rw [cj _ _ (fun e => hdE.1 (by rw [<- e]; exact hx)), cj _ _ (fun e => hn (by rw [<- e]; exact List.mem_cons_of_mem _ hx))]
 ·rw [cj _ _ hx2, cj _ _ fun e => hn ?_];rw [<- e];rcases List.mem_append.1 hx with e | e
  ·exact List.mem_cons_of_mem _ e
  ·simp at e; rw [e]; simp
theorem aeS (h : Seg pv nx a l b) (i : Nat) (hi : i <= l.length) : nx ((a :: l).getD i 0) = (l ++ [b]).getD i 0 := by
 induction l generalizing a i with
 |nil =>
  obtain rfl : i = 0 := by simpa using hi
  simpa using h.1
 |cons x l ih =>
  cases i with
  |zero => simpa using h.1
  |succ i => simpa using ih h.2.2 i (by simpa using hi)
theorem aec (h : Seg pv nx a l b) (i : Nat) (hi : i <= l.length) : pv ((l ++ [b]).getD i 0) = (a :: l).getD i 0 := by
 induction l generalizing a i with
 |nil =>
  obtain rfl : i = 0 := by simpa using hi
  simpa using h.2
 |cons x l ih =>
  cases i with
  |zero => simpa using h.2.1
  |succ i => simpa using ih h.2.2 i (by simpa using hi)
end
def nG (b : Nat) : List Nat -> Nat
 |[] => 0
 |x :: r => if x = b then 0 else nG b r + 1
theorem kX {l : List Nat} (hd : l.Nodup) {i : Nat} (h : i < l.length) : nG (l.getD i 0) l = i := by
 induction l generalizing i with
 |nil => simp at h
 |cons x r ih =>
  have hd' := List.nodup_cons.1 hd;unfold nG;cases i with
  |zero => simp
  |succ i =>
   have hi : i < r.length := by simpa using h
   have hm : r.getD i 0 ∈ r := cz hi;rw [show (x :: r).getD (i + 1) 0 = r.getD i 0 from rfl, if_neg (fun e => hd'.1 (by rw [e]; exact hm)), ih hd'.2 hi]
def ags : Value -> Nat
 |.pointer (some a) => a.block
 |_ => 0
theorem abQ {bs : List Nat} {i b : Nat} (hi : i < bs.length) (hb : b ∈ bs) (hn : b ≠ bs.getD i 0) : b ∈ wo bs i := by
 rw [nW bs 0 hi] at hb;unfold wo;rcases List.mem_append.1 hb with h | h
 ·exact List.mem_append.2 (.inl h)
 ·rcases List.mem_cons.1 h with h | h
  ·exact absurd h hn
  ·exact List.mem_append.2 (.inr h)
theorem xA {bs : List Nat} (hd : bs.Nodup) {i : Nat} (hi : i < bs.length) : bs.getD i 0 ∉ wo bs i := by
 have e := nW bs 0 hi;rw [e] at hd;have h := List.nodup_append.1 hd;unfold wo;intro hm;rcases List.mem_append.1 hm with hm | hm
 ·exact h.2.2 _ hm _ (by simp) rfl
 ·exact (List.nodup_cons.1 h.2.1).1 hm
theorem ab9 {pv nx : Nat -> Nat} {E i : Nat} {bs : List Nat} (h : Seg pv nx E bs E) (hd : (E :: bs).Nodup) (hi : i < bs.length) : Seg (dj pv (nx (bs.getD i 0)) (pv (bs.getD i 0))) (dj nx (pv (bs.getD i 0)) (nx (bs.getD i 0))) E (wo bs i) E := by
 have e := nW bs 0 hi;have h' : Seg pv nx E (bs.take i ++ bs.getD i 0 :: bs.drop (i + 1)) E := by rw [<- e]; exact h
 have hd' : (E :: (bs.take i ++ bs.getD i 0 :: bs.drop (i + 1))).Nodup := by rw [<- e]; exact hd
 exact zM h' hd'
theorem zD {α : Type} (f : Nat -> α) (i : Nat) : dj f i (f i) = f := by
 funext j
 unfold dj
 split
 ·rename_i e; rw [e]
 ·rfl
structure ShS where
 N : Nat
 T : Nat
 room : Nat
 o : List Nat
 ln : Nat -> Option LnS
structure dJ where
 n : Int
 m : Int
 b : Blk
section
def ShS.str (s : ShS) (n : Int) : Bool := decide (0 <= n /\ n < (s.T : Int))
def ShS.plc (s : ShS) (n m : Int) : Bool := decide (0 <= n /\ n < (s.T : Int) /\ 0 <= m /\ m < (s.N : Int))
def ShS.bX (s : ShS) (n : Nat) : LnS := (s.ln n).getD (dQ s.N)
def jS (x : LnS) : Bool := !decide (lnD x = [])
def ShS.dty (s : ShS) (n : Nat) : Bool := match s.ln n with
 |none => false
 |some x => jS x
def ShS.dn (s : ShS) (n : Nat) (x : Option LnS) : ShS := { s with ln := fun j => if j = n then x else s.ln j }
def dB (o : List Nat) (n : Nat) : List Nat := o.filter fun j => !decide (j = n)
def luD (d : Nat -> Bool) : List Nat -> Nat
 |[] => 0
 |x :: r => if 0 < luD d r then luD d r + 1 else if d x = true then 0 else 1
def ShS.goes (s : ShS) (n : Nat) : Bool := (s.ln n).isNone && decide (s.room <= s.o.length)
def ShS.gone (s : ShS) : Nat := s.o.getD (luD s.dty s.o - 1) 0
def ShS.eA (s : ShS) (n : Nat) : Bool := !(s.goes n && decide (luD s.dty s.o = 0))
def ShS.cut (s : ShS) (n : Nat) : ShS := if s.goes n = true then { s.dn s.gone none with o := dB s.o s.gone } else s
def ShS.tch (s : ShS) (n : Nat) : ShS := if s.eA n = true then { (s.cut n).dn n (some (s.bX n)) with o := n :: dB (s.cut n).o n } else s
def ShS.knw (s : ShS) (n : Nat) (m : Int) : Bool := (lnG (s.bX n) m).kn
def iP (s : ShS) (h : HuS) (n m : Int) : Int × Blk × ShS × HuS :=
 if s.plc n m = true then
  (if s.knw n.toNat m = true then (0, (lnG (s.bX n.toNat) m).b, s.tch n.toNat, h)
   else ((ju h n m).1, (ju h n m).2.1, if (ju h n m).1 = 0 /\ s.eA n.toNat = true then (s.tch n.toNat).dn n.toNat (some (fq ((s.tch n.toNat).bX n.toNat) m (ju h n m).2.1)) else s, (ju h n m).2.2))
 else (2, aD, s, h)
def agu (s : ShS) (h : HuS) (n m : Int) : Prop := s.plc n m = true -> s.knw n.toNat m = false -> ae1 h n m
def pP (d : Nat -> Bool) : Nat -> List Int
 |0 => []
 |k + 1 => pP d k ++ (if d k = true then [(k : Int)] else [])
def ShS.dw (s : ShS) : List Int := pP s.dty s.T
def fm : List Int -> List Int -> List Int
 |l, [] => l
 |l, x :: r => fm (if l.contains x then l else l ++ [x]) r
def ShS.fits (s : ShS) (l : List Int) : Bool := decide ((fm s.dw l).length <= s.room)
def iB (s : ShS) (q : Nat) (c : List dJ) : Int :=
 if c.all (fun x => s.plc x.n x.m) = true then (if q = 0 then 2 else if s.fits (c.map dJ.n) = true then 0 else 10) else 2
def dM (q : Nat) (s : ShS) (x : dJ) : ShS := (s.tch x.n.toNat).dn x.n.toNat (some (eJ ((s.tch x.n.toNat).bX x.n.toNat) x.m x.b q))
def rZ (N : Nat) (c : List dJ) (n : Int) : Bool := c.any fun x => decide (x.n = n) && decide (x.m = ((N - 1 - n.toNat % N : Nat) : Int))
def cM (c : List dJ) (s : ShS) (x : dJ) : ShS := if rZ s.N c x.n = true then s else s.dn x.n.toNat (some (fX (s.bX x.n.toNat) ((s.N - 1 - x.n.toNat % s.N : Nat) : Int)))
def nB (s : ShS) (q : Nat) (c : List dJ) : ShS := if iB s q c = 0 then c.foldl (cM c) (c.foldl (dM q) s) else s
def qz (x : LnS) : Nat -> List Bool
 |0 => []
 |k + 1 => qz x k ++ [(dd x k).kn]
def oQ (s : ShS) (n : Int) : List Bool := if s.str n = true then qz (s.bX n.toNat) s.N else []
def ad3 (n : Int) (x : LnS) : Nat -> List dJ
 |0 => []
 |k + 1 => ad3 n x k ++ (if (dd x k).dt = true then [⟨n, (k : Int), (dd x k).b⟩] else [])
def ot (s : ShS) (n : Int) : List dJ := if s.str n = true then ad3 n (s.bX n.toNat) s.N else []
def shE (s : ShS) (n : Int) : Int := if s.str n = true then 0 else 2
def iN (s : ShS) (n : Int) : ShS := if s.str n = true /\ (s.ln n.toNat).isSome = true then s.dn n.toNat (some (gu (s.bX n.toNat))) else s
def kR (s : ShS) (n : Int) : ShS := if s.str n = true then { s.dn n.toNat none with o := dB s.o n.toNat } else s
def abP (s : ShS) : Nat -> Nat
 |0 => 0
 |k + 1 => if s.dty k = true then nD (abP s k) (s.bX k).f else abP s k
def ShS.first (s : ShS) : Nat := abP s s.T
def ShS.strs (s : ShS) : List Int := s.o.map fun (n : Nat) => (n : Int)
def x6 (N T room : Nat) : ShS := ⟨N, T, room, [], fun _ => none⟩
structure cf (s : ShS) : Prop where
 n3 : 3 <= s.N
 n16 : s.N <= 16
 t1 : 1 <= s.T
 t64 : s.T <= 64
 r1 : 1 <= s.room
 r64 : s.room <= 64
 nd : s.o.Nodup
 mem : ∀ n, n ∈ s.o ↔ (s.ln n).isSome = true
 lt : ∀ n ∈ s.o, n < s.T
 len : s.o.length <= s.room
 ok : ∀ n x, s.ln n = some x -> dI x /\ x.l.length = s.N
end
section
variable {o : List Nat} {n j k : Nat} {d : Nat -> Bool}
theorem gC : j ∈ dB o n ↔ j ∈ o /\ j ≠ n := by unfold dB; simp
theorem yc (h : o.Nodup) : (dB o n).Nodup := h.filter _
theorem jF (h : n ∉ o) : dB o n = o := by
 unfold dB;rw [List.filter_eq_self];intro x hx;have : x ≠ n := fun e => h (by rw [<- e]; exact hx)
 simp [this]
theorem oc : (dB o n).length <= o.length := List.length_filter_le _ _
theorem yL (h : n ∈ o) : (dB o n).length + 1 <= o.length := by
 have := List.length_filter_lt_length_iff_exists (p := fun j => !decide (j = n)) (l := o);have h2 : (dB o n).length < o.length := this.2 ⟨n, h, by simp⟩;omega
theorem xm (o : List Nat) : luD d o <= o.length := by
 induction o with
 |nil => exact aj
 |cons x r ih => unfold luD; split <;> (try split) <;> simp <;> omega
theorem aeL {i : Nat} (h : luD d o <= i) (hi : i < o.length) : d (o.getD i 0) = true := by
 induction o generalizing i with
 |nil => simp at hi
 |cons x r ih =>
  unfold luD at h
  split at h
  ·cases i with
   |zero => omega
   |succ i => simpa using ih (by omega) (by simpa using hi)
  ·split at h
   ·rename_i h0 hx
    cases i with
    |zero => simpa using hx
    |succ i => simpa using ih (by omega) (by simpa using hi)
   ·cases i with
    |zero => omega
    |succ i => simpa using ih (by omega) (by simpa using hi)
theorem agZ (h : 0 < luD d o) : d (o.getD (luD d o - 1) 0) = false := by
 induction o with
 |nil => simp [luD] at h
 |cons x r ih =>
  unfold luD at h ⊢
  split
  ·rename_i h0
   have := ih h0;rw [show luD d r + 1 - 1 = (luD d r - 1) + 1 from by omega]
   simpa using this
  ·rename_i h0
   rw [if_neg h0] at h
   split
   ·rename_i hx; rw [if_pos hx] at h; omega
   ·rename_i hx; simpa using hx
theorem abd : ∀ (L : List Ky) (o : List Nat), L.map Ky.n = o.map (fun (n : Nat) => (n : Int)) -> (∀ k ∈ L, ∀ n : Nat, k.n = (n : Int) -> k.pin = d n) -> lu L = luD d o
 |[], [], _, _ => rfl
 |[], _ :: _, e, _ => by simp at e
 |_ :: _, [], e, _ => by simp at e
 |x :: r, n :: o, e, h => by
  simp only [List.map_cons, List.cons.injEq] at e;have ih := abd r o e.2 fun k hk => h k (List.mem_cons_of_mem _ hk)
  rw [lu, luD, ih, h x (List.mem_cons_self ..) n e.1]
end
section
variable {s : ShS} {n j : Nat}
theorem cf.ajE (h : cf s) {i : Nat} (hi : i < s.o.length) : s.o.getD i 0 ∈ s.o := by
 rw [List.getD, List.getElem?_eq_getElem hi]; exact List.getElem_mem hi
theorem cU (s : ShS) (n j : Nat) (x : Option LnS) : (s.dn n x).ln j = if j = n then x else s.ln j := rfl
theorem dW {x : LnS} (h : s.ln n = some x) : s.bX n = x := by unfold ShS.bX; rw [h]; rfl
theorem gW (h : s.ln n = none) : s.bX n = dQ s.N := by unfold ShS.bX; rw [h]; rfl
theorem cf.line (h : cf s) (n : Nat) : dI (s.bX n) /\ (s.bX n).l.length = s.N := by
 cases e : s.ln n with
 |none => rw [gW e]; exact ⟨dI.new (by have := h.n3; omega) h.n16, by simp [dQ]⟩
 |some x => rw [dW e]; exact h.ok n x e
theorem cf.gone (h : cf s) (hl : 0 < luD s.dty s.o) : s.gone ∈ s.o /\ s.dty s.gone = false := by
 have := xm (d := s.dty) s.o;exact ⟨h.ajE (by omega), agZ hl⟩
theorem cf.dn (h : cf s) {x : LnS} (hn : n ∈ s.o) (hx : dI x) (hl : x.l.length = s.N) : cf (s.dn n (some x)) := by
 refine ⟨h.n3, h.n16, h.t1, h.t64, h.r1, h.r64, h.nd, fun j => ?_, h.lt, h.len, fun j y hj => ?_⟩
 ·rw [cU];by_cases e : j = n
  ·rw [if_pos e]; subst e; exact ⟨fun _ => rfl, fun _ => hn⟩
  ·rw [if_neg e]; exact h.mem j
 ·rw [cU] at hj;by_cases e : j = n
  ·rw [if_pos e] at hj; injection hj with hj; subst hj; exact ⟨hx, hl⟩
  ·rw [if_neg e] at hj; exact h.ok j y hj
theorem cf.drop (h : cf s) (n : Nat) : cf { s.dn n none with o := dB s.o n } := by
 refine ⟨h.n3, h.n16, h.t1, h.t64, h.r1, h.r64, yc h.nd, fun j => ?_, fun j hj => h.lt j (gC.1 hj).1, aq oc h.len, fun j y hj => ?_⟩
 ·show j ∈ dB s.o n ↔ ((s.dn n none).ln j).isSome = true
  rw [gC, cU];by_cases e : j = n
  ·rw [if_pos e]; exact ⟨fun h' => absurd e h'.2, fun h' => by cases h'⟩
  ·rw [if_neg e, <- h.mem j]; exact ⟨fun h' => h'.1, fun h' => ⟨h', e⟩⟩
 ·replace hj : (s.dn n none).ln j = some y := hj;rw [cU] at hj;by_cases e : j = n
  ·rw [if_pos e] at hj; cases hj
  ·rw [if_neg e] at hj; exact h.ok j y hj
theorem cf.cut (h : cf s) (n : Nat) : cf (s.cut n) := by
 unfold ShS.cut
 split
 ·exact h.drop _
 ·exact h
theorem ShS.agB (s : ShS) (n : Nat) : (s.cut n).N = s.N /\ (s.cut n).T = s.T /\ (s.cut n).room = s.room := by unfold ShS.cut; split <;> exact ⟨rfl, rfl, rfl⟩
theorem ShS.ph (s : ShS) (n : Nat) : (s.tch n).N = s.N /\ (s.tch n).T = s.T /\ (s.tch n).room = s.room := by
 unfold ShS.tch
 split
 ·exact s.agB n
 ·exact ⟨rfl, rfl, rfl⟩
theorem cf.tch (h : cf s) (hn : n < s.T) : cf (s.tch n) := by
 unfold ShS.tch
 split
 ·rename_i ht
  have hc := h.cut n;obtain ⟨e1, e2, e3⟩ := s.agB n;refine ⟨hc.n3, hc.n16, hc.t1, hc.t64, hc.r1, hc.r64, ?_, fun j => ?_, fun j hj => ?_, ?_, fun j y hj => ?_⟩
  ·exact List.nodup_cons.2 ⟨fun e => (gC.1 e).2 rfl, yc hc.nd⟩
  ·show j ∈ n :: dB (s.cut n).o n ↔ (((s.cut n).dn n (some (s.bX n))).ln j).isSome = true
   rw [cU, List.mem_cons, gC];by_cases e : j = n
   ·rw [if_pos e]; exact ⟨fun _ => rfl, fun _ => .inl e⟩
   ·rw [if_neg e, <- hc.mem j]; exact ⟨fun h' => by rcases h' with h' | h'; exact absurd h' e; exact h'.1, fun h' => .inr ⟨h', e⟩⟩
  ·rcases List.mem_cons.1 hj with e | e
   ·subst e; show j < (s.cut j).T; rw [e2]; exact hn
   ·exact hc.lt j (gC.1 e).1
  ·show (n :: dB (s.cut n).o n).length <= (s.cut n).room
   rw [List.length_cons, e3];by_cases hg : s.goes n = true
   ·have hl : 0 < luD s.dty s.o := by
     unfold ShS.eA at ht;rw [hg] at ht;simp at ht;omega
    have hm := (h.gone hl).1;have ec : (s.cut n).o = dB s.o s.gone := by unfold ShS.cut; rw [if_pos hg]
    rw [ec];have := yL hm;have := oc (o := dB s.o s.gone) (n := n);have := h.len;omega
   ·have ec : s.cut n = s := by unfold ShS.cut; rw [if_neg hg]
    rw [ec];unfold ShS.goes at hg;have hl := h.len;cases e : s.ln n with
    |none =>
     rw [e] at hg;simp at hg;have := oc (o := s.o) (n := n);omega
    |some x =>
     have hm : n ∈ s.o := (h.mem n).2 (by rw [e]; rfl);have := yL hm;omega
  ·replace hj : ((s.cut n).dn n (some (s.bX n))).ln j = some y := hj;rw [cU] at hj
   show dI y /\ y.l.length = (s.cut n).N
   by_cases e : j = n
   ·rw [if_pos e] at hj; injection hj with hj; subst hj; rw [e1]; exact h.line n
   ·rw [if_neg e] at hj; exact hc.ok j y hj
 ·exact h
theorem cf.new {N T room : Nat} (h1 : 3 <= N) (h2 : N <= 16) (h3 : 1 <= T) (h4 : T <= 64) (h5 : 1 <= room) (h6 : room <= 64) : cf (x6 N T room) :=
 ⟨h1, h2, h3, h4, h5, h6, List.nodup_nil, fun n => ⟨fun h => (by cases h), fun h => (by cases h)⟩, fun n h => (by cases h), Nat.zero_le _, fun n x h => (by cases h)⟩
end
def er (s m : Int) : List Value := [.int .i64 s, .int .i64 m]
def plV (s m : Int) : Value := .agg (er s m).toArray
def el (c : Cl) : List Value := .int .i64 c.s :: .int .i64 c.m :: cel c.b
def clV (c : Cl) : Value := .agg (el c).toArray
theorem fK (c : Cl) : (el c).length = 66 := by simp [el, aJ]
theorem tq (c : Cl) : ∀ v ∈ el c, v.oneCell' = true := by
 intro v hv;simp only [el, List.mem_cons] at hv;rcases hv with rfl | rfl | hv
 ·rfl
 ·rfl
 ·exact lQ c.b v hv
theorem adB (s m : Int) : ∀ v ∈ er s m, v.oneCell' = true := by
 intro v hv;simp only [er, List.mem_cons, List.not_mem_nil, or_false] at hv;rcases hv with rfl | rfl <;> rfl
theorem agw : (prog.info? 56).map (·.size) = some 66 := by kernel_rfl
theorem agy : (prog.info? 43).map (·.size) = some 2 := by kernel_rfl
theorem aiV : (prog.info? 56).map (fun i => (i.zero, i.size, i.bytes)) = some (some (clV jQ), 66, 80) := by kernel_rfl
theorem pj : (prog.info? 56).map (fun i => i.zero) = some (some (.agg (el jQ).toArray)) := by kernel_rfl
theorem wZ : (prog.info? 43).map (fun i => i.zero) = some (some (.agg (er 0 0).toArray)) := by kernel_rfl
def cQ : Elt Cl where
 s := 47
 t := 56
 n := 66
 by_ := 80
 cel := el
 d := jQ
 z := clV jQ
 pos := by omega
 small := by omega
 len := fK
 one := tq
 und := underlying47
 info := aiV
 zc := by show (Value.cells (.agg _)).size = 66; simp [Value.cells, fK]
theorem RdE.cl {w : World} {B n k : Nat} {A : Option Addr} {l : List Cl} (h : RdE cQ w B A n l) (hk : k < n) : ∃ b off, A = some ⟨b, off, none⟩ /\ b < B /\ w.rangeAt b (off + k * 66) (el (l.getD k jQ)) := h.2 k hk
section
variable {w : World} {b off : Nat} {c : Cl}
theorem kr (h : w.rangeAt b off (el c)) : w.rangeAt b off (er c.s c.m) := by
 have := fd (ds := []) (es := er c.s c.m) (fs := cel c.b) (k := 0) h rfl rfl;rwa [Nat.add_zero] at this
theorem ahx (h : w.rangeAt b off (el c)) : w.rangeAt b (off + 2) (cel c.b) := fd (ds := er c.s c.m) (es := cel c.b) (fs := []) (k := 2) h (by simp [el, er]) rfl
theorem eH {s m : Int} (h : w.rangeAt b off (er s m)) : w.cell? ⟨b, off, none⟩ = some (.int .i64 s) /\ w.cell? ⟨b, off + 1, none⟩ = some (.int .i64 m) := by
 have h0 := h 0 _ rfl;rw [Nat.add_zero] at h0;exact ⟨h0, h 1 _ rfl⟩
end
section
variable {ρ : Operand -> Value} {o : Oper} {x y : Operand} {w : World} {b off : Nat} {c d : Cl} {s m s' m' : Int} {t : TypeId}
theorem iv (ho : o.op = .load 56 x) (hx : ρ x = .pointer (some ⟨b, off, none⟩)) (hc : w.rangeAt b off (el c)) : (execOp ρ o).run prog w = .ok (.value (clV c)) w :=
 bL underlying56 rfl (by rw [fK]; exact agw) ho hx hc
theorem fD (ho : o.op = .load 43 x) (hx : ρ x = .pointer (some ⟨b, off, none⟩)) (hc : w.rangeAt b off (er s m)) : (execOp ρ o).run prog w = .ok (.value (plV s m)) w :=
 bL underlying43 rfl agy ho hx hc
theorem zO (ho : o.op = .box 56 x) (hx : ρ x = clV c) : (execOp ρ o).run prog w = .ok (.value (.pointer (some ⟨w.heap.size, 0, none⟩))) (w.alloc (.cells (el c).toArray 56)) := ch ho hx
theorem lL (ho : o.op = .box 43 x) (hx : ρ x = plV s m) : (execOp ρ o).run prog w = .ok (.value (.pointer (some ⟨w.heap.size, 0, none⟩))) (w.alloc (.cells (er s m).toArray 43)) := ch ho hx
theorem iL (ho : o.op = .alloc 56) : (execOp ρ o).run prog w = .ok (.value (.pointer (some ⟨w.heap.size, 0, none⟩))) (w.alloc (.cells (el jQ).toArray 56)) := ed pj ho
theorem rT (ho : o.op = .alloc 43) : (execOp ρ o).run prog w = .ok (.value (.pointer (some ⟨w.heap.size, 0, none⟩))) (w.alloc (.cells (er 0 0).toArray 43)) := ed wZ ho
theorem jG (ho : o.op = .store 56 x y) (hx : ρ x = .pointer (some ⟨w.heap.size, 0, none⟩)) (hy : ρ y = clV c) : (execOp ρ o).run prog (w.alloc (.cells (el d).toArray 56)) = .ok .skip (w.alloc (.cells (el c).toArray 56)) :=
 gZ (by rw [fK]; exact agw) (by rw [fK, fK]) (tq c) ho hx hy
theorem uX (ho : o.op = .store 43 x y) (hx : ρ x = .pointer (some ⟨w.heap.size, 0, none⟩)) (hy : ρ y = plV s m) : (execOp ρ o).run prog (w.alloc (.cells (er s' m').toArray 43)) = .ok .skip (w.alloc (.cells (er s m).toArray 43)) :=
 gZ agy rfl (adB s m) ho hx hy
theorem tc : (Instr.fieldAt 56 (.pointer (some ⟨b, off, none⟩)) 0).run prog w = .ok (.pointer (some ⟨b, off, none⟩)) w := by kernel_rfl
theorem aj2 : (Instr.fieldAt 56 (.pointer (some ⟨b, off, none⟩)) 1).run prog w = .ok (.pointer (some ⟨b, off + 2, none⟩)) w := by kernel_rfl
theorem jR : (Instr.fieldAt 43 (.pointer (some ⟨b, off, none⟩)) 0).run prog w = .ok (.pointer (some ⟨b, off, none⟩)) w := by kernel_rfl
theorem yr : (Instr.fieldAt 43 (.pointer (some ⟨b, off, none⟩)) 1).run prog w = .ok (.pointer (some ⟨b, off + 1, none⟩)) w := by kernel_rfl
end
section
variable {ρ : Operand -> Value} {o : Oper} {x y : Operand} {w : World} {s m : Int} {b : Blk}
theorem aaj (s m : Int) : (Instr.build 43 #[(0, .int .i64 s), (1, .int .i64 m)]).run prog w = .ok (plV s m) w := by kernel_rfl
theorem xl (ho : o.op = .build 43 #[(0, x), (1, y)]) (hx : ρ x = .int .i64 s) (hy : ρ y = .int .i64 m) : (execOp ρ o).run prog w = .ok (.value (plV s m)) w := by
 have h := aaj (w := w) s m;unfold execOp;simp only [ho, List.map_toArray, List.map_cons, List.map_nil, hx, hy, Sem.run_bind, h, Result.andThen_ok, Sem.run_pure]
theorem aaZ (s m : Int) (b : Blk) : (Instr.build 56 #[(0, plV s m), (1, blk b)]).run prog w = .ok (clV ⟨s, m, b⟩) w := by
 have hz := f4 pj w;have h1 := da (place := fun i => (#[(0, 2), (2, 64)] : Array (Nat × Nat))[i]?) (i := 0) (off := 0) (size := 2) (v := plV s m) (pre := []) (mid := er 0 0) (post := cel aD) (vs := er s m) (rest := [(1, blk b)]) rfl rfl rfl rfl rfl;have h2 := da (place := fun i => (#[(0, 2), (2, 64)] : Array (Nat × Nat))[i]?) (i := 1) (off := 2) (size := 64) (v := blk b) (pre := er s m) (mid := cel aD) (post := []) (vs := cel b) (rest := []) rfl rfl (aJ b) rfl (aJ aD);simp only [List.nil_append, List.append_nil] at h1 h2;have h3 := h1.trans h2;have hz' : (zeroValue 56).run prog w = .ok (.agg (er 0 0 ++ cel aD).toArray) w := hz;have hc : (Value.agg (er 0 0 ++ cel aD).toArray).cells = (er 0 0 ++ cel aD).toArray := rfl;simp only [Instr.build, Sem.run_bind, hz', run_underlying underlying56, Result.andThen_ok, hc];refine Eq.trans (congrArg (fun r => Result.andThen r _) (?h : _ = Result.ok #[(0, 2), (2, 64)] w)) ?_
 case h => kernel_rfl
 simp only [Result.andThen_ok];have h4 : Instr.fill (fun i => (#[(0, 2), (2, 64)] : Array (Nat × Nat))[i]?) (er s m ++ cel b).toArray [] = some (er s m ++ cel b).toArray := by rw [Instr.fill]
 rw [h3.trans h4]
 rfl
theorem aan (ho : o.op = .build 56 #[(0, x), (1, y)]) (hx : ρ x = plV s m) (hy : ρ y = blk b) : (execOp ρ o).run prog w = .ok (.value (clV ⟨s, m, b⟩)) w := by
 have h := aaZ (w := w) s m b;unfold execOp;simp only [ho, List.map_toArray, List.map_cons, List.map_nil, hx, hy, Sem.run_bind, h, Result.andThen_ok, Sem.run_pure]
end
theorem abD (w : World) (c : Cl) : RdE cQ (w.alloc (.cells (el c).toArray 56)) (w.heap.size + 1) (some ⟨w.heap.size, 0, none⟩) 1 [c] :=
 fg w (el c).toArray 56 (by simp [cv]; rfl)
def cR (p : dJ) : Cl := ⟨p.n, p.m, p.b⟩
def gx (N T : Nat) (r : Int) : Ros := ⟨(N : Int), (T : Int), r, Vector.replicate 16 0, 0, false⟩
theorem y8 {α : Type} [BEq α] [LawfulBEq α] {a : α} {b : List α} (h : a ∈ b) : (b.erase a).length + 1 = b.length := by
 have := List.length_erase_of_mem h;have h2 : 0 < b.length := List.length_pos_of_mem h;omega
theorem q6 {α : Type} [BEq α] [LawfulBEq α] : ∀ (a b : List α), a.Nodup -> (∀ x ∈ a, x ∈ b) -> a.length <= b.length
 |[], b, _, _ => Nat.zero_le _
 |x :: a, b, h, hs => by
  have hx := hs x (List.mem_cons_self ..);obtain ⟨h1, h2⟩ := List.nodup_cons.1 h;have := q6 a (b.erase x) h2 fun y hy => (List.mem_erase_of_ne (fun e => h1 (by rw [<- e]; exact hy))).2 (hs y (List.mem_cons_of_mem _ hy))
  have e := y8 hx;rw [List.length_cons];omega
theorem ke {y : Int} : ∀ (r l : List Int), y ∈ fm l r ↔ y ∈ l \/ y ∈ r
 |[], l => by simp [fm]
 |x :: r, l => by
  rw [fm, ke r];by_cases h : l.contains x = true
  ·rw [if_pos h];have hm : x ∈ l := by simpa using h
   constructor
   ·rintro (h1 | h1)
    ·exact .inl h1
    ·exact .inr (List.mem_cons_of_mem _ h1)
   ·rintro (h1 | h1)
    ·exact .inl h1
    ·rcases List.mem_cons.1 h1 with e | e
     ·subst e; exact .inl hm
     ·exact .inr e
  ·rw [if_neg h];rw [List.mem_append, List.mem_singleton, List.mem_cons]
   constructor
   ·rintro ((h1 | h1) | h1)
    ·exact .inl h1
    ·exact .inr (.inl h1)
    ·exact .inr (.inr h1)
   ·rintro (h1 | h1 | h1)
    ·exact .inl (.inl h1)
    ·exact .inl (.inr h1)
    ·exact .inr h1
theorem i4 {d : Nat -> Bool} {y : Int} : ∀ {k : Nat}, y ∈ pP d k ↔ ∃ j : Nat, y = (j : Int) /\ j < k /\ d j = true
 |0 => by simp [pP]
 |k + 1 => by
  rw [pP, List.mem_append, i4]
  constructor
  ·rintro (⟨j, e, hj, hd⟩ | h)
   ·exact ⟨j, e, by omega, hd⟩
   ·split at h
    ·rename_i hd; exact ⟨k, by simpa using h, by omega, hd⟩
    ·cases h
  ·rintro ⟨j, e, hj, hd⟩;by_cases ek : j = k
   ·subst ek; right; rw [if_pos hd, e]; exact List.mem_singleton.2 rfl
   ·exact .inl ⟨j, e, by omega, hd⟩
theorem vm (d : Nat -> Bool) (k : Nat) : (pP d k).length <= k := by
 induction k with
 |zero => exact aj
 |succ k ih => rw [pP, List.length_append]; split <;> simp <;> omega
section
variable {s : ShS} {n j q : Nat} {x : LnS} {c : List dJ} {p : dJ}
theorem oP (h : s.ln n = none) : s.dty n = false := by unfold ShS.dty; rw [h]
theorem iA (h : s.ln n = some x) : s.dty n = jS x := by unfold ShS.dty; rw [h]
theorem eW (h : s.dty n = true) : (s.ln n).isSome = true := by
 cases e : s.ln n with
 |none => rw [oP e] at h; cases h
 |some x => rfl
theorem kE {s' : ShS} (h' : s'.ln n = s.ln n) : s'.dty n = s.dty n := by unfold ShS.dty; rw [h']
theorem af2 (N : Nat) : jS (dQ N) = false := by unfold jS; rw [yM]; rfl
theorem vj (s : ShS) (n : Nat) : jS (s.bX n) = s.dty n := by
 cases e : s.ln n with
 |none => rw [gW e, oP e, af2]
 |some x => rw [dW e, iA e]
theorem ShS.q8 : (j : Int) ∈ s.dw ↔ j < s.T /\ s.dty j = true := by
 unfold ShS.dw;rw [i4]
 constructor
 ·rintro ⟨i, e, h1, h2⟩;have : i = j := by omega
  subst this;exact ⟨h1, h2⟩
 ·rintro ⟨h1, h2⟩;exact ⟨j, rfl, h1, h2⟩
theorem cf.ahE (h : cf s) (hd : s.dty j = true) : j < s.T := h.lt j ((h.mem j).2 (eW hd))
theorem cf.yp (h : cf s) (n j : Nat) : (s.tch n).dty j = s.dty j := by
 unfold ShS.tch
 split
 ·rename_i ht
  have hc : (s.cut n).dty j = s.dty j := by
   unfold ShS.cut
   split
   ·rename_i hg
    have hl : 0 < luD s.dty s.o := by
     unfold ShS.eA at ht;rw [hg] at ht;simp at ht;omega
    show (s.dn s.gone none).dty j = _
    by_cases e : j = s.gone
    ·subst e;rw [(h.gone hl).2];exact oP (by rw [cU, if_pos rfl])
    ·exact kE (by rw [cU, if_neg e])
   ·rfl
  show ((s.cut n).dn n (some (s.bX n))).dty j = _
  by_cases e : j = n
  ·subst e;rw [iA (x := s.bX j) (by rw [cU, if_pos rfl]), vj]
  ·rw [kE (s := s.cut n) (by rw [cU, if_neg e]), hc]
 ·rfl
theorem cf.oI (h : cf s) (hd : s.dty j = true) : (s.tch n).ln j = s.ln j := by
 obtain ⟨x, hx⟩ := Option.isSome_iff_exists.1 (eW hd);unfold ShS.tch
 split
 ·rename_i ht
  have hc : (s.cut n).ln j = s.ln j := by
   unfold ShS.cut
   split
   ·rename_i hg
    have hl : 0 < luD s.dty s.o := by
     unfold ShS.eA at ht;rw [hg] at ht;simp at ht;omega
    show (s.dn s.gone none).ln j = _
    rw [cU, if_neg (fun e => by rw [e, (h.gone hl).2] at hd; cases hd)]
   ·rfl
  show ((s.cut n).dn n (some (s.bX n))).ln j = _
  rw [cU];by_cases e : j = n
  ·subst e;rw [if_pos rfl, dW hx, hx]
  ·rw [if_neg e, hc]
 ·rfl
theorem jk (ht : s.eA n = true) : (s.tch n).ln n = some (s.bX n) := by
 unfold ShS.tch;rw [if_pos ht]
 show ((s.cut n).dn n (some (s.bX n))).ln n = _
 rw [cU, if_pos rfl]
theorem yv {l : List LC} {k : Nat} (h : (l.getD k lc0).dt = true) : ∀ {n : Nat}, k < n -> (k : Int) ∈ fU l n
 |0, hk => absurd hk (by omega)
 |n + 1, hk => by
  rw [fU, List.mem_append];by_cases e : k = n
  ·subst e; right; rw [if_pos h]; exact List.mem_singleton.2 rfl
  ·exact .inl (yv h (by omega))
theorem uz {k : Nat} (h : (dd x k).dt = true) (hk : k < x.l.length) : jS x = true := by
 have := yv (l := x.l) (k := k) h hk;unfold jS lnD;cases e : fU x.l x.l.length with
 |nil => rw [e] at this; cases this
 |cons a r => rfl
theorem yT (hm : lnR x p.m = true) (hq : q ≠ 0) : jS (eJ x p.m p.b q) = true := by
 obtain ⟨k, e, hk⟩ := jy hm;rw [e, pZ hk hq];refine uz (k := k) ?_ (by rw [List.length_set]; exact hk);unfold dd;rw [ia _ _ _ _ _ hk, if_pos rfl]
structure sg (s0 : ShS) (U : List Int) (c : List dJ) (s : ShS) : Prop where
 ok : cf s
 N : s.N = s0.N
 T : s.T = s0.T
 room : s.room = s0.room
 sub : ∀ j : Nat, s.dty j = true -> (j : Int) ∈ U
 set : ∀ x ∈ c, s.dty x.n.toNat = true
theorem gk {s : ShS} {n m : Int} (h : s.plc n m = true) : ∃ k i : Nat, n = (k : Int) /\ k < s.T /\ m = (i : Int) /\ i < s.N := by
 unfold ShS.plc at h;have := of_decide_eq_true h;exact ⟨n.toNat, m.toNat, by omega, by omega, by omega, by omega⟩
theorem adZ {s : ShS} {n m : Int} (h : cf s) (hp : s.plc n m = true) (k : Nat) : lnR (s.bX k) m = true := by
 obtain ⟨_, i, _, _, e, hi⟩ := gk hp;rw [e];exact gq (by rw [(h.line k).2]; exact hi)
theorem cf.ahQ (h : cf s) {U : List Int} (hU : U.length <= s.room) (hs : ∀ j : Nat, s.dty j = true -> (j : Int) ∈ U) (hn : (n : Int) ∈ U) : s.eA n = true := by
 unfold ShS.eA;cases hg : s.goes n with
 |false => rfl
 |true =>
  unfold ShS.goes at hg;simp only [Bool.and_eq_true, Option.isNone_iff_eq_none, decide_eq_true_eq] at hg;by_cases hl : luD s.dty s.o = 0
  ·exfalso
   have hall : ∀ j ∈ s.o, (j : Int) ∈ U := fun j hj => by
    obtain ⟨i, hi, e⟩ := List.getElem_of_mem hj;have := aeL (d := s.dty) (o := s.o) (i := i) (by omega) hi;rw [List.getD, List.getElem?_eq_getElem hi, Option.getD_some, e] at this;exact hs j this
   have hno : n ∉ s.o := fun e => by
    have := (h.mem n).1 e;rw [hg.1] at this;cases this
   have hnd : ((n :: s.o).map fun (j : Nat) => (j : Int)).Nodup := by
    rw [List.nodup_iff_pairwise_ne, List.pairwise_map];exact (List.nodup_iff_pairwise_ne.1 (List.nodup_cons.2 ⟨hno, h.nd⟩)).imp fun h => by omega
   have := q6 _ U hnd fun y hy => by
    obtain ⟨j, hj, e⟩ := List.mem_map.1 hy;subst e;rcases List.mem_cons.1 hj with e | e
    ·subst e; exact hn
    ·exact hall j e
   rw [List.length_map, List.length_cons] at this;omega
  ·rw [am hl]; rfl
theorem sg.start (h : cf s) (r : List Int) : sg s (fm s.dw r) [] s :=
 ⟨h, rfl, rfl, rfl, fun j hj => (ke _ _).2 (.inl (ShS.q8.2 ⟨h.ahE hj, hj⟩)), fun x hx => by cases hx⟩
theorem sg.plc {s0 : ShS} {U : List Int} (h : sg s0 U c s) (n m : Int) : s.plc n m = s0.plc n m := by unfold ShS.plc; rw [h.N, h.T]
theorem sg.step {s0 : ShS} {U : List Int} (h : sg s0 U c s) (hU : U.length <= s0.room) (hp : s0.plc p.n p.m = true) (hn : p.n ∈ U) (hq : q ≠ 0) (hqb : q < 18446744073709551616) :
  s.eA p.n.toNat = true /\ cf (s.tch p.n.toNat) /\ lnR ((s.tch p.n.toNat).bX p.n.toNat) p.m = true /\ sg s0 U (c ++ [p]) (dM q s p) := by
 obtain ⟨k, i, e1, hk, e2, hi⟩ := gk hp;have ek : p.n.toNat = k := by omega
 have hn' : ((k : Nat) : Int) ∈ U := by rw [<- e1]; exact hn
 have ht := h.ok.ahQ (n := k) (by rw [h.room]; exact hU) h.sub hn';have hto := h.ok.tch (n := k) (by rw [h.T]; exact hk);have hpt : (s.tch k).plc p.n p.m = true := by
  unfold ShS.plc;rw [(s.ph k).1, (s.ph k).2.1];have := h.plc p.n p.m;unfold ShS.plc at this;rw [this];exact hp
 have hr := adZ hto hpt k;have hl := hto.line k;rw [ek];refine ⟨ht, hto, hr, ?_⟩;have hmem : k ∈ (s.tch k).o := (hto.mem k).2 (by rw [jk ht]; rfl);have hso : cf (dM q s p) := by
  unfold dM;rw [ek];exact hto.dn hmem (dI.set hl.1 _ _ hqb) (by rw [yG]; exact hl.2)
 have hd : ∀ j, (dM q s p).dty j = if j = k then true else s.dty j := fun j => by
  unfold dM;rw [ek];by_cases e : j = k
  ·subst e;rw [if_pos rfl, iA (x := _) (by rw [cU, if_pos rfl])];exact yT hr hq
  ·rw [if_neg e, kE (s := s.tch k) (by rw [cU, if_neg e]), h.ok.yp]
 obtain ⟨t1, t2, t3⟩ := s.ph k;refine ⟨hso, by unfold dM; rw [ek]; exact t1.trans h.N, by unfold dM; rw [ek]; exact t2.trans h.T, by unfold dM; rw [ek]; exact t3.trans h.room, fun j hj => ?_, fun x hx => ?_⟩
 ·rw [hd j] at hj;by_cases e : j = k
  ·subst e; exact hn'
  ·rw [if_neg e] at hj; exact h.sub j hj
 ·rw [hd];rcases List.mem_append.1 hx with e | e
  ·split
   ·rfl
   ·exact h.set x e
  ·have : x = p := by simpa using e
   subst this;rw [if_pos ek]
theorem n7 (h : iB s q c = 0) : (∀ x ∈ c, s.plc x.n x.m = true) /\ q ≠ 0 /\ (fm s.dw (c.map dJ.n)).length <= s.room := by
 unfold iB at h
 split at h
 ·rename_i h1
  split at h
  ·cases h
  ·rename_i h2
   split at h
   ·rename_i h3
    exact ⟨fun x hx => List.all_eq_true.1 h1 x hx, h2, of_decide_eq_true h3⟩
   ·cases h
 ·cases h
theorem eR {α β : Type} (f : β -> α -> β) (b : β) {l : List α} {d : α} {i : Nat} (h : i < l.length) : (l.take (i + 1)).foldl f b = f ((l.take i).foldl f b) (l.getD i d) := by
 rw [List.take_add_one, List.getElem?_eq_getElem h, List.foldl_append, List.getD, List.getElem?_eq_getElem h]
 rfl
def di : dJ := ⟨0, 0, aD⟩
theorem iY (h : cf s) (hq : iB s q c = 0) (hqb : q < 18446744073709551616) : ∀ i, i <= c.length -> sg s (fm s.dw (c.map dJ.n)) (c.take i) ((c.take i).foldl (dM q) s)
 |0, _ => by rw [List.take_zero]; exact sg.start h _
 |i + 1, hi => by
  obtain ⟨h1, h2, h3⟩ := n7 hq;have hi' : i < c.length := by omega
  have ih := iY h hq hqb i (by omega);have hx : c.getD i di ∈ c := by rw [List.getD, List.getElem?_eq_getElem hi']; exact List.getElem_mem hi'
  have := (ih.step (p := c.getD i di) h3 (h1 _ hx) ((ke _ _).2 (.inr (List.mem_map.2 ⟨_, hx, rfl⟩))) h2 hqb).2.2.2;rw [eR _ _ (d := di) hi', show c.take (i + 1) = c.take i ++ [c.getD i di] from by rw [List.take_add_one, List.getD, List.getElem?_eq_getElem hi']; rfl];exact this
structure aeP (s0 s : ShS) : Prop where
 ok : cf s
 N : s.N = s0.N
 T : s.T = s0.T
 room : s.room = s0.room
 o : s.o = s0.o
 some : ∀ n, (s.ln n).isSome = (s0.ln n).isSome
theorem aeP.step {s0 : ShS} (h : aeP s0 s) {cs : List dJ} (hp : (s0.ln p.n.toNat).isSome = true) : aeP s0 (cM cs s p) := by
 unfold cM
 split
 ·exact h
 ·have hl := h.ok.line p.n.toNat
  have hm : p.n.toNat ∈ s.o := (h.ok.mem _).2 (by rw [h.some]; exact hp);refine ⟨h.ok.dn hm (dI.frg hl.1 _) (by rw [ae7]; exact hl.2), h.N, h.T, h.room, h.o, fun n => ?_⟩;rw [cU];by_cases e : n = p.n.toNat
  ·rw [if_pos e, e, hp]; rfl
  ·rw [if_neg e, h.some]
theorem kw {s0 : ShS} (h : cf s0) (cs : List dJ) (hp : ∀ x ∈ c, (s0.ln x.n.toNat).isSome = true) : ∀ i, i <= c.length -> aeP s0 ((c.take i).foldl (cM cs) s0)
 |0, _ => by rw [List.take_zero]; exact ⟨h, rfl, rfl, rfl, rfl, fun _ => rfl⟩
 |i + 1, hi => by
  have hi' : i < c.length := by omega
  have hx : c.getD i di ∈ c := by rw [List.getD, List.getElem?_eq_getElem hi']; exact List.getElem_mem hi'
  rw [eR _ _ (d := di) hi'];exact (kw h cs hp i (by omega)).step (hp _ hx)
theorem cf.cln (h : cf s) (n : Int) : cf (iN s n) := by
 unfold iN
 split
 ·rename_i e
  have hl := h.line n.toNat
  exact h.dn ((h.mem _).2 e.2) (dI.cln hl.1) (by rw [yn]; exact hl.2)
 ·exact h
theorem cf.drp (h : cf s) (n : Int) : cf (kR s n) := by
 unfold kR
 split
 ·exact h.drop _
 ·exact h
theorem cf.rd (h : cf s) (u : HuS) (n m : Int) : cf (iP s u n m).2.2.1 := by
 unfold iP
 split
 ·rename_i hp
  obtain ⟨k, i, e1, hk, e2, hi⟩ := gk hp;have ek : n.toNat = k := by omega
  split
  ·show cf (s.tch n.toNat); rw [ek]; exact h.tch hk
  ·show cf (if _ then _ else s)
   split
   ·rename_i e
    rw [ek] at e ⊢;have ht := h.tch hk;have hl := ht.line k;exact ht.dn ((ht.mem k).2 (by rw [jk e.2]; rfl)) (dI.lrn hl.1 _ _) (by rw [adX]; exact hl.2)
   ·exact h
 ·exact h
end
def BoE : Elt Bool where
 s := 67
 t := 4
 n := 1
 by_ := 1
 cel x := [.bool x]
 d := false
 z := .bool false
 pos := by omega
 small := by omega
 len _ := rfl
 one x v hv := by simp at hv; subst hv; rfl
 und := underlying67
 info := by kernel_rfl
 zc := rfl
theorem fI {ρ : Operand -> Value} {o : Oper} {x : Operand} {w : World} {t e : TypeId} {A : Option Addr} {n c : Nat} (hu : prog.underlying t = some (.slice e)) (ho : o.op = .call { callee := .builtin .len, args := #[x], argTypes := #[t] }) (hx : ρ x = .slice A n c) : (execOp ρ o).run prog w = .ok (.value (.int .i64 (n : Int))) w := by
 simp [execOp, ho, resolve, invoke, builtin, hx, Builtin.len_, run_underlying hu, Result.andThen]
 rfl
structure ShPr where
 P : World -> (Nat -> Prop) -> Nat -> Nat -> ShS -> Prop
 lt : ∀ {w S p K s}, P w S p K s -> ∀ b, S b -> b < w.heap.size
 only : ∀ {w w' S F p K s}, P w S p K s -> Only F w w' -> (∀ b, S b -> ¬ F b) -> P w' S p K s
 more : ∀ {w S p K K' s}, P w S p K s -> K <= K' -> P w S p K' s
 ok : ∀ {w S p K s}, P w S p K s -> cf s
 new_ok : ∀ {N T room : Nat} {r : Int} (w : World), dO (gx N T r) = true -> 1 <= room -> room <= 64 -> Calls prog 7 #[geo (gx N T r), .int .i64 (room : Int)] w fun e w' => ∃ p S, e = .returned (.tuple #[.pointer (some ⟨p, 0, none⟩), .int .i64 0]) /\ P w' S p 0 (x6 N T room) /\ Below w.heap.size w w' /\ ∀ b, S b -> w.heap.size <= b
 new_no : ∀ (x : Ros) (room : Int) (w : World), ¬ (dO x = true /\ 1 <= room /\ room <= 64) -> Calls prog 7 #[geo x, .int .i64 room] w fun e w' => e = .returned (.tuple #[.pointer none, .int .i64 2]) /\ Below w.heap.size w w'
 put : ∀ {w S t K s} {Q nc cc : Nat} {A : Option Addr} {c : List dJ}, P w S t K s -> Q < 18446744073709551616 -> K + nc <= 1000000 -> RdE cQ w w.heap.size A nc (c.map cR) -> c.length = nc -> nc <= cc -> cc <= maxLen -> (∀ x, A = some x -> 0 < nc -> ¬ S x.block) -> Calls prog 13 #[.pointer (some ⟨t, 0, none⟩), .int .u64 (Q : Int), .slice A nc cc] w fun e w' => e = .returned (.int .i64 (iB s Q c)) /\ ∃ S', P w' S' t (K + nc) (nB s Q c) /\ Only S w w' /\ Grow w S S'
 clean : ∀ {w S t K s} (n : Int), P w S t K s -> Calls prog 19 #[.pointer (some ⟨t, 0, none⟩), .int .i64 n] w fun e w' => e = .returned (.int .i64 (shE s n)) /\ ∃ S', P w' S' t K (iN s n) /\ Only S w w' /\ Grow w S S'
 drop : ∀ {w S t K s} (n : Int), P w S t K s -> Calls prog 20 #[.pointer (some ⟨t, 0, none⟩), .int .i64 n] w fun e w' => e = .returned (.int .i64 (shE s n)) /\ ∃ S', P w' S' t K (kR s n) /\ Only S w w' /\ Grow w S S'
 fits : ∀ {w S t K s A cl} {l : List Int}, P w S t K s -> RdE bY w w.heap.size A l.length l -> (∀ x ∈ l, (Lit.int .i64 x).wf = true) -> l.length <= cl -> cl <= maxLen -> l.length <= 17592186043904 -> Calls prog 24 #[.pointer (some ⟨t, 0, none⟩), .slice A l.length cl] w fun e w' => e = .returned (.bool (s.fits l)) /\ Below w.heap.size w w'
 known : ∀ {w S t K s} (n : Int), P w S t K s -> Calls prog 21 #[.pointer (some ⟨t, 0, none⟩), .int .i64 n] w fun e w' => ∃ v, e = .returned v /\ aP BoE w' w.heap.size v (oQ s n) /\ Below w.heap.size w w'
 cells : ∀ {w S t K s} (n : Int), P w S t K s -> Calls prog 22 #[.pointer (some ⟨t, 0, none⟩), .int .i64 n] w fun e w' => ∃ v, e = .returned v /\ aP cQ w' w.heap.size v ((ot s n).map cR) /\ Below w.heap.size w w'
 dw : ∀ {w S t K s}, P w S t K s -> Calls prog 17 #[.pointer (some ⟨t, 0, none⟩)] w fun e w' => ∃ v, e = .returned v /\ aP bY w' w.heap.size v s.dw /\ Below w.heap.size w w'
 stripes : ∀ {w S t K s}, P w S t K s -> Calls prog 18 #[.pointer (some ⟨t, 0, none⟩)] w fun e w' => ∃ v, e = .returned v /\ aP bY w' w.heap.size v s.strs /\ Below w.heap.size w w'
 first : ∀ {w S t K s}, P w S t K s -> K <= 1000000 -> Calls prog 23 #[.pointer (some ⟨t, 0, none⟩)] w fun e w' => e = .returned (.int .u64 (s.first : Int)) /\ Below w.heap.size w w'
 No : World -> Value -> Prop
 zc : List Value
 no_nil : ∀ w : World, No w (.pointer none)
 bld0 : ∀ w : World, (Instr.build 66 #[]).run prog w = .ok (.agg zc.toArray) w
 no_zero : ∀ w : World, No (w.alloc (.cells zc.toArray 66)) (.pointer (some ⟨w.heap.size, 0, none⟩))
 no_below : ∀ {w w' : World} {v : Value}, No w v -> Below w.heap.size w w' -> No w' v
 no_put : ∀ (w : World) (v : Value) (Q : Nat), No w v -> Calls prog 13 #[v, .int .u64 (Q : Int), .slice none 0 0] w fun e w' => e = .returned (.int .i64 1) /\ Below w.heap.size w w'
 no_clean : ∀ (w : World) (v : Value) (n : Int), No w v -> Calls prog 19 #[v, .int .i64 n] w fun e w' => e = .returned (.int .i64 1) /\ Below w.heap.size w w'
 no_drop : ∀ (w : World) (v : Value) (n : Int), No w v -> Calls prog 20 #[v, .int .i64 n] w fun e w' => e = .returned (.int .i64 1) /\ Below w.heap.size w w'
 no_fits : ∀ (w : World) (v : Value), No w v -> Calls prog 24 #[v, .slice none 0 0] w fun e w' => e = .returned (.bool false) /\ Below w.heap.size w w'
 no_known : ∀ (w : World) (v : Value) (n : Int), No w v -> Calls prog 21 #[v, .int .i64 n] w fun e w' => (∃ A c, e = .returned (.slice A 0 c)) /\ Below w.heap.size w w'
 no_cells : ∀ (w : World) (v : Value) (n : Int), No w v -> Calls prog 22 #[v, .int .i64 n] w fun e w' => (∃ A c, e = .returned (.slice A 0 c)) /\ Below w.heap.size w w'
 no_dirty : ∀ (w : World) (v : Value), No w v -> Calls prog 17 #[v] w fun e w' => (∃ A c, e = .returned (.slice A 0 c)) /\ Below w.heap.size w w'
 no_stripes : ∀ (w : World) (v : Value), No w v -> Calls prog 18 #[v] w fun e w' => (∃ A c, e = .returned (.slice A 0 c)) /\ Below w.heap.size w w'
 no_first : ∀ (w : World) (v : Value), No w v -> Calls prog 23 #[v] w fun e w' => e = .returned (.int .u64 0) /\ Below w.heap.size w w'
theorem ShPr.below (D : ShPr) {w w' : World} {S : Nat -> Prop} {p K : Nat} {s : ShS} (h : D.P w S p K s) (k : Below w.heap.size w w') : D.P w' S p K s := D.only h (Only.of_below (fun _ => False) k) fun _ _ e => e
def aeW (I : Obj -> Prop) (B : Nat) (w w' : World) : Prop := Only (fun b => B <= b /\ ∀ o, w.heap[b]? = some o -> I o) w w'
section
variable {α : Type} {E : Elt α} {ρ : Operand -> Value} {o : Oper} {x y : Operand} {w : World} {A : Option Addr} {n c k B b off : Nat} {l : List α}
theorem dH (E : Elt α) (ho : o.op = .call { callee := .builtin .len, args := #[x], argTypes := #[E.s] }) (hx : ρ x = .slice A n c) : (execOp ρ o).run prog w = .ok (.value (.int .i64 (n : Int))) w := by
 simp [execOp, ho, resolve, invoke, builtin, hx, Builtin.len_, run_underlying E.und, Result.andThen]
 rfl
theorem rv {t : TypeId} {p v : Value} (ho : o.op = .build t #[(0, x)]) (hx : ρ x = p) (h : (Instr.build t #[(0, p)]).run prog w = .ok v w) : (execOp ρ o).run prog w = .ok (.value v) w := by
 unfold execOp;simp [ho, hx, h, Result.andThen]
end
section
variable {ρ : Operand -> Value} {o : Oper} {x y : Operand} {w : World} {t r : TypeId} {v : Value} {a1 a2 : Addr}
theorem ux (op : BinOp) (t : TypeId) (x y : Operand) (a b : Option Addr) : (eqGuard op t x y (.pointer a) (.pointer b)).run prog w = .ok () w := by
 cases op <;> simp [eqGuard]
theorem mG {op : BinOp} {m n : Option Addr} (ho : o.op = .binOp op t x y r) (hx : ρ x = .pointer m) (hy : ρ y = .pointer n) (h : (binOp op t (.pointer m) (.pointer n)).run prog w = .ok v w) : (execOp ρ o).run prog w = .ok (.value v) w := by
 unfold execOp;simp only [ho, hx, hy, Sem.run_bind, ux, h, Result.andThen_ok, Sem.run_pure]
theorem uT {te : TypeId} (hp : prog.underlying t = some (.pointer te)) {j : TypeInfo} (hte : prog.info? te = some j) (hsz : j.size ≠ 0) {ca cb : Array Value} {ta tb : TypeId} (ha : w.heap[a1.block]? = some (.cells ca ta (0, 0))) (hb : w.heap[a2.block]? = some (.cells cb tb (0, 0))) (d : Nat) :
  (Op.equalIn (d + 1) t (.pointer (some a1)) (.pointer (some a2))).run prog w = .ok (decide (a1 = a2)) w := by
 by_cases h : a1 = a2
 ·subst h;simp [Op.equalIn, run_underlying hp, sizeOf, typeInfo, hte, run_sameAddr_same]
 ·simp [Op.equalIn, run_underlying hp, sizeOf, typeInfo, hte, hsz, run_sameAddr_other w h ha hb, h]
theorem ns {te : TypeId} (hp : prog.underlying t = some (.pointer te)) (m : Option Addr) (d : Nat) : (Op.equalIn (d + 1) t (.pointer m) (.pointer none)).run prog w = .ok (decide (m = none)) w := by
 cases m <;> simp [Op.equalIn, run_underlying hp]
theorem cI {te : TypeId} {m : Option Addr} (c : Bool) (hp : prog.underlying t = some (.pointer te)) (ho : o.op = .binOp .eql t x y r) (hx : ρ x = .pointer m) (hy : ρ y = .pointer none) (h : decide (m = none) = c) : (execOp ρ o).run prog w = .ok (.value (.bool c)) w := by
 subst h;refine mG ho hx hy ?_;simp only [binOp];simp [Op.equal, Op.maxDepth, ns hp m 9999]
theorem dh {te : TypeId} {m : Option Addr} (c : Bool) (hp : prog.underlying t = some (.pointer te)) (ho : o.op = .binOp .neq t x y r) (hx : ρ x = .pointer m) (hy : ρ y = .pointer none) (h : (!decide (m = none)) = c) : (execOp ρ o).run prog w = .ok (.value (.bool c)) w := by
 subst h;refine mG ho hx hy ?_;simp only [binOp];simp [Op.equal, Op.maxDepth, ns hp m 9999]
theorem kY {te : TypeId} (c : Bool) (hp : prog.underlying t = some (.pointer te)) {j : TypeInfo} (hte : prog.info? te = some j) (hsz : j.size ≠ 0) (ho : o.op = .binOp .neq t x y r) (hx : ρ x = .pointer (some a1)) (hy : ρ y = .pointer (some a2))
  {ca cb : Array Value} {ta tb : TypeId} (ha : w.heap[a1.block]? = some (.cells ca ta (0, 0))) (hb : w.heap[a2.block]? = some (.cells cb tb (0, 0))) (h : (!decide (a1 = a2)) = c) : (execOp ρ o).run prog w = .ok (.value (.bool c)) w := by
 subst h;refine mG ho hx hy ?_;simp only [binOp];simp [Op.equal, Op.maxDepth, uT hp hte hsz ha hb 9999]
end
theorem uP {α : Type} (E : Elt α) (hz : E.z.cells.toList = E.cel E.d) (n : Nat) : (cv E (List.replicate n E.d)).toArray = madeCells E.z.cells (n * E.n) := by
 have hp := E.pos;apply Array.ext
 ·rw [size_madeCells, List.size_toArray, cp, List.length_replicate]
 ·intro j h1 h2;rw [size_madeCells] at h2;have hjn : j / E.n < n := Nat.div_lt_of_lt_mul (by rw [Nat.mul_comm]; exact h2);have hr : j % E.n < E.n := Nat.mod_lt _ hp;have hk : j / E.n < (List.replicate n E.d).length := by rw [List.length_replicate]; exact hjn
  have := pw E (List.replicate n E.d) hk hr;rw [Nat.div_add_mod'] at this;have hd0 : (List.replicate n E.d).getD (j / E.n) E.d = E.d := by
   rw [List.getD, List.getElem?_replicate]
   split <;> rfl
  rw [hd0, List.getElem?_eq_getElem (by simpa using h1), List.getElem?_eq_getElem (by rw [E.len]; exact hr)] at this;injection this with this;have e1 : (cv E (List.replicate n E.d)).toArray[j] = (cv E (List.replicate n E.d))[j]'(by simpa using h1) := by simp
  rw [e1, this];simp only [madeCells, Array.getElem_map, Array.getElem_range, E.zc];have hs : j % E.n < E.z.cells.size := by rw [E.zc]; exact hr
  rw [getElem!_pos E.z.cells (j % E.n) hs];have e2 : E.z.cells[j % E.n] = E.z.cells.toList[j % E.n]'(by simpa using hs) := by simp
  rw [e2];simp only [hz]
theorem pG {α : Type} {E : Elt α} {ρ : Operand -> Value} {o : Oper} {x y : Operand} {w : World} {n : Nat} (ho : o.op = .makeSlice E.s x y) (hx : ρ x = .int .i64 (n : Int)) (hy : ρ y = .int .i64 (n : Int)) (hn : n <= 1000000) :
  (execOp ρ o).run prog w = .ok (.value (.slice (some ⟨w.heap.size, 0, none⟩) n n)) (w.alloc (.cells (madeCells E.z.cells (n * E.n)) E.t)) := by
 obtain ⟨i0, hi, hz0, hz1, hz2⟩ := info_parts E.info;have hb : (i0.bytes : Int) * n <= 281474976710656 := by
  have h1 := Nat.mul_le_mul E.small hn;rw [hz2];have h2 : E.by_ * n <= 4096000000 := by simpa using h1
  have : ((E.by_ * n : Nat) : Int) <= 4096000000 := by omega
  rw [Int.natCast_mul] at this;omega
 have hr := run_make (P := prog) w E.s E.t i0 E.z E.und hi hz0 .i64 .i64 n n (by omega) (Int.le_refl _) hb (by omega);rw [hz1] at hr;simp only [Int.toNat_natCast] at hr;unfold execOp;simp only [ho, hx, hy, Sem.run_bind, hr, Result.andThen_ok, Sem.run_pure]
theorem qe {α : Type} (E : Elt α) (hz : E.z.cells.toList = E.cel E.d) (w : World) (n B : Nat) (hB : B <= w.heap.size) (hn : n <= 1000000) : aP E (w.alloc (.cells (madeCells E.z.cells (n * E.n)) E.t)) B (.slice (some ⟨w.heap.size, 0, none⟩) n n) (List.replicate n E.d) := by
 refine aP.of_block (heap_alloc_new w _) ?_ hB (by simp) (by unfold maxLen; omega);rw [<- uP E hz n]
section
variable {ρ : Operand -> Value} {o : Oper} {x y z : Operand} {w : World} {b off : Nat} {c : Blk}
theorem vi {ad : Addr} {a : Bool} (h : w.cell? ad = some (.bool a)) : (Instr.loadAt 4 (.pointer (some ad))).run prog w = .ok (.bool a) w := by simp [go_sem, h]
theorem xW {ad : Addr} {u : Value} {a : Bool} (h : w.cell? ad = some u) (hf : w.frozen? ad = false) : (Instr.storeAt 4 (.pointer (some ad)) (.bool a)).run prog w = .ok () (w.setCell ad (.bool a)) := by simp [go_sem, h, hf]
end
def ajX : Obj -> Prop
 |.cells _ t _ => t = 152 \/ t = 148 \/ t = 46
 |_ => False
theorem aaB {w : World} {b o n b' o' : Nat} {vs : List Value} (h : w.there b o n) : (w.setCells b' o' vs).there b o n := World.there_setCells h b' o' vs
theorem there_drew {w : World} {b o n : Nat} (h : w.there b o n) : (World.drew w).there b o n := h
theorem ajG {a : Int} (h : -9223372036854775808 <= a /\ a <= 9223372036854775807) : IntKind.i64.wrap a = a := IntWalk.i64_in _ ⟨by omega, by omega⟩
section
variable {P : Program} {md : Region.Mode} {l : List Oper} {Q : Exit -> Act -> World -> Prop} {S : World -> Prop} {fuel : Nat} {listed : Array Bool} {a : Act} {w w1 : World} {o o' : Oper} {v : Value}
theorem rf (i : Nat) (hi : l[i]? = some o) (hr : Region.ready md l.toArray listed = [i]) (hw : Region.wanted o (yielded l.toArray a.tmps) = true) (h : (execOp a.eval o).run P w = .ok (.value v) w1)
  (hS : S w1) (hk : wpAnyH P md l.toArray Q S fuel (listed.setIfInBounds i true) (a.put o.dst v) w1) : wpAnyH P md l.toArray Q S (fuel + 1) listed a w :=
 wpAnyH_all hr (by simp) fun j hj => by
  obtain rfl : j = i := by simpa using hj
  unfold wpOp;simp only [List.getElem?_toArray, hi, hw, if_true];refine .inl ?_;unfold Oper.wp;rw [h];exact ⟨hS, hk⟩
theorem nv (i j : Nat) {f : FuncId} {vs : Array Value} (hi : l[i]? = some o) (hj : l[j]? = some o') (hr : Region.ready md l.toArray listed = [i, j]) (hwi : Region.wanted o (yielded l.toArray a.tmps) = true) (hwj : Region.wanted o' (yielded l.toArray a.tmps) = true) (h : (execOp a.eval o).run P w = .ok (.enter f vs) w)
  (hc : Calls P f vs w fun e w' => ∃ v, e = .returned v /\ S w' /\ wpAnyH P md l.toArray Q S fuel (listed.setIfInBounds i true) (a.put o.dst v) w') (h' : (execOp a.eval o').run P w = .ok (.value v) w1) (hS : S w1)
  (hk : wpAnyH P md l.toArray Q S fuel (listed.setIfInBounds j true) (a.put o'.dst v) w1) : wpAnyH P md l.toArray Q S (fuel + 1) listed a w :=
 wpAnyH_all hr (by simp) fun z hz => by
  rcases (show z = i \/ z = j by simpa using hz) with rfl | rfl
  ·unfold wpOp;simp only [List.getElem?_toArray, hi, hwi, if_true];refine .inl ?_;unfold Oper.wp;rw [h];exact hc.mono fun e w' ⟨v, he, hk⟩ => by subst he; exact hk
  ·unfold wpOp;simp only [List.getElem?_toArray, hj, hwj, if_true];refine .inl ?_;unfold Oper.wp;rw [h'];exact ⟨hS, hk⟩
theorem aa5 {α β : Type} {F : α -> β -> Prop} {G : Prop} {T : α -> β -> Prop} (k : (∀ a b, F a b -> T a b) -> G) (h : ∀ a b, F a b -> T a b) : G := k h
end
structure ShI (C : iV) extends ShPr where
 read : ∀ {w G S q p t K h s} (n m : Int), C.J w G q p h -> P w S t K s -> CrG w G -> ¬ S 0 -> (∀ b, G b -> ¬ S b) -> agu s h n m -> Calls prog 15 #[.pointer (some ⟨t, 0, none⟩), .pointer (some ⟨p, 0, none⟩), .agg #[.int .i64 n, .int .i64 m]] w fun e w' => e = .returned (.tuple #[blk (iP s h n m).2.1, .int .i64 (iP s h n m).1]) /\
  ∃ G' S', C.J w' G' q p (iP s h n m).2.2.2 /\ P w' S' t K (iP s h n m).2.2.1 /\ (∀ b, G' b -> ¬ S' b) /\ Only (fun b => G b \/ S b) w w' /\ Grow w G G' /\ Grow w S S'
 read_no : ∀ {w S t K s} (n m : Int), P w S t K s -> Calls prog 15 #[.pointer (some ⟨t, 0, none⟩), .pointer none, .agg #[.int .i64 n, .int .i64 m]] w fun e w' => (∃ b : Blk, e = .returned (.tuple #[blk b, .int .i64 1])) /\ Below w.heap.size w w'
 no_read : ∀ (w : World) (v : Value) (G : Nat -> Prop) (q p : Nat) (h : HuS) (n m : Int), No w v -> C.J w G q p h -> Calls prog 15 #[v, .pointer (some ⟨p, 0, none⟩), .agg #[.int .i64 n, .int .i64 m]] w fun e w' => (∃ b : Blk, e = .returned (.tuple #[blk b, .int .i64 1])) /\ Below w.heap.size w w'
section
variable {N k i : Nat} {b : Blk} {s : ShS}
theorem agf {x : LnS} (m : Nat) (c : Blk) (hm : m < x.l.length) (hk : (dd x m).kn = false) (hx : dI x) : jS (fq x (m : Int) c) = jS x := by
 have hd : (dd x m).dt = false := by rw [hx.no m hm hk]; rfl
 rw [qL hm hk];unfold jS lnD;have : ∀ n, fU (x.l.set m ⟨true, false, c⟩) n = fU x.l n := fun n => by
  induction n with
  |zero => rfl
  |succ n ih =>
   rw [fU, fU, ih, ia _ _ _ _ _ hm];by_cases e : n = m
   ·subst e;rw [if_pos rfl];have hd' : (x.l.getD n lc0).dt = false := hd;rw [hd']
   ·rw [if_neg e]
 rw [List.length_set, this]
end
theorem vT (a b : Int) (w : World) : (Instr.build 24 #[(0, .int .i64 a), (1, .int .i64 b), (2, .int .i64 40)]).run prog w = .ok (.agg #[.int .i64 a, .int .i64 b, .int .i64 40]) w := by kernel_rfl
theorem sR {ρ : Operand -> Value} {o : Oper} {x y z : Operand} {w : World} {a b : Int} (ho : o.op = .build 24 #[(0, x), (1, y), (2, z)]) (hx : ρ x = .int .i64 a) (hy : ρ y = .int .i64 b) (hz : ρ z = .int .i64 40) : (execOp ρ o).run prog w = .ok (.value (.agg #[.int .i64 a, .int .i64 b, .int .i64 40])) w := by
 unfold execOp;simp only [ho, hx, hy, hz, List.map_toArray, List.map_cons, List.map_nil, Sem.run_bind, vT, Result.andThen_ok, Sem.run_pure]
theorem ahg : (prog.info? 24).map (fun i => i.zero) = some (some (.agg ([.int .i64 0, .int .i64 0, .int .i64 0] : List Value).toArray)) := by kernel_rfl
theorem abm (A B : Option Addr) (n m c d N : Nat) (a b : List Int) (w : World) (ha : RdE bY w N A n a) (hb : RdE bY w N B m b) (hN : N <= w.heap.size) (hn : n <= maxLen) :
  Calls prog 16 #[.slice A n c, .slice B m d] w fun e w' => e = .returned (.bool (nt a b)) /\ Below w.heap.size w w' := by
 unfold maxLen at hn;by_cases hnm : n = m
 ·subst hnm;go_enter func16, ntmps16;go_wp2
  go_loopw [5] (fun i wr => ∃ k : Nat, k <= n /\ i = .int .i64 k /\ (∀ j, j < k -> a.getD j 0 = b.getD j 0) /\ Below w.heap.size w wr) (fun i _ => n - (intOf i).toNat)
  case atStart => exact ⟨0, Nat.zero_le _, rfl, fun j hj => absurd hj (by omega), ak⟩
  case round =>
   obtain ⟨k, hk, rfl, hj, hbl⟩ := hrel;by_cases hlt : k < n
   ·obtain ⟨bA, oA, rfl, hA, cA⟩ := (ha.below (hbl.mono hN)).int hlt;obtain ⟨bB, oB, rfl, hB, cB⟩ := (hb.below (hbl.mono hN)).int hlt;have hidj := ae hj;clear hj;generalize hx : a.getD k 0 = x at *;generalize hy : b.getD k 0 = y at *;have HX := ae hx;have HY := ae hy;clear hx hy;go_wp2
    go_quiet (fail)
    go_wp2
    ·have hd : (x != y) = true := by assumption
     go_ret;refine ⟨?_, bdn hbl _⟩;have : nt a b = false := by
      simp only [nt, beq_eq_false_iff_ne];rintro rfl;have := HX.out.symm.trans HY;simp [this] at hd
     rw [this]; rfl
    ·have hd : (x != y) = false := by assumption
     go_roundw
     case rel =>
      refine ⟨k + 1, by omega, by go_num, ?_, bdn hbl _⟩;intro j hj;by_cases h : j = k
      ·subst h;rw [HX.out, HY.out]
       simpa using hd
      ·exact hidj.out j (by omega)
     case measure => simp [intOf]; omega
   ·go_wp2;go_ret;refine ⟨?_, hbl⟩;have : nt a b = true := by
     simp only [nt, beq_iff_eq];exact adI (by rw [ha.1, hb.1]) fun j h => hj j (by have := ha.1; omega)
    rw [this]; rfl
 ·have hne : ((n : Int) != (m : Int)) = true := by simp; omega
  go_enter func16, ntmps16;go_wp2;go_ret;refine ⟨?_, ak⟩;have : nt a b = false := by
   have h1 := ha.1;have h2 := hb.1;simp only [nt, beq_eq_false_iff_ne];rintro rfl;omega
  rw [this]; rfl
end Go.Proofs.YtdmhelalbemlcaaGreatDoor
