import Derived.Test.YtdmhelalbemlcaaGreatDoorSkaf
namespace Go.Proofs.YtdmhelalbemlcaaGreatDoor
set_option maxHeartbeats 8000000
open Go.Proofs.Tryz
open Go.RowKit
set_option linter.unusedVariables false
set_option maxRecDepth 100000
def setW (w : World) (b o : Nat) (v : Value) : World := w.setCell ⟨b, o, none⟩ v
def jk (w : World) (b : Nat) (x : Ros) : World := w.setCells b 0 (a7 x)
section
variable {w w0 : World} {b k o : Nat} {v : Value} {x y : Ros}
theorem wX {B : Nat} (h : Below B w0 w) (hb : B <= b) : Below B w0 (setW w b o v) := below_setCells h hb [v]
theorem acv (hne : k ≠ b) : (setW w b o v).heap[k]? = w.heap[k]? := heap_setCell_other w ⟨b, o, none⟩ k v hne
theorem rN : (jk w b x).heap.size = w.heap.size := (fF b _ 0 w).1
theorem iD {B : Nat} (h : Below B w0 w) (hb : B <= b) : Below B w0 (jk w b x) := below_setCells h hb _
theorem wg (hne : k ≠ b) : (jk w b x).heap[k]? = w.heap[k]? := fu b _ 0 w k hne
theorem kj (h : bW w b y) : bW (jk w b x) b x := by
 have h' : w.heap[b]? = some (.cells ([] ++ a7 y ++ []).toArray 86 (0, 0)) := by rw [List.nil_append, List.append_nil]; exact h
 have := heap_put b 86 [] (a7 x) (a7 y) [] w (by rw [bK, bK]) h';rw [List.nil_append, List.append_nil] at this;exact this
theorem ae1 (x : Ros) {j : Nat} (hj : j < 16) (u : UInt8) : (a7 x).set (3 + j) (.int .u8 (u.toNat : Int)) = a7 (hJ x j u) := by
 rw [kg x, kg (hJ x j u), ng];have e1 : el (hJ x j u) = el x := rfl;rw [e1, List.set_append_right _ _ (by simp [el]), show 3 + j - (el x).length = j from by simp [el], List.set_append_left _ _ (by rw [bI]; simp; omega)];unfold vals;rw [List.map_set]
 rfl
theorem adP (x : Ros) (c : Int) : (a7 x).set 19 (.int .i64 c) = a7 (nB x c) := by
 rw [kg x, kg (nB x c)];have e1 : el (nB x c) = el x := rfl;rw [e1, List.set_append_right _ _ (by simp [el]), show 19 - (el x).length = 16 from rfl, List.set_append_right _ _ (by rw [bI]; simp), show 16 - (vals x.st.toList).length = 0 from by rw [bI]; simp]
 rfl
theorem bW.setW (h : bW w b x) (hy : (a7 x).set o v = a7 y) : bW (setW w b o v) b y := by
 have := heap_setCell_same w b o _ 86 v h;rw [List.setIfInBounds_toArray, hy] at this;exact this
theorem bW.there (h : bW w b x) {o n : Nat} (hn : o + n <= 21) : w.there b o n := eR h (by rw [bK]; exact hn)
end
section
variable {ρ : Operand -> Value} {o : Oper} {x y : Operand} {w : World} {b off : Nat} {c d : Ros}
theorem ex (ho : o.op = .store 86 x y) (hx : ρ x = .pointer (some ⟨b, 0, none⟩)) (hy : ρ y = ros c) (h : bW w b d) : (execOp ρ o).run prog w = .ok .skip (jk w b c) :=
 ix (by rw [bK]; exact t8) (mX c) ho hx hy (by rw [bK]; exact h.there (by omega))
theorem acM (h : w.there b off 1) : ∃ v, w.cell? ⟨b, off, none⟩ = some v /\ w.frozen? ⟨b, off, none⟩ = false := by
 have := h 0 (by omega);rw [Nat.add_zero] at this;obtain ⟨h1, h2⟩ := this;obtain ⟨v, hv⟩ := Option.isSome_iff_exists.1 h1;exact ⟨v, hv, h2⟩
theorem uX {u : Int} (ho : o.op = .store 5 x y) (hx : ρ x = .pointer (some ⟨b, off, none⟩)) (hy : ρ y = .int .u8 u) (h : w.there b off 1) : (execOp ρ o).run prog w = .ok .skip (setW w b off (.int .u8 u)) := by
 obtain ⟨v, hc, hf⟩ := acM h;exact dh ho hx hy (by simp [go_sem, hc, hf, setW])
theorem ac7 {u : Int} (ho : o.op = .store 3 x y) (hx : ρ x = .pointer (some ⟨b, off, none⟩)) (hy : ρ y = .int .i64 u) (h : w.there b off 1) : (execOp ρ o).run prog w = .ok .skip (setW w b off (.int .i64 u)) := by
 obtain ⟨v, hc, hf⟩ := acM h;exact dh ho hx hy (by simp [go_sem, hc, hf, setW])
theorem bf (ho : o.op = .load 86 x) (hx : ρ x = .pointer (some ⟨b, 0, none⟩)) (h : bW w b c) : (execOp ρ o).run prog w = .ok (.value (ros c)) w := bH ho hx h.range
theorem aa2 (w : World) : (Instr.build 86 #[]).run prog w = .ok (ros bY) w := by kernel_rfl
theorem qo (ho : o.op = .build 86 #[]) : (execOp ρ o).run prog w = .ok (.value (ros bY)) w := lE ho (aa2 w)
theorem xq {ad : Addr} {n : Bool} (h : w.cell? ad = some (.bool n)) : (Instr.loadAt 4 (.pointer (some ad))).run prog w = .ok (.bool n) w := by simp [go_sem, h]
theorem xL {b : Nat} : (Instr.fieldAt 86 (.pointer (some ⟨b, 0, none⟩)) 3).run prog w = .ok (.pointer (some ⟨b, 20, none⟩)) w := by kernel_rfl
theorem lY {fn : Func} {p u : Tmp} (h : fn.results = #[.cell p 86, .tmp u]) (tmps : Array Value) (w : World) (b : Nat) (hp : tmps.getD p undef = .pointer (some ⟨b, 0, none⟩)) (hc : bW w b c) :
  (results fn tmps).run prog w = .ok (.tuple #[ros c, tmps.getD u undef]) w := by
 have hl : (loadVar 86 ⟨b, 0, none⟩).run prog w = .ok (ros c) w := run_loadVar_mid w b 0 86 (a7 c) _ hc.range underlying86 rfl (by rw [bK]; exact t8);have hp' : tmps[p]?.getD undef = .pointer (some ⟨b, 0, none⟩) := by simpa using hp
 simp [results, h, hp', asAddr, hl]
end
structure lM (w0 w : World) (x y : Ros) : Prop where
 bel : Below w0.heap.size w0 w
 at0 : bW w w0.heap.size x
 at1 : bW w (w0.heap.size + 1) y
theorem lM.new (w : World) (x : Ros) : lM w ((w.alloc (.cells (a7 x).toArray 86)).alloc (.cells (a7 bY).toArray 86)) x bY := by
 refine ⟨((Below.refl _ w).alloc aj _).alloc (by simp) _, (bW.new w x).past _, ?_⟩;have := bW.new (w.alloc (.cells (a7 x).toArray 86)) bY;rwa [World.size_alloc] at this
section
variable {w0 w w' : World} {x y z : Ros}
theorem lM.call (h : lM w0 w x y) (hb : Below w.heap.size w w') : lM w0 w' x y :=
 ⟨h.bel.trans (hb.mono h.bel.size), h.at0.below (aS h.at0) hb, h.at1.below (aS h.at1) hb⟩
theorem lM.put (h : lM w0 w x y) (z : Ros) : lM w0 (jk w (w0.heap.size + 1) z) x z :=
 ⟨iD h.bel (by omega), (wg (by omega)).trans h.at0, kj h.at1⟩
theorem lM.set (h : lM w0 w x y) {o : Nat} {v : Value} (hy : (a7 x).set o v = a7 z) : lM w0 (setW w w0.heap.size o v) z y :=
 ⟨wX h.bel aj, h.at0.setW hy, (acv (by omega)).trans h.at1⟩
end
set_option linter.unusedSimpArgs false
structure jh (w0 w : World) (x : Ros) : Prop where
 bel : Below w0.heap.size w0 w
 at0 : bW w w0.heap.size x
theorem jh.new (w : World) (x : Ros) : jh w (w.alloc (.cells (a7 x).toArray 86)) x := ⟨(dx w x).2.1, (dx w x).1⟩
theorem jh.call {w0 w w' : World} {x : Ros} (h : jh w0 w x) (hb : Below w.heap.size w w') : jh w0 w' x :=
 ⟨h.bel.trans (hb.mono h.bel.size), h.at0.below (aS h.at0) hb⟩
theorem jh.above {w0 w w' : World} {x : Ros} (h : jh w0 w x) (hb : Below w.heap.size w w') : bW w' w0.heap.size x := h.at0.below (aS h.at0) hb
section
variable {x : Ros} {m : Int} {c : Int} {b : Bool} (w : World)
theorem eh (h : bi x = b) : Calls prog 76 #[ros x] w fun e w' => e = .returned (.bool b) /\ Below w.heap.size w w' := by subst h; exact alq x w
theorem yB (h : bi x = b) : Calls prog 78 #[ros x] w fun e w' => e = .returned (.bool b) /\ Below w.heap.size w w' := by subst h; exact ak6 x w
theorem eW (h : fD x m = b) : Calls prog 177 #[ros x, .int .i64 m] w fun e w' => e = .returned (.bool b) /\ Below w.heap.size w w' := by subst h; exact sN x m w
theorem jl (h : lZ x m = b) : Calls prog 179 #[ros x, .int .i64 m] w fun e w' => e = .returned (.bool b) /\ Below w.heap.size w w' := by subst h; exact zE x m w
theorem fJ {n : Nat} (h : many x c = n) : Calls prog 178 #[ros x, .int .u8 c] w fun e w' => e = .returned (.int .i64 (n : Nat)) /\ Below w.heap.size w w' := by subst h; exact acN x c w
end
theorem aiS {x : Ros} {m s : Int} (hf : bi x = false) (w : World) : Calls prog 138 #[ros x, .int .i64 m, .int .i64 s] w fun e w' => e = .returned (.bool false) /\ Below w.heap.size w w' := by
 have HT1 := ae (jh.new w x);have HF := ae hf;clear hf;go_enter func138, ntmps138;go_upto_region 1 with (first | (refine aw rfl (br rfl rfl) ?_) | fail);generalize w.alloc (.cells (a7 x).toArray 86) = w1 at *;refine af ?_;refine alM (bf rfl alW (HT1.out.at0)) ?_;refine ay rfl (aB call76 rfl (evc alW evn)) ?_;refine (eh w1 HF).mono ?_;rintro e w2 ⟨rfl, hb⟩;have HT2 := ae (HT1.out.call hb);clear hb HT1;refine aR ?_;refine runs 1 ?_;refine bq 4 rfl (aL rfl alW) (by kernel_rfl) ?_;simp only [bX, ac, aa];refine runs 1 ?_;refine bq 4 rfl (aL rfl alW) (by kernel_rfl) ?_;simp only [bX, ac, aa];refine aH 1 ?_;go_upto_region 2 with fail;refine cC 1 ?_;go_wp2_with fail;go_ret;exact ⟨rfl, HT2.out.bel⟩
theorem ai4 {x : Ros} {m s : Int} (hf : bi x = true) (hq : fD x m = false) (w : World) : Calls prog 138 #[ros x, .int .i64 m, .int .i64 s] w fun e w' => e = .returned (.bool false) /\ Below w.heap.size w w' := by
 have HT1 := ae (jh.new w x);have HF := ae hf;have HQ := ae hq;clear hf hq;go_enter func138, ntmps138;go_upto_region 1 with (first | (refine aw rfl (br rfl rfl) ?_) | fail);generalize w.alloc (.cells (a7 x).toArray 86) = w1 at *;refine af ?_;refine alM (bf rfl alW (HT1.out.at0)) ?_;refine ay rfl (aB call76 rfl (evc alW evn)) ?_;refine (eh w1 HF).mono ?_;rintro e w2 ⟨rfl, hb⟩;have HT2 := ae (HT1.out.call hb);clear hb HT1;refine aR ?_;refine runs 2 ?_;refine alT (bf rfl alW (HT2.out.at0)) ?_;refine runs 1 ?_;refine ay alH (aB call177 rfl (evc alW (evc alW evn))) ?_;refine (eW w2 HQ).mono ?_;rintro e w3 ⟨rfl, hb⟩;have HT3 := ae (HT2.out.call hb);clear hb HT2;refine aR ?_;refine runs 2 ?_;refine bq 4 rfl (aL rfl alW) (by kernel_rfl) ?_;simp only [bX, ac, aa];refine aH 1 ?_;go_upto_region 2 with fail;refine cC 1 ?_;go_wp2_with fail;go_ret;exact ⟨rfl, HT3.out.bel⟩
theorem ajo {x : Ros} {m s : Int} (hf : bi x = true) (hq : fD x m = true) (hc : lZ x s = false) (w : World) : Calls prog 138 #[ros x, .int .i64 m, .int .i64 s] w fun e w' => e = .returned (.bool false) /\ Below w.heap.size w w' := by
 have HT1 := ae (jh.new w x);have HF := ae hf;have HQ := ae hq;have HC := ae hc;clear hf hq hc;go_enter func138, ntmps138;go_upto_region 1 with (first | (refine aw rfl (br rfl rfl) ?_) | fail);generalize w.alloc (.cells (a7 x).toArray 86) = w1 at *;refine af ?_;refine alM (bf rfl alW (HT1.out.at0)) ?_;refine ay rfl (aB call76 rfl (evc alW evn)) ?_;refine (eh w1 HF).mono ?_;rintro e w2 ⟨rfl, hb⟩;have HT2 := ae (HT1.out.call hb);clear hb HT1;refine aR ?_;refine runs 2 ?_;refine alT (bf rfl alW (HT2.out.at0)) ?_;refine runs 1 ?_;refine ay alH (aB call177 rfl (evc alW (evc alW evn))) ?_;refine (eW w2 HQ).mono ?_;rintro e w3 ⟨rfl, hb⟩;have HT3 := ae (HT2.out.call hb);clear hb HT2;refine aR ?_;refine runs 3 ?_;refine alT (bf rfl alW (HT3.out.at0)) ?_;refine runs 1 ?_;refine ay alH (aB call179 rfl (evc alW (evc alW evn))) ?_;refine (jl w3 HC).mono ?_;rintro e w4 ⟨rfl, hb⟩;have HT4 := ae (HT3.out.call hb);clear hb HT3;refine aR ?_;refine aH 2 ?_;go_upto_region 2 with fail;refine cC 1 ?_;go_wp2_with fail;go_ret;exact ⟨rfl, HT4.out.bel⟩
theorem ah2 {x : Ros} {j : Nat} {s : Int} (hj : j < 16) (hf : bi x = true) (hq : fD x (j : Int) = true) (hc : lZ x s = true) (h0 : (sta x j == 0) = true) (w : World) : Calls prog 138 #[ros x, .int .i64 (j : Int), .int .i64 s] w fun e w' => e = .returned (.bool true) /\ Below w.heap.size w w' := by
 have HT1 := ae (jh.new w x);have HF := ae hf;have HQ := ae hq;have HC := ae hc;have H0 := ae h0;clear hf hq hc h0;go_enter func138, ntmps138;go_upto_region 1 with (first | (refine aw rfl (br rfl rfl) ?_) | fail);generalize w.alloc (.cells (a7 x).toArray 86) = w1 at *;refine af ?_;refine alM (bf rfl alW (HT1.out.at0)) ?_;refine ay rfl (aB call76 rfl (evc alW evn)) ?_;refine (eh w1 HF).mono ?_;rintro e w2 ⟨rfl, hb⟩;have HT2 := ae (HT1.out.call hb);clear hb HT1;refine aR ?_;refine runs 2 ?_;refine alT (bf rfl alW (HT2.out.at0)) ?_;refine runs 1 ?_;refine ay alH (aB call177 rfl (evc alW (evc alW evn))) ?_;refine (eW w2 HQ).mono ?_;rintro e w3 ⟨rfl, hb⟩;have HT3 := ae (HT2.out.call hb);clear hb HT2;refine aR ?_;refine runs 3 ?_;refine alT (bf rfl alW (HT3.out.at0)) ?_;refine runs 1 ?_;refine ay alH (aB call179 rfl (evc alW (evc alW evn))) ?_;refine (jl w3 HC).mono ?_;rintro e w4 ⟨rfl, hb⟩;have HT4 := ae (HT3.out.call hb);clear hb HT3;refine aR ?_;refine aH 2 ?_;go_upto_region 3 with fail;refine aJ 1 ?_;refine alM (ax rfl alW ot) ?_;refine alM (cX rfl alW alW (qT hj)) ?_;refine alM (aE rfl alW (q6 ((HT4.out.at0).sta hj))) ?_;refine ah ?_;go_upto_region 4 with fail;refine af ?_;refine alM (aI true rfl alW evk H0) ?_;refine aH 1 ?_;go_upto_region 5 with fail;refine cC 1 ?_;go_wp2_with fail;go_ret;exact ⟨rfl, HT4.out.bel⟩
theorem aip {x : Ros} {j : Nat} {s : Int} (hj : j < 16) (hf : bi x = true) (hq : fD x (j : Int) = true) (hc : lZ x s = true) (h0 : (sta x j == 0) = false) (h2 : (sta x j == 2) = true) (hl : decide (s < x.cur) = true) (w : World) : Calls prog 138 #[ros x, .int .i64 (j : Int), .int .i64 s] w fun e w' => e = .returned (.bool true) /\ Below w.heap.size w w' := by
 have HT1 := ae (jh.new w x);have HF := ae hf;have HQ := ae hq;have HC := ae hc;have H0 := ae h0;have H2 := ae h2;have HL := ae hl;clear hf hq hc h0 h2 hl;go_enter func138, ntmps138;go_upto_region 1 with (first | (refine aw rfl (br rfl rfl) ?_) | fail);generalize w.alloc (.cells (a7 x).toArray 86) = w1 at *;refine af ?_;refine alM (bf rfl alW (HT1.out.at0)) ?_;refine ay rfl (aB call76 rfl (evc alW evn)) ?_;refine (eh w1 HF).mono ?_;rintro e w2 ⟨rfl, hb⟩;have HT2 := ae (HT1.out.call hb);clear hb HT1;refine aR ?_;refine runs 2 ?_;refine alT (bf rfl alW (HT2.out.at0)) ?_;refine runs 1 ?_;refine ay alH (aB call177 rfl (evc alW (evc alW evn))) ?_;refine (eW w2 HQ).mono ?_;rintro e w3 ⟨rfl, hb⟩;have HT3 := ae (HT2.out.call hb);clear hb HT2;refine aR ?_;refine runs 3 ?_;refine alT (bf rfl alW (HT3.out.at0)) ?_;refine runs 1 ?_;refine ay alH (aB call179 rfl (evc alW (evc alW evn))) ?_;refine (jl w3 HC).mono ?_;rintro e w4 ⟨rfl, hb⟩;have HT4 := ae (HT3.out.call hb);clear hb HT3;refine aR ?_;refine aH 2 ?_;go_upto_region 3 with fail;refine aJ 1 ?_;refine alM (ax rfl alW ot) ?_;refine alM (cX rfl alW alW (qT hj)) ?_;refine alM (aE rfl alW (q6 ((HT4.out.at0).sta hj))) ?_;refine ah ?_;go_upto_region 4 with fail;refine af ?_;refine alM (aI false rfl alW evk H0) ?_;refine aH 1 ?_;go_upto_region 6 with fail;refine af ?_;refine alM (aI true rfl alW evk H2) ?_;refine aH 1 ?_;go_upto_region 7 with fail;refine aJ 1 ?_;refine alM (ax rfl alW abA) ?_;refine alM (aE rfl alW (bV (HT4.out.at0).cells.2.2.2.1)) ?_;refine alM (aY true rfl alW alW HL) ?_;refine aH 1 ?_;go_wp2_with fail;go_ret;exact ⟨rfl, HT4.out.bel⟩
theorem ajb {x : Ros} {j : Nat} {s : Int} (hj : j < 16) (hf : bi x = true) (hq : fD x (j : Int) = true) (hc : lZ x s = true) (h0 : (sta x j == 0) = false) (h2 : (sta x j == 2) = true) (hl : decide (s < x.cur) = false) (w : World) : Calls prog 138 #[ros x, .int .i64 (j : Int), .int .i64 s] w fun e w' => e = .returned (.bool false) /\ Below w.heap.size w w' := by
 have HT1 := ae (jh.new w x);have HF := ae hf;have HQ := ae hq;have HC := ae hc;have H0 := ae h0;have H2 := ae h2;have HL := ae hl;clear hf hq hc h0 h2 hl;go_enter func138, ntmps138;go_upto_region 1 with (first | (refine aw rfl (br rfl rfl) ?_) | fail);generalize w.alloc (.cells (a7 x).toArray 86) = w1 at *;refine af ?_;refine alM (bf rfl alW (HT1.out.at0)) ?_;refine ay rfl (aB call76 rfl (evc alW evn)) ?_;refine (eh w1 HF).mono ?_;rintro e w2 ⟨rfl, hb⟩;have HT2 := ae (HT1.out.call hb);clear hb HT1;refine aR ?_;refine runs 2 ?_;refine alT (bf rfl alW (HT2.out.at0)) ?_;refine runs 1 ?_;refine ay alH (aB call177 rfl (evc alW (evc alW evn))) ?_;refine (eW w2 HQ).mono ?_;rintro e w3 ⟨rfl, hb⟩;have HT3 := ae (HT2.out.call hb);clear hb HT2;refine aR ?_;refine runs 3 ?_;refine alT (bf rfl alW (HT3.out.at0)) ?_;refine runs 1 ?_;refine ay alH (aB call179 rfl (evc alW (evc alW evn))) ?_;refine (jl w3 HC).mono ?_;rintro e w4 ⟨rfl, hb⟩;have HT4 := ae (HT3.out.call hb);clear hb HT3;refine aR ?_;refine aH 2 ?_;go_upto_region 3 with fail;refine aJ 1 ?_;refine alM (ax rfl alW ot) ?_;refine alM (cX rfl alW alW (qT hj)) ?_;refine alM (aE rfl alW (q6 ((HT4.out.at0).sta hj))) ?_;refine ah ?_;go_upto_region 4 with fail;refine af ?_;refine alM (aI false rfl alW evk H0) ?_;refine aH 1 ?_;go_upto_region 6 with fail;refine af ?_;refine alM (aI true rfl alW evk H2) ?_;refine aH 1 ?_;go_upto_region 7 with fail;refine aJ 1 ?_;refine alM (ax rfl alW abA) ?_;refine alM (aE rfl alW (bV (HT4.out.at0).cells.2.2.2.1)) ?_;refine alM (aY false rfl alW alW HL) ?_;refine aH 1 ?_;go_wp2_with fail;go_ret;exact ⟨rfl, HT4.out.bel⟩
theorem aiF {x : Ros} {j : Nat} {s : Int} (hj : j < 16) (hf : bi x = true) (hq : fD x (j : Int) = true) (hc : lZ x s = true) (h0 : (sta x j == 0) = false) (h2 : (sta x j == 2) = false) (w : World) : Calls prog 138 #[ros x, .int .i64 (j : Int), .int .i64 s] w fun e w' => e = .returned (.bool false) /\ Below w.heap.size w w' := by
 have HT1 := ae (jh.new w x);have HF := ae hf;have HQ := ae hq;have HC := ae hc;have H0 := ae h0;have H2 := ae h2;clear hf hq hc h0 h2;go_enter func138, ntmps138;go_upto_region 1 with (first | (refine aw rfl (br rfl rfl) ?_) | fail);generalize w.alloc (.cells (a7 x).toArray 86) = w1 at *;refine af ?_;refine alM (bf rfl alW (HT1.out.at0)) ?_;refine ay rfl (aB call76 rfl (evc alW evn)) ?_;refine (eh w1 HF).mono ?_;rintro e w2 ⟨rfl, hb⟩;have HT2 := ae (HT1.out.call hb);clear hb HT1;refine aR ?_;refine runs 2 ?_;refine alT (bf rfl alW (HT2.out.at0)) ?_;refine runs 1 ?_;refine ay alH (aB call177 rfl (evc alW (evc alW evn))) ?_;refine (eW w2 HQ).mono ?_;rintro e w3 ⟨rfl, hb⟩;have HT3 := ae (HT2.out.call hb);clear hb HT2;refine aR ?_;refine runs 3 ?_;refine alT (bf rfl alW (HT3.out.at0)) ?_;refine runs 1 ?_;refine ay alH (aB call179 rfl (evc alW (evc alW evn))) ?_;refine (jl w3 HC).mono ?_;rintro e w4 ⟨rfl, hb⟩;have HT4 := ae (HT3.out.call hb);clear hb HT3;refine aR ?_;refine aH 2 ?_;go_upto_region 3 with fail;refine aJ 1 ?_;refine alM (ax rfl alW ot) ?_;refine alM (cX rfl alW alW (qT hj)) ?_;refine alM (aE rfl alW (q6 ((HT4.out.at0).sta hj))) ?_;refine ah ?_;go_upto_region 4 with fail;refine af ?_;refine alM (aI false rfl alW evk H0) ?_;refine aH 1 ?_;go_upto_region 6 with fail;refine af ?_;refine alM (aI false rfl alW evk H2) ?_;refine aH 1 ?_;go_upto_region 8 with fail;refine cC 1 ?_;go_wp2_with fail;go_ret;exact ⟨rfl, HT4.out.bel⟩
theorem akC {x : Ros} {j : Nat} {s : Int} (hf : bi x = true) (hq : fD x (j : Int) = true) (hc : lZ x s = true) : hasB x (j : Int) s = (decide (sta x j = 0) || (decide (sta x j = 2) && decide (s < x.cur))) := by
 unfold hasB;rw [hf, hq, hc]
 rfl
theorem ak7 (x : Ros) (m s : Int) (w : World) : Calls prog 138 #[ros x, .int .i64 m, .int .i64 s] w fun e w' => e = .returned (.bool (hasB x m s)) /\ Below w.heap.size w w' := by
 cases hf : bi x
 ·rw [show hasB x m s = false from by unfold hasB; rw [hf]; rfl]; exact aiS hf w
 cases hq : fD x m
 ·rw [show hasB x m s = false from by unfold hasB; rw [hf, hq]; rfl]; exact ai4 hf hq w
 cases hc : lZ x s
 ·rw [show hasB x m s = false from by unfold hasB; rw [hf, hq, hc]; rfl]; exact ajo hf hq hc w
 have hm := oG hq;have hg := fK (eD hf).1;obtain ⟨j, rfl⟩ := Int.eq_ofNat_of_zero_le hm.1;have hj : j < 16 := by omega
 rw [akC hf hq hc];by_cases h0 : sta x j = 0
 ·rw [ao h0]; exact ah2 hj hf hq hc (by simpa using h0) w
 rw [am h0];by_cases h2 : sta x j = 2
 ·rw [ao h2];by_cases hl : s < x.cur
  ·rw [ao hl]; exact aip hj hf hq hc (by simpa using h0) (by simpa using h2) (ao hl) w
  ·rw [am hl]; exact ajb hj hf hq hc (by simpa using h0) (by simpa using h2) (am hl) w
 ·rw [am h2]; exact aiF hj hf hq hc (by simpa using h0) (by simpa using h2) w
def mG (M : aZ) (x : Ros) : Nat -> Bool
 |0 => true
 |k + 1 => mG M x k && !decide (iV M (k : Int) < 2 + x.s)
def gU (M : aZ) (id ev : Nat) (x : Ros) : Bool := !decide (id = 0) && (!decide (2305843009213693952 < ev) && (bi x && (decide ((M.ds.length : Int) = x.m + 1) && mG M x x.m.toNat)))
theorem tI {M : aZ} {x : Ros} {i : Nat} (h : iV M (i : Int) < 2 + x.s) : ∀ {n : Nat}, i < n -> mG M x n = false
 |0, hi => absurd hi (by omega)
 |n + 1, hi => by
  rw [mG];by_cases e : i = n
  ·subst e; rw [ao h]; simp
  ·rw [tI h (n := n) (by omega)]; rfl
theorem nq {M : aZ} {x : Ros} {i : Nat} (h : mG M x i = true) (h' : ¬ iV M (i : Int) < 2 + x.s) : mG M x (i + 1) = true := by rw [mG, h, am h']; rfl
def rhC (q id ev : Nat) (x : Ros) : List Value := .pointer (some ⟨q, 0, none⟩) :: .int .u64 (id : Int) :: .int .u64 (ev : Int) :: a7 x
theorem ajw : (prog.info? 96).map (fun i => i.zero) = some (some (.agg (.pointer none :: .int .u64 0 :: .int .u64 0 :: a7 bY).toArray)) := by kernel_rfl
section
variable {ρ : Operand -> Value} {o : Oper} {x1 x2 x3 x4 : Operand} {w : World} {q id ev : Nat} {x : Ros}
theorem aaP (q id ev : Nat) (x : Ros) : (Instr.build 96 #[(0, .pointer (some ⟨q, 0, none⟩)), (1, .int .u64 (id : Int)), (2, .int .u64 (ev : Int)), (3, ros x)]).run prog w = .ok (.agg (rhC q id ev x).toArray) w := by
 have hz := gB ajw w;have h0 := dm (place := fun i => (#[(0, 1), (1, 1), (2, 1), (3, 21)] : Array (Nat × Nat))[i]?) (i := 0) (off := 0) (size := 1) (v := .pointer (some ⟨q, 0, none⟩)) (pre := []) (mid := [.pointer none]) (post := .int .u64 0 :: .int .u64 0 :: a7 bY) (vs := [.pointer (some ⟨q, 0, none⟩)]) (rest := [(1, .int .u64 (id : Int)), (2, .int .u64 (ev : Int)), (3, ros x)]) rfl rfl rfl rfl rfl;have h1 := dm (place := fun i => (#[(0, 1), (1, 1), (2, 1), (3, 21)] : Array (Nat × Nat))[i]?) (i := 1) (off := 1) (size := 1) (v := .int .u64 (id : Int)) (pre := [.pointer (some ⟨q, 0, none⟩)]) (mid := [.int .u64 0]) (post := .int .u64 0 :: a7 bY) (vs := [.int .u64 (id : Int)]) (rest := [(2, .int .u64 (ev : Int)), (3, ros x)]) rfl rfl rfl rfl rfl;have h2 := dm (place := fun i => (#[(0, 1), (1, 1), (2, 1), (3, 21)] : Array (Nat × Nat))[i]?) (i := 2) (off := 2) (size := 1) (v := .int .u64 (ev : Int)) (pre := [.pointer (some ⟨q, 0, none⟩), .int .u64 (id : Int)]) (mid := [.int .u64 0]) (post := a7 bY) (vs := [.int .u64 (ev : Int)]) (rest := [(3, ros x)]) rfl rfl rfl rfl rfl;have h3 := dm (place := fun i => (#[(0, 1), (1, 1), (2, 1), (3, 21)] : Array (Nat × Nat))[i]?) (i := 3) (off := 3) (size := 21) (v := ros x) (pre := [.pointer (some ⟨q, 0, none⟩), .int .u64 (id : Int), .int .u64 (ev : Int)]) (mid := a7 bY) (post := []) (vs := a7 x) (rest := []) rfl rfl (bK x) rfl (bK bY);simp only [List.nil_append, List.append_nil, List.cons_append] at h0 h1 h2 h3;have h4 := h0.trans (h1.trans (h2.trans h3));have hz' : (zeroValue 96).run prog w = .ok (.agg (.pointer none :: .int .u64 0 :: .int .u64 0 :: a7 bY).toArray) w := hz;have hc : (Value.agg (.pointer none :: .int .u64 0 :: .int .u64 0 :: a7 bY).toArray).cells = (.pointer none :: .int .u64 0 :: .int .u64 0 :: a7 bY).toArray := rfl;simp only [Instr.build, Sem.run_bind, hz', run_underlying underlying96, Result.andThen_ok, hc];refine Eq.trans (congrArg (fun r => Result.andThen r _) (?h : _ = Result.ok #[(0, 1), (1, 1), (2, 1), (3, 21)] w)) ?_
 case h => kernel_rfl
 simp only [Result.andThen_ok];have h5 : Instr.fill (fun i => (#[(0, 1), (1, 1), (2, 1), (3, 21)] : Array (Nat × Nat))[i]?) (rhC q id ev x).toArray [] = some (rhC q id ev x).toArray := by rw [Instr.fill]
 rw [h4.trans h5]
 rfl
theorem xB (ho : o.op = .build 96 #[(0, x1), (1, x2), (2, x3), (3, x4)]) (h1 : ρ x1 = .pointer (some ⟨q, 0, none⟩)) (h2 : ρ x2 = .int .u64 (id : Int)) (h3 : ρ x3 = .int .u64 (ev : Int)) (h4 : ρ x4 = ros x) : (execOp ρ o).run prog w = .ok (.value (.agg (rhC q id ev x).toArray)) w := by
 unfold execOp;simp only [ho, h1, h2, h3, h4, List.map_toArray, List.map_cons, List.map_nil, Sem.run_bind, aaP, Result.andThen_ok, Sem.run_pure]
end
def RHu (w : World) (p q id ev : Nat) (x : Ros) : Prop := w.heap[p]? = some (.cells (rhC q id ev x).toArray 96 (0, 0))
section
variable {w : World} {F : Nat -> Prop} {q : Nat} {M : aZ}
def ss (w : World) (q : Nat) (M : aZ) (id en : Nat) (x : Ros) (e : Ending) (w' : World) : Prop :=
 Below w.heap.size w w' /\ ((gU M id en x = true /\ ∃ p, e = .returned (.tuple #[.pointer (some ⟨p, 0, none⟩), .int .i64 0]) /\ RHu w' p q id en x /\ w.heap.size <= p) \/ (gU M id en x = false /\ e = .returned (.tuple #[.pointer none, .int .i64 2])))
theorem ahn (id en : Nat) (x : Ros) (w : World) (hb : dB.Bn w F q M) (h0 : id = 0) : Calls prog 32 #[.pointer (some ⟨q, 0, none⟩), .int .u64 (id : Int), .int .u64 (en : Int), ros x] w (ss w q M id en x) := by
 obtain ⟨w1, hw1⟩ : ∃ w1, w.alloc (.cells (a7 x).toArray 86) = w1 := ⟨_, rfl⟩;obtain ⟨hx, hb1, hlt⟩ := dx w x;rw [hw1] at hx hb1 hlt;have HW1 := ae hw1;have HX := ae hx;have HB1 := ae hb1;have HLT := ae hlt;have HB := ae (dB.below hb hb1);clear hw1 hx hb1 hlt hb;have H0 : Hid (((id : Int) == 0) = true) := ae (by rw [h0]; rfl);have HNO : Hid (gU M id en x = false) := ae (by unfold gU; rw [ao h0]; rfl);clear h0;go_enter func32, ntmps32;go_upto_region 0 with fail;refine af ?_;refine alM (br rfl alW) ?_;rw [HW1.out];refine aH 2 ?_;go_upto_region 1 with fail;refine aT (B := w1.heap.size) (by kernel_rfl) ?_;refine cT 1 ?_;refine alU (fun _ hw => aI true rfl alW evk H0) ?_;refine il 2 rfl (fun _ hw => aL rfl alW) (by kernel_rfl) ?_;simp only [bX, ac, aa];refine cT 1 ?_;refine il 3 rfl (fun _ hw => aL rfl alW) (by kernel_rfl) ?_;simp only [bX, ac, aa];refine cT 1 ?_;refine il 7 rfl (fun _ hw => aL rfl alW) (by kernel_rfl) ?_;simp only [bX, ac, aa];refine cT 1 ?_;refine wpQuiet_nil ?_;intro w2 hw;have HB2 := ae (HB1.out.trans (hw.mono HB1.out.size));go_wp2_with fail;go_ret2;exact ⟨HB2, .inr ⟨HNO, rfl⟩⟩
theorem agG (id en : Nat) (x : Ros) (w : World) (hb : dB.Bn w F q M) (h0 : id ≠ 0) (h1 : 2305843009213693952 < en) : Calls prog 32 #[.pointer (some ⟨q, 0, none⟩), .int .u64 (id : Int), .int .u64 (en : Int), ros x] w (ss w q M id en x) := by
 obtain ⟨w1, hw1⟩ : ∃ w1, w.alloc (.cells (a7 x).toArray 86) = w1 := ⟨_, rfl⟩;obtain ⟨hx, hb1, hlt⟩ := dx w x;rw [hw1] at hx hb1 hlt;have HW1 := ae hw1;have HX := ae hx;have HB1 := ae hb1;have HLT := ae hlt;have HB := ae (dB.below hb hb1);clear hw1 hx hb1 hlt hb;have H0 : Hid (((id : Int) == 0) = false) := ae (av (by omega));have H1 : Hid (decide ((2305843009213693952 : Int) < (en : Int)) = true) := ae (ao (by omega));have HNO : Hid (gU M id en x = false) := ae (by unfold gU; rw [ao h1]; simp);clear h0 h1;go_enter func32, ntmps32;go_upto_region 0 with fail;refine af ?_;refine alM (br rfl alW) ?_;rw [HW1.out];refine aH 2 ?_;go_upto_region 1 with fail;refine aT (B := w1.heap.size) (by kernel_rfl) ?_;refine cT 1 ?_;refine alU (fun _ hw => aI false rfl alW evk H0) ?_;refine cT 2 ?_;refine alV (fun _ hw => ey true rfl alW evk H1) ?_;refine cT 1 ?_;refine il 3 rfl (fun _ hw => aL rfl alW) (by kernel_rfl) ?_;simp only [bX, ac, aa];refine cT 1 ?_;refine il 7 rfl (fun _ hw => aL rfl alW) (by kernel_rfl) ?_;simp only [bX, ac, aa];refine cT 1 ?_;refine wpQuiet_nil ?_;intro w2 hw;have HB2 := ae (HB1.out.trans (hw.mono HB1.out.size));go_wp2_with fail;go_ret2;exact ⟨HB2, .inr ⟨HNO, rfl⟩⟩
theorem afr (id en : Nat) (x : Ros) (w : World) (hb : dB.Bn w F q M) (h0 : id ≠ 0) (h1 : ¬ 2305843009213693952 < en) (h2 : bi x = false) : Calls prog 32 #[.pointer (some ⟨q, 0, none⟩), .int .u64 (id : Int), .int .u64 (en : Int), ros x] w (ss w q M id en x) := by
 obtain ⟨w1, hw1⟩ : ∃ w1, w.alloc (.cells (a7 x).toArray 86) = w1 := ⟨_, rfl⟩;obtain ⟨hx, hb1, hlt⟩ := dx w x;rw [hw1] at hx hb1 hlt;have HW1 := ae hw1;have HX := ae hx;have HB1 := ae hb1;have HLT := ae hlt;have HB := ae (dB.below hb hb1);clear hw1 hx hb1 hlt hb;have H0 : Hid (((id : Int) == 0) = false) := ae (av (by omega));have H1 : Hid (decide ((2305843009213693952 : Int) < (en : Int)) = false) := ae (am (by omega));have H2 := ae h2;have HNO : Hid (gU M id en x = false) := ae (by unfold gU; rw [h2]; simp);clear h0 h1 h2;go_enter func32, ntmps32;go_upto_region 0 with fail;refine af ?_;refine alM (br rfl alW) ?_;rw [HW1.out];refine aH 2 ?_;go_upto_region 1 with fail;refine aT (B := w1.heap.size) (by kernel_rfl) ?_;refine cT 1 ?_;refine alU (fun _ hw => aI false rfl alW evk H0) ?_;refine cT 2 ?_;refine alV (fun _ hw => ey false rfl alW evk H1) ?_;refine cT 2 ?_;refine alV (fun _ hw => bH rfl alW ((HX.out.below HLT hw).range)) ?_;refine ch alH (fun _ => aB call78 rfl (evc alW evn)) (bO aj fun w' hw => yB w' H2) ?_;simp only [aa];refine cT 2 ?_;refine il 7 rfl (fun _ hw => aL rfl alW) (by kernel_rfl) ?_;simp only [bX, ac, aa];refine cT 1 ?_;refine wpQuiet_nil ?_;intro w2 hw;have HB2 := ae (HB1.out.trans (hw.mono HB1.out.size));go_wp2_with fail;go_ret2;exact ⟨HB2, .inr ⟨HNO, rfl⟩⟩
theorem afl (id en : Nat) (x : Ros) (w : World) (hb : dB.Bn w F q M) (h0 : id ≠ 0) (h1 : ¬ 2305843009213693952 < en) (h2 : bi x = true) (h3 : ¬ (M.ds.length : Int) = x.m + 1) : Calls prog 32 #[.pointer (some ⟨q, 0, none⟩), .int .u64 (id : Int), .int .u64 (en : Int), ros x] w (ss w q M id en x) := by
 obtain ⟨w1, hw1⟩ : ∃ w1, w.alloc (.cells (a7 x).toArray 86) = w1 := ⟨_, rfl⟩;obtain ⟨hx, hb1, hlt⟩ := dx w x;rw [hw1] at hx hb1 hlt;have HW1 := ae hw1;have HX := ae hx;have HB1 := ae hb1;have HLT := ae hlt;have HB := ae (dB.below hb hb1);clear hw1 hx hb1 hlt hb;have H0 : Hid (((id : Int) == 0) = false) := ae (av (by omega));have H1 : Hid (decide ((2305843009213693952 : Int) < (en : Int)) = false) := ae (am (by omega));have H2 := ae h2;have HAD : Hid (IntKind.i64.wrap (x.m + 1) = x.m + 1) := ae (eF (by have := fK (eD h2).1; omega));have H3 : Hid (((M.ds.length : Int) != x.m + 1) = true) := ae (by simpa using h3);have HNO : Hid (gU M id en x = false) := ae (by unfold gU; rw [am h3]; simp);clear h0 h1 h2 h3;go_enter func32, ntmps32;go_upto_region 0 with fail;refine af ?_;refine alM (br rfl alW) ?_;rw [HW1.out];refine aH 2 ?_;go_upto_region 1 with fail;refine aT (B := w1.heap.size) (by kernel_rfl) ?_;refine cT 1 ?_;refine alU (fun _ hw => aI false rfl alW evk H0) ?_;refine cT 2 ?_;refine alV (fun _ hw => ey false rfl alW evk H1) ?_;refine cT 2 ?_;refine alV (fun _ hw => bH rfl alW ((HX.out.below HLT hw).range)) ?_;refine ch alH (fun _ => aB call78 rfl (evc alW evn)) (bO aj fun w' hw => yB w' H2) ?_;simp only [aa];refine cT 3 ?_;refine cT 1 ?_;refine ch alH (fun _ => aB call79 rfl (evc alW evn)) (bO aj fun _ hw => dB.devices (dB.below HB hw)) ?_;simp only [aa];refine alV (fun _ hw => ax rfl alW qf) ?_;refine alV (fun _ hw => ax rfl alW pl) ?_;refine alV (fun _ hw => aE rfl alW (bV (HX.out.below HLT hw).cells.1)) ?_;refine alV (fun _ hw => bP rfl alW evk HAD) ?_;refine alV (fun _ hw => aN true rfl alW alW H3) ?_;refine cT 1 ?_;refine wpQuiet_nil ?_;intro w2 hw;have HB2 := ae (HB1.out.trans (hw.mono HB1.out.size));go_wp2_with fail;go_ret2;exact ⟨HB2, .inr ⟨HNO, rfl⟩⟩
theorem agV (id en : Nat) (x : Ros) (w : World) (hb : dB.Bn w F q M) (h0 : id ≠ 0) (h1 : ¬ 2305843009213693952 < en) (h2 : bi x = true) (h3 : (M.ds.length : Int) = x.m + 1) : Calls prog 32 #[.pointer (some ⟨q, 0, none⟩), .int .u64 (id : Int), .int .u64 (en : Int), ros x] w (ss w q M id en x) := by
 obtain ⟨w1, hw1⟩ : ∃ w1, w.alloc (.cells (a7 x).toArray 86) = w1 := ⟨_, rfl⟩;obtain ⟨hx, hb1, hlt⟩ := dx w x;rw [hw1] at hx hb1 hlt;have HW1 := ae hw1;have HX := ae hx;have HB1 := ae hb1;have HLT := ae hlt;have HB := ae (dB.below hb hb1);clear hw1 hx hb1 hlt hb;have H0 : Hid (((id : Int) == 0) = false) := ae (av (by omega));have H1 : Hid (decide ((2305843009213693952 : Int) < (en : Int)) = false) := ae (am (by omega));have H2 := ae h2;have hge := fK (eD h2).1;have HGE := ae hge;have HAD : Hid (IntKind.i64.wrap (x.m + 1) = x.m + 1) := ae (eF (by omega));have HSD : Hid (IntKind.i64.wrap (x.s + 2) = x.s + 2) := ae (eF (by omega));have H3 : Hid (((M.ds.length : Int) != x.m + 1) = false) := ae (by rw [h3]; exact bne_self_eq_false _);have HK : Hid (gU M id en x = mG M x x.m.toNat) := ae (by unfold gU; rw [am h0, am h1, h2, ao h3]; rfl);clear h0 h1 h2 h3 hge;go_enter func32, ntmps32;go_upto_region 0 with fail;refine af ?_;refine alM (br rfl alW) ?_;rw [HW1.out];refine aH 2 ?_;go_upto_region 1 with fail;refine aT (B := w1.heap.size) (by kernel_rfl) ?_;refine cT 1 ?_;refine alU (fun _ hw => aI false rfl alW evk H0) ?_;refine cT 2 ?_;refine alV (fun _ hw => ey false rfl alW evk H1) ?_;refine cT 2 ?_;refine alV (fun _ hw => bH rfl alW ((HX.out.below HLT hw).range)) ?_;refine ch alH (fun _ => aB call78 rfl (evc alW evn)) (bO aj fun w' hw => yB w' H2) ?_;simp only [aa];refine cT 3 ?_;refine cT 1 ?_;refine ch alH (fun _ => aB call79 rfl (evc alW evn)) (bO aj fun _ hw => dB.devices (dB.below HB hw)) ?_;simp only [aa];refine alV (fun _ hw => ax rfl alW qf) ?_;refine alV (fun _ hw => ax rfl alW pl) ?_;refine alV (fun _ hw => aE rfl alW (bV (HX.out.below HLT hw).cells.1)) ?_;refine alV (fun _ hw => bP rfl alW evk HAD) ?_;refine alV (fun _ hw => aN false rfl alW alW H3) ?_;refine cT 1 ?_;refine wpQuiet_nil ?_;intro w2 hw;have HB2 := ae (HB1.out.trans (hw.mono HB1.out.size));have HX2 := ae (HX.out.below HLT hw);have HL2 := ae (au HLT hw.size);have HBB := ae (dB.below HB hw);clear hw;go_wp2_with fail
 go_loopw [10] (fun z wr => ∃ i : Nat, z = .int .i64 i /\ i <= x.m.toNat /\ mG M x i = true /\ Below w2.heap.size w2 wr) (fun z _ => x.m.toNat - (intOf z).toNat)
 case atStart => exact ⟨0, by go_num, Nat.zero_le _, rfl, ak⟩
 case round =>
  obtain ⟨i, rfl, hi, hs, hb⟩ := hrel;have HS := ae hs;have HW := ae hb;have HX3 := ae (HX2.out.below HL2 (hb.mono aj));have HL3 := ae (au HL2 hb.size);have HB3 := ae (dB.below HBB hb);clear hs hb;go_upto_region 4 with fail;refine aJ 1 ?_;refine alM (ax rfl alW qf) ?_;refine alM (ax rfl alW pl) ?_;refine alM (aE rfl alW (bV HX3.out.cells.1)) ?_;by_cases hlt : i < x.m.toNat
  ·have HI := ae hlt;have HT : Hid (decide ((i : Int) < x.m) = true) := ae (ao (by have := HGE.out; omega));have HA : Hid (IntKind.i64.wrap ((i : Int) + 1) = ((i + 1 : Nat) : Int)) := ae (by have := HGE.out; rw [eF ⟨by omega, by omega⟩]; omega);clear hi hlt;refine alM (aY true rfl alW alW HT) ?_;refine ah ?_;go_upto_region 6 with fail;refine aT (B := wr.heap.size) (by kernel_rfl) ?_;refine cT 2 ?_;refine ch rfl (fun _ => aB call80 rfl (evc alW (evc alW evn))) (bO aj fun _ hw => dB.gd (i : Int) (dB.below HB3 hw)) ?_;simp only [aa];refine alU (fun _ hw => ax rfl alW qf) ?_;refine alU (fun _ hw => ax rfl alW adf) ?_;refine alU (fun _ hw => aE rfl alW (bV (HX3.out.below HL3 hw).cells.2.1)) ?_;refine alU (fun _ hw => bP rfl alW evk HSD) ?_;by_cases hq : iV M (i : Int) < x.s + 2
   ·have HQ : Hid (decide (iV M (i : Int) < x.s + 2) = true) := ae (ao hq);have HNO : Hid (gU M id en x = false) := ae (by rw [HK.out]; exact tI (by omega) HI);clear hq;refine alU (fun _ hw => aY true rfl alW alW HQ) ?_;refine wpQuiet_nil ?_;intro w4 hw;have HW4 := ae (HW.out.trans (hw.mono HW.out.size));clear hw;go_wp2_with fail;go_ret2;exact ⟨HB2.out.trans (HW4.out.mono HB2.out.size), .inr ⟨HNO, rfl⟩⟩
   have HQ : Hid (decide (iV M (i : Int) < x.s + 2) = false) := ae (am hq);have HS2 := ae (nq HS (by omega));clear hq;refine alU (fun _ hw => aY false rfl alW alW HQ) ?_;refine wpQuiet_nil ?_;intro w4 hw;have HW4 := ae (HW.out.trans (hw.mono HW.out.size));clear hw;go_upto_region 5 with fail;refine aJ 1 ?_;refine alM (bP rfl alW evk HA) ?_;refine aH 1 ?_;go_wp2_with fail;go_roundw
   case rel => exact ⟨i + 1, by go_num, HI, HS2, HW4⟩
   case measure => have := HI.out; simp [intOf]; omega
  have hin : i = x.m.toNat := by omega
  have HT : Hid (decide ((i : Int) < x.m) = false) := ae (am (by have := HGE.out; omega));have HYES : Hid (gU M id en x = true) := ae (by rw [HK.out, <- hin]; exact HS);clear hi hlt hin;refine alM (aY false rfl alW alW HT) ?_;refine ah ?_;go_upto_region 8 with fail;refine aJ 3 ?_;refine alM (bH rfl alW HX3.out.range) ?_;refine alM (xB rfl alW alW alW alW) ?_;refine alM (ct (cs := rhC q id en x) rfl alW) ?_;refine aH 2 ?_;go_wp2_with fail;go_ret2;have hw3 := HB2.out.trans (HW.out.mono HB2.out.size);exact ⟨hw3.alloc hw3.size _, .inl ⟨HYES, _, rfl, heap_alloc_new wr _, hw3.size⟩⟩
theorem aj0 (id en : Nat) (x : Ros) (w : World) (hb : dB.Bn w F q M) : Calls prog 32 #[.pointer (some ⟨q, 0, none⟩), .int .u64 (id : Int), .int .u64 (en : Int), ros x] w (ss w q M id en x) := by
 by_cases h0 : id = 0
 ·exact ahn id en x w hb h0
 by_cases h1 : 2305843009213693952 < en
 ·exact agG id en x w hb h0 h1
 cases h2 : bi x
 ·exact afr id en x w hb h0 h1 h2
 by_cases h3 : (M.ds.length : Int) = x.m + 1
 ·exact agV id en x w hb h0 h1 h2 h3
 ·exact afl id en x w hb h0 h1 h2 h3
end
structure CrG (w : World) (G : Nat -> Prop) : Prop where
 t : Tab w
 off : ¬ G 0
structure gZ where
 R : akO
 J : World -> (Nat -> Prop) -> Nat -> Nat -> HuS -> Prop
 lt : ∀ {w G q p h}, J w G q p h -> ∀ b, G b -> b < w.heap.size
 fin : ∀ {w G q p h}, J w G q p h -> bi h.R = true /\ h.id ≠ 0
 only : ∀ {w w' G F q p h}, J w G q p h -> Only F w w' -> (∀ b, G b -> ¬ F b) -> J w' G q p h
 ben : ∀ {w G q p h}, J w G q p h -> ∃ Gb, R.Bn w Gb q h.M /\ (∀ b, Gb b -> G b) /\ ∀ w' Gb' M', R.Bn w' Gb' q M' -> Only Gb w w' -> Grow w Gb Gb' -> ∃ G', J w' G' q p { h with M := M' } /\ Only G w w' /\ Grow w G G'
 new_ : ∀ {w G q M} (id ev : Nat) (x : Ros), id < 18446744073709551616 -> ev < 18446744073709551616 -> R.Bn w G q M -> Calls prog 31 #[.pointer (some ⟨q, 0, none⟩), .int .u64 (id : Int), .int .u64 (ev : Int), ros x] w fun e w' =>
  Below w.heap.size w w' /\ ((gU M id ev x = true /\ ∃ p G', e = .returned (.tuple #[.pointer (some ⟨p, 0, none⟩), .int .i64 0]) /\ J w' G' q p ⟨M, id, ev, x⟩ /\ ∀ b, G' b -> G b \/ w.heap.size <= b) \/ (gU M id ev x = false /\ e = .returned (.tuple #[.pointer none, .int .i64 2])))
 new_nil : ∀ (w : World) (id ev : Nat) (x : Ros), id < 18446744073709551616 -> ev < 18446744073709551616 -> Calls prog 31 #[.pointer none, .int .u64 (id : Int), .int .u64 (ev : Int), ros x] w fun e w' => e = .returned (.tuple #[.pointer none, .int .i64 1]) /\ Below w.heap.size w w'
 read : ∀ {w G q p h} (s m : Int), J w G q p h -> CrG w G -> Room h.M 600 -> h.ev <= 4611686018427387000 -> Calls prog 114 #[.pointer (some ⟨p, 0, none⟩), .agg #[.int .i64 s, .int .i64 m]] w fun e w' => e = .returned (.tuple #[blk (kb h s m), .int .i64 (gi h s m)]) /\ ∃ G', (qG h s m -> J w' G' q p (f6 h s m)) /\ Only G w w' /\ Grow w G G' /\ ∃ Gb, R.Bn w' Gb q (f6 h s m).M /\ ∀ b, Gb b -> G' b
 write : ∀ {w G q p h} (s m : Int) (b : Blk), J w G q p h -> CrG w G -> Room h.M 600 -> h.ev <= 4611686018427387000 -> Calls prog 38 #[.pointer (some ⟨p, 0, none⟩), .agg #[.int .i64 s, .int .i64 m], blk b] w fun e w' => e = .returned (.int .i64 (abX h s m b)) /\ ∃ G', (aa7 h s m -> J w' G' q p (re h s m b)) /\ Only G w w' /\ Grow w G G' /\ ∃ Gb, R.Bn w' Gb q (re h s m b).M /\ ∀ b, Gb b -> G' b
 aj6 : ∀ {w G q p h}, J w G q p h -> Calls prog 47 #[.pointer (some ⟨p, 0, none⟩)] w fun e w' => e = .returned (.int .u64 (h.ev : Int)) /\ Below w.heap.size w w'
 id_ : ∀ {w G q p h}, J w G q p h -> Calls prog 56 #[.pointer (some ⟨p, 0, none⟩)] w fun e w' => e = .returned (.int .u64 (h.id : Int)) /\ Below w.heap.size w w'
 state : ∀ {w G q p h}, J w G q p h -> Calls prog 182 #[.pointer (some ⟨p, 0, none⟩)] w fun e w' => e = .returned (.int .i64 (stN h.R : Nat)) /\ Below w.heap.size w w'
 tB : ∀ {w G q p h}, J w G q p h -> Calls prog 49 #[.pointer (some ⟨p, 0, none⟩)] w fun e w' => e = .returned (ros h.R) /\ Below w.heap.size w w'
 No : World -> Value -> Prop
 zc : List Value
 zb : List Value
 no_nil : ∀ w : World, No w (.pointer none)
 bld0 : ∀ w : World, (Instr.build 136 #[]).run prog w = .ok (.agg zc.toArray) w
 bldB : ∀ w : World, (Instr.build 126 #[]).run prog w = .ok (.agg zb.toArray) w
 no_zero : ∀ w : World, No (w.alloc (.cells zc.toArray 136)) (.pointer (some ⟨w.heap.size, 0, none⟩))
 no_below : ∀ {w w' : World} {v : Value}, No w v -> Below w.heap.size w w' -> No w' v
 new_zero : ∀ (w : World) (b : Nat) (id ev : Nat) (x : Ros), w.heap[b]? = some (.cells zb.toArray 126 (0, 0)) -> id < 18446744073709551616 -> ev < 18446744073709551616 -> Calls prog 31 #[.pointer (some ⟨b, 0, none⟩), .int .u64 (id : Int), .int .u64 (ev : Int), ros x] w fun e w' => e = .returned (.tuple #[.pointer none, .int .i64 1]) /\ Below w.heap.size w w'
 no_read : ∀ (w : World) (v : Value) (s m : Int), No w v -> Calls prog 114 #[v, .agg #[.int .i64 s, .int .i64 m]] w fun e w' => e = .returned (.tuple #[blk aF, .int .i64 1]) /\ Below w.heap.size w w'
 no_write : ∀ (w : World) (v : Value) (s m : Int) (b : Blk), No w v -> Calls prog 38 #[v, .agg #[.int .i64 s, .int .i64 m], blk b] w fun e w' => e = .returned (.int .i64 1) /\ Below w.heap.size w w'
 no_event : ∀ (w : World) (v : Value) , No w v -> Calls prog 47 #[v] w fun e w' => e = .returned (.int .u64 0) /\ Below w.heap.size w w'
 no_id : ∀ (w : World) (v : Value) , No w v -> Calls prog 56 #[v] w fun e w' => e = .returned (.int .u64 0) /\ Below w.heap.size w w'
 no_state : ∀ (w : World) (v : Value) , No w v -> Calls prog 182 #[v] w fun e w' => e = .returned (.int .i64 0) /\ Below w.heap.size w w'
theorem gZ.below (C : gZ) {w w' : World} {G : Nat -> Prop} {q p : Nat} {h : HuS} (hj : C.J w G q p h) (k : Below w.heap.size w w') : C.J w' G q p h := C.only hj (Only.of_below (fun _ => False) k) fun _ _ e => e
structure ol (w0 : World) (B : Nat) : Prop where
 le : B <= w0.heap.size
 t : Tab w0
 lo : 0 < B
theorem fT {w : World} {b j : Nat} {v : Value} (h : w.cell? ⟨b, j, none⟩ = some v) : b < w.heap.size := by
 rcases Nat.lt_or_ge b w.heap.size with h' | h'
 ·exact h'
 ·have : w.heap[b]? = none := Array.getElem?_eq_none h';simp [World.cell?, this] at h
theorem ol.start {w : World} (h : Tab w) : ol w w.heap.size := ⟨aj, h, fT (h 0 (by omega))⟩
theorem ol.tab {w0 w : World} {B : Nat} (h : ol w0 B) (hb : Below B w0 w) : Tab w := fun i hi => (World.cell?_of_block (w := w0) (hb.block _ h.lo)).trans (h.t i hi)
def HAt (C : gZ) (w0 : World) (B : Nat) (K : Nat -> Prop) (w : World) (q p : Nat) (h : HuS) : Prop := ∃ G, C.J w G q p h /\ (∀ b, G b -> B <= b) /\ Below B w0 w /\ ol w0 B /\ ∀ b, K b -> ¬ G b /\ b < w.heap.size
def ci (K : Nat -> Prop) (w w' : World) : Prop := ∀ b, K b -> w'.heap[b]? = w.heap[b]?
theorem ci.refl (K : Nat -> Prop) (w : World) : ci K w w := fun _ _ => rfl
theorem ci.trans {K : Nat -> Prop} {w1 w2 w3 : World} (h : ci K w1 w2) (k : ci K w2 w3) : ci K w1 w3 := fun b e => (k b e).trans (h b e)
theorem ci.less {K K' : Nat -> Prop} {w1 w2 : World} (h : ci K w1 w2) (hK : ∀ b, K' b -> K b) : ci K' w1 w2 := fun b e => h b (hK b e)
theorem ci.at_ {K : Nat -> Prop} {w w' : World} {b : Nat} {o : Obj} (k : ci K w w') (hb : K b) (ho : w.heap[b]? = some o) : w'.heap[b]? = some o := (k b hb).trans ho
theorem ci.jK {K : Nat -> Prop} {w w' : World} {g : Nat} (ho : Only (fun b => b = g) w w') (hK : ∀ b, K b -> b ≠ g /\ b < w.heap.size) : ci K w w' := fun b e => ho.block b (hK b e).2 (hK b e).1
section
variable {C : gZ} {w0 w w' : World} {B q p : Nat} {K K' : Nat -> Prop} {h h' : HuS}
theorem HAt.bel (a : HAt C w0 B K w q p h) : Below B w0 w := by obtain ⟨G, h1, h2, h3, _⟩ := a; exact h3
theorem ol.crg {G : Nat -> Prop} (h : ol w0 B) (hb : Below B w0 w) (hG : ∀ b, G b -> B <= b) : CrG w G := ⟨h.tab hb, fun e => by have := h.lo; have := hG _ e; omega⟩
end
structure LC where
 kn : Bool
 dt : Bool
 b : Blk
def lc0 : LC := ⟨false, false, aF⟩
structure LnS where
 l : List LC
 f : Nat
def dj (s : LnS) (k : Nat) : LC := s.l.getD k lc0
def lnR (s : LnS) (m : Int) : Bool := decide (0 <= m) && decide (m < (s.l.length : Int))
def oe (f q : Nat) : Nat := if f = 0 \/ q < f then q else f
def lnE (s : LnS) (m : Int) : Int := if lnR s m then 0 else 2
def fA (s : LnS) (m : Int) (b : Blk) : LnS := if lnR s m then (if (dj s m.toNat).kn then s else ⟨s.l.set m.toNat ⟨true, false, b⟩, s.f⟩) else s
def q7 (s : LnS) (m : Int) (q : Nat) : Int := if lnR s m && !decide (q = 0) then 0 else 2
def eG (s : LnS) (m : Int) (b : Blk) (q : Nat) : LnS := if lnR s m && !decide (q = 0) then ⟨s.l.set m.toNat ⟨true, true, b⟩, oe s.f q⟩ else s
def gw (s : LnS) (m : Int) : LnS := if lnR s m then ⟨s.l.set m.toNat lc0, s.f⟩ else s
def lcC (c : LC) : LC := { c with dt := false }
def gM (s : LnS) : LnS := ⟨s.l.map lcC, 0⟩
def lnG (s : LnS) (m : Int) : LC := if lnR s m then dj s m.toNat else lc0
def gu (l : List LC) : Nat -> List Int
 |0 => []
 |n + 1 => gu l n ++ (if (l.getD n lc0).dt then [(n : Int)] else [])
def lnD (s : LnS) : List Int := gu s.l s.l.length
structure dQ (s : LnS) : Prop where
 lo : 1 <= s.l.length
 hi : s.l.length <= 16
 fb : s.f < 18446744073709551616
 no : ∀ k, k < s.l.length -> (dj s k).kn = false -> dj s k = lc0
def dC (n : Nat) : LnS := ⟨List.replicate n lc0, 0⟩
theorem af9 {f q B : Nat} (hf : f < B) (hq : q < B) : oe f q < B := by unfold oe; split <;> omega
theorem fv {α : Type} (l : List α) (k j : Nat) (a d : α) (hk : k < l.length) : (l.set k a).getD j d = if j = k then a else l.getD j d := by
 by_cases e : j = k
 ·subst e; rw [if_pos rfl]; simp [List.getD, hk]
 ·rw [if_neg e]; simp only [List.getD]; rw [List.getElem?_set_ne (by omega)]
section
variable {s : LnS} {m : Int} {b : Blk} {q n : Nat}
theorem aih (h : lnR s m = true) : 0 <= m /\ m < (s.l.length : Int) := by unfold lnR at h; simpa using h
theorem gL {k : Nat} (h : k < s.l.length) : lnR s (k : Int) = true := by unfold lnR; simp [h]
theorem oR {a : LC} {f : Nat} (h : dQ s) (k : Nat) (ha : a.kn = false -> a = lc0) (hf : f < 18446744073709551616) : dQ ⟨s.l.set k a, f⟩ := by
 refine ⟨by rw [List.length_set]; exact h.lo, by rw [List.length_set]; exact h.hi, hf, fun j hj hn => ?_⟩;rw [List.length_set] at hj;unfold dj at hn ⊢;by_cases hk : k < s.l.length
 ·rw [fv _ _ _ _ _ hk] at hn ⊢;by_cases e : j = k
  ·rw [if_pos e] at hn ⊢; exact ha hn
  ·rw [if_neg e] at hn ⊢; exact h.no j hj hn
 ·have e : s.l.set k a = s.l := List.set_eq_of_length_le (by omega);simp only [e] at hn ⊢;exact h.no j hj hn
theorem dQ.lrn (h : dQ s) (m : Int) (b : Blk) : dQ (fA s m b) := by
 unfold fA
 split
 ·split
  ·exact h
  ·exact oR h _ (fun e => by cases e) h.fb
 ·exact h
theorem dQ.set (h : dQ s) (m : Int) (b : Blk) (hq : q < 18446744073709551616) : dQ (eG s m b q) := by
 unfold eG
 split
 ·exact oR h _ (fun e => by cases e) (af9 h.fb hq)
 ·exact h
theorem dQ.frg (h : dQ s) (m : Int) : dQ (gw s m) := by
 unfold gw
 split
 ·exact oR h _ (fun _ => rfl) h.fb
 ·exact h
theorem yE (k : Nat) : dj (gM s) k = lcC (dj s k) := by
 unfold dj gM;simp only [List.getD, List.getElem?_map];cases s.l[k]? <;> rfl
theorem dQ.cln (h : dQ s) : dQ (gM s) := by
 refine ⟨by simp [gM]; exact h.lo, by simp [gM]; exact h.hi, by simp [gM], fun k hk hn => ?_⟩;rw [yE] at hn ⊢;have hk' : k < s.l.length := by simpa [gM] using hk
 rw [h.no k hk' hn]
 rfl
theorem dQ.new (h1 : 1 <= n) (h2 : n <= 16) : dQ (dC n) := by
 refine ⟨by simp [dC]; exact h1, by simp [dC]; exact h2, by simp [dC], fun k hk _ => ?_⟩;have hk' : k < n := by simpa [dC] using hk
 simp [dj, dC, List.getD, hk']
theorem yP (m : Int) (b : Blk) : (fA s m b).l.length = s.l.length := by unfold fA; split <;> (try split) <;> simp
theorem tF (m : Int) (b : Blk) (q : Nat) : (eG s m b q).l.length = s.l.length := by unfold eG; split <;> simp
theorem agj (m : Int) : (gw s m).l.length = s.l.length := by unfold gw; split <;> simp
theorem zz : (gM s).l.length = s.l.length := by simp [gM]
theorem yS {l : List LC} : ∀ {n : Nat} {x : Int}, x ∈ gu l n -> ∃ k : Nat, x = (k : Int) /\ k < n /\ (l.getD k lc0).dt = true
 |0, x, h => by simp [gu] at h
 |n + 1, x, h => by
  rw [gu, List.mem_append] at h;rcases h with h | h
  ·obtain ⟨k, h1, h2, h3⟩ := yS h; exact ⟨k, h1, by omega, h3⟩
  ·split at h
   ·rename_i e; simp at h; exact ⟨n, h, by omega, e⟩
   ·simp at h
theorem zM (l : List LC) (n : Nat) : (gu l n).length <= n := by
 induction n with
 |zero => simp [gu]
 |succ n ih => rw [gu, List.length_append]; split <;> simp <;> omega
theorem qQ {l : List LC} {n : Nat} (h : ∀ k, k < n -> (l.getD k lc0).dt = false) : gu l n = [] := by
 induction n with
 |zero => rfl
 |succ n ih => rw [gu, ih fun k hk => h k (by omega), h n (by omega)]; rfl
theorem zW (n : Nat) : lnD (dC n) = [] := qQ fun k hk => by
 have hk' : k < n := by simpa [dC] using hk
 simp [dC, List.getD, hk', lc0]
theorem afJ : lnD (gM s) = [] := qQ fun k hk => by
 have := yE (s := s) k;unfold dj at this;rw [this]
 rfl
end
section
variable {s : LnS} {m : Int} {b : Blk} {q k : Nat}
theorem jR (h : lnR s m = true) : ∃ k : Nat, m = (k : Int) /\ k < s.l.length := by
 have := aih h;exact ⟨m.toNat, by omega, by omega⟩
theorem nJ (h : lnR s m = false) : lnE s m = 2 := by unfold lnE; rw [h]; rfl
theorem tK (h : k < s.l.length) : lnE s (k : Int) = 0 := by unfold lnE; rw [gL h]; rfl
theorem aeG (h : lnR s m = false) : fA s m b = s := by unfold fA; rw [h]; rfl
theorem abB (h : k < s.l.length) (hn : (dj s k).kn = true) : fA s (k : Int) b = s := by unfold fA; rw [gL h, Int.toNat_natCast, hn]; rfl
theorem nt (h : k < s.l.length) (hn : (dj s k).kn = false) : fA s (k : Int) b = ⟨s.l.set k ⟨true, false, b⟩, s.f⟩ := by unfold fA; rw [gL h, Int.toNat_natCast, hn]; rfl
theorem ag8 (h : lnR s m = false) : q7 s m q = 2 := by unfold q7; rw [h]; rfl
theorem ai1 : q7 s m 0 = 2 := by unfold q7; cases lnR s m <;> rfl
theorem zy (h : k < s.l.length) (hq : q ≠ 0) : q7 s (k : Int) q = 0 := by unfold q7; rw [gL h, am hq]; rfl
theorem acG (h : lnR s m = false) : eG s m b q = s := by unfold eG; rw [h]; rfl
theorem agk : eG s m b 0 = s := by unfold eG; cases lnR s m <;> rfl
theorem na (h : k < s.l.length) (hq : q ≠ 0) : eG s (k : Int) b q = ⟨s.l.set k ⟨true, true, b⟩, oe s.f q⟩ := by unfold eG; rw [gL h, am hq, Int.toNat_natCast]; rfl
theorem adT (h : lnR s m = false) : gw s m = s := by unfold gw; rw [h]; rfl
theorem vH (h : k < s.l.length) : gw s (k : Int) = ⟨s.l.set k lc0, s.f⟩ := by unfold gw; rw [gL h, Int.toNat_natCast]; rfl
theorem ail (h : lnR s m = false) : lnG s m = lc0 := by unfold lnG; rw [h]; rfl
theorem yA (h : k < s.l.length) : lnG s (k : Int) = dj s k := by unfold lnG; rw [gL h, Int.toNat_natCast]; rfl
end
structure Ky where
 n : Int
 pin : Bool
def ky0 : Ky := ⟨0, false⟩
def plc (k : Int) : List Ky -> Nat
 |[] => 0
 |x :: r => if x.n = k then 0 else plc k r + 1
theorem pP {k : Int} {L : List Ky} (h : plc k L < L.length) : (L.getD (plc k L) ky0).n = k := by
 induction L with
 |nil => simp at h
 |cons x r ih =>
  unfold plc at h ⊢
  split
  ·rename_i e; simpa using e
  ·rename_i e
   rw [if_neg e] at h
   simpa using ih (by simpa using h)
theorem ajj {k : Int} {L : List Ky} {j : Nat} (h : j < plc k L) : (L.getD j ky0).n ≠ k := by
 induction L generalizing j with
 |nil => simp [plc] at h
 |cons x r ih =>
  unfold plc at h
  split at h
  ·omega
  ·rename_i e
   cases j with
   |zero => simpa using e
   |succ j => simpa using ih (by omega)
def wo {α : Type} (L : List α) (i : Nat) : List α := L.take i ++ L.drop (i + 1)
theorem oU {α : Type} {L : List α} {i : Nat} (h : i < L.length) : (wo L i).length + 1 = L.length := by
 unfold wo; simp; omega
theorem nD {α β : Type} (f : α -> β) (L : List α) (i : Nat) : (wo L i).map f = wo (L.map f) i := by unfold wo; simp [List.map_take, List.map_drop]
theorem ke {α : Type} (L : List α) (i : Nat) : (wo L i).Sublist L := by
 unfold wo
 conv => rhs; rw [<- List.take_append_drop i L]
 exact (List.Sublist.refl _).append ((List.drop_sublist_drop_left L (Nat.le_succ i)))
theorem oJ {α : Type} (L : List α) (d : α) {i : Nat} (h : i < L.length) : L = L.take i ++ L.getD i d :: L.drop (i + 1) := by
 conv => lhs; rw [<- List.take_append_drop i L]
 rw [List.drop_eq_getElem_cons h];simp [List.getD, h]
theorem getD_map {α β : Type} (f : α -> β) (L : List α) (d : α) (e : β) {i : Nat} (h : i < L.length) : (L.map f).getD i e = f (L.getD i d) := by simp [List.getD, h]
def lu : List Ky -> Nat
 |[] => 0
 |x :: r => if 0 < lu r then lu r + 1 else if x.pin = true then 0 else 1
theorem adV (L : List Ky) : lu L <= L.length := by
 induction L with
 |nil => exact aj
 |cons x r ih => unfold lu; split <;> (try split) <;> simp <;> omega
theorem ai6 {L : List Ky} {j : Nat} (h : lu L <= j) (hj : j < L.length) : (L.getD j ky0).pin = true := by
 induction L generalizing j with
 |nil => simp at hj
 |cons x r ih =>
  unfold lu at h
  split at h
  ·cases j with
   |zero => omega
   |succ j => simpa using ih (by omega) (by simpa using hj)
  ·split at h
   ·rename_i h0 hx
    cases j with
    |zero => simpa using hx
    |succ j => simpa using ih (by omega) (by simpa using hj)
   ·cases j with
    |zero => omega
    |succ j => simpa using ih (by omega) (by simpa using hj)
theorem ahD {L : List Ky} (h : 0 < lu L) : (L.getD (lu L - 1) ky0).pin = false := by
 induction L with
 |nil => simp [lu] at h
 |cons x r ih =>
  unfold lu at h ⊢
  split
  ·rename_i h0
   have := ih h0;rw [show lu r + 1 - 1 = (lu r - 1) + 1 from by omega]
   simpa using this
  ·rename_i h0
   rw [if_neg h0] at h
   split
   ·rename_i hx; rw [if_pos hx] at h; omega
   ·rename_i hx; simpa using hx
theorem akq {L : List Ky} {i : Nat} (hi : i < L.length) (h : (L.getD i ky0).pin = false) (hn : ∀ j, i < j -> j < L.length -> (L.getD j ky0).pin = true) : lu L = i + 1 := by
 have h1 := adV L;rcases Nat.lt_trichotomy (lu L) (i + 1) with h2 | h2 | h2
 ·have := ai6 (L := L) (j := i) (by omega) hi;rw [h] at this; cases this
 ·exact h2
 ·have := ahD (L := L) (by omega);rw [hn (lu L - 1) (by omega) (by omega)] at this; cases this
theorem agc {L : List Ky} (hn : ∀ j, j < L.length -> (L.getD j ky0).pin = true) : lu L = 0 := by
 have h1 := adV L;rcases Nat.eq_zero_or_pos (lu L) with h2 | h2
 ·exact h2
 ·have := ahD h2;rw [hn (lu L - 1) (by omega)] at this; cases this
def wE (room : Nat) (k : Int) (L : List Ky) : List Ky := if plc k L < L.length then L.getD (plc k L) ky0 :: wo L (plc k L) else if L.length < room then ⟨k, false⟩ :: L else if lu L = 0 then L else ⟨k, false⟩ :: wo L (lu L - 1)
def uQ (room : Nat) (k : Int) (L : List Ky) : Int := if plc k L < L.length then 0 else if L.length < room then 0 else if lu L = 0 then 0 else (L.getD (lu L - 1) ky0).n
def xZ (room : Nat) (k : Int) (L : List Ky) : Bool := if plc k L < L.length then false else if L.length < room then false else if lu L = 0 then false else true
def xd (room : Nat) (k : Int) (L : List Ky) : Int := if plc k L < L.length then 0 else if L.length < room then 0 else if lu L = 0 then 10 else 0
def nK (k : Int) (is : Bool) (L : List Ky) : List Ky := if plc k L < L.length then L.set (plc k L) ⟨k, is⟩ else L
def yp (k : Int) (L : List Ky) : List Ky := if plc k L < L.length then wo L (plc k L) else L
def ou (k : Int) (L : List Ky) : Int := if plc k L < L.length then 0 else 7
def qW (k : Int) (L : List Ky) : Bool := decide (plc k L < L.length) && (L.getD (plc k L) ky0).pin
def fM (L : List Ky) : List Int := L.map Ky.n
structure LOk (room : Nat) (L : List Ky) : Prop where
 one : (fM L).Nodup
 len : L.length <= room
 wf : ∀ x ∈ L, (Lit.int .i64 x.n).wf = true
theorem cO {α : Type} {L : List α} {d : α} {i : Nat} (h : i < L.length) : L.getD i d ∈ L := by simp [List.getD, h]
theorem mq {k : Int} {L : List Ky} : plc k L < L.length ↔ k ∈ fM L := by
 constructor
 ·intro h;unfold fM;exact List.mem_map.2 ⟨_, cO h, pP h⟩
 ·intro h;unfold fM at h;obtain ⟨x, hx, e⟩ := List.mem_map.1 h;rcases Nat.lt_or_ge (plc k L) L.length with h2 | h2
  ·exact h2
  ·obtain ⟨j, hj, e2⟩ := List.getElem_of_mem hx;exact absurd (by simp [List.getD, hj, e2, e]) (ajj (k := k) (L := L) (j := j) (by omega))
section
variable {room : Nat} {k : Int} {L : List Ky} {is : Bool}
theorem LOk.nil : LOk room [] := ⟨by simp [fM], by simp, by simp⟩
theorem LOk.wo (h : LOk room L) (i : Nat) : LOk room (wo L i) :=
 ⟨h.one.sublist ((ke L i).map _), ar (ke L i).length_le h.len, fun x hx => h.wf x ((ke L i).subset hx)⟩
theorem LOk.lt (h : LOk room L) {i : Nat} (hi : i < L.length) : (Proofs.YtdmhelalbemlcaaGreatDoor.wo L i).length < room := by have := oU hi; have := h.len; omega
theorem aiO {L : List Ky} (h : (fM L).Nodup) {i : Nat} (hi : i < L.length) : (L.getD i ky0).n ∉ fM (wo L i) := by
 have e := oJ L ky0 hi;unfold fM wo at *;rw [e, List.map_append, List.map_cons] at h;rw [List.map_append];have := List.nodup_append.1 h;intro hm;rcases List.mem_append.1 hm with hm | hm
 ·exact this.2.2 _ hm _ (by simp) rfl
 ·exact (List.nodup_cons.1 this.2.1).1 hm
theorem LOk.cons (h : LOk room L) {x : Ky} (hn : x.n ∉ fM L) (hl : L.length < room) (hw : (Lit.int .i64 x.n).wf = true) : LOk room (x :: L) :=
 ⟨by unfold fM at *; rw [List.map_cons]; exact List.nodup_cons.2 ⟨hn, h.one⟩, by simp; omega, fun y hy => by
  rcases List.mem_cons.1 hy with rfl | hy
  ·exact hw
  ·exact h.wf y hy⟩
theorem acl {i : Nat} {x : Ky} (hx : x.n = (L.getD i ky0).n) : fM (L.set i x) = fM L := by
 unfold fM;rw [List.map_set];rcases Nat.lt_or_ge i L.length with hi | hi
 ·apply List.ext_getElem (by simp);intro j h1 h2;rw [List.getElem_set]
  split
  ·rename_i e; subst e; simp [hx, List.getD, hi]
  ·rfl
 ·rw [List.set_eq_of_length_le (by simpa using hi)]
theorem vk : fM (nK k is L) = fM L := by
 unfold nK
 split
 ·rename_i h; exact acl (pP h).symm
 ·rfl
theorem LOk.pin (h : LOk room L) : LOk room (nK k is L) := by
 refine ⟨by rw [vk]; exact h.one, by unfold nK; split <;> simp [h.len], fun x hx => ?_⟩;have : x.n ∈ fM (nK k is L) := List.mem_map.2 ⟨x, hx, rfl⟩;rw [vk] at this;obtain ⟨y, hy, e⟩ := List.mem_map.1 this;rw [<- e]; exact h.wf y hy
end
def dr {α : Type} (f : Nat -> α) (i : Nat) (x : α) : Nat -> α := fun j => if j = i then x else f j
theorem dq {α : Type} (f : Nat -> α) (i : Nat) (x : α) : dr f i x i = x := if_pos rfl
theorem cq {α : Type} (f : Nat -> α) {i j : Nat} (x : α) (h : j ≠ i) : dr f i x j = f j := if_neg h
def Seg (pv nx : Nat -> Nat) : Nat -> List Nat -> Nat -> Prop
 |a, [], b => nx a = b /\ pv b = a
 |a, x :: r, b => nx a = x /\ pv x = a /\ Seg pv nx x r b
section
variable {pv nx pv' nx' : Nat -> Nat} {a b c n : Nat} {l r : List Nat}
theorem seg_append : Seg pv nx a (l ++ c :: r) b ↔ Seg pv nx a l c /\ Seg pv nx c r b := by
 induction l generalizing a with
 |nil => simp [Seg, and_assoc]
 |cons x l ih => simp [Seg, ih, and_assoc]
theorem uO (h : Seg pv nx a l b) (hn : ∀ x, x = a \/ x ∈ l -> nx' x = nx x) (hp : ∀ x, x ∈ l \/ x = b -> pv' x = pv x) : Seg pv' nx' a l b := by
 induction l generalizing a with
 |nil => exact ⟨(hn a (.inl rfl)).trans h.1, (hp b (.inr rfl)).trans h.2⟩
 |cons x l ih =>
  refine ⟨(hn a (.inl rfl)).trans h.1, (hp x (.inl (by simp))).trans h.2.1, ih h.2.2 (fun y hy => hn y (.inr ?_)) fun y hy => hp y ?_⟩
  ·rcases hy with rfl | hy
   ·simp
   ·simp [hy]
  ·rcases hy with hy | hy
   ·exact .inl (by simp [hy])
   ·exact .inr hy
theorem sO (h : Seg pv nx a l b) : pv b ∈ a :: l := by
 induction l generalizing a with
 |nil => rw [h.2]; simp
 |cons x l ih => exact List.mem_cons_of_mem _ (ih h.2.2)
theorem sG (h : Seg pv nx a l b) : nx a ∈ l ++ [b] := by
 cases l with
 |nil => rw [h.1]; simp
 |cons x l => rw [h.1]; simp
theorem zi (h : Seg pv nx a l n) (hd : (a :: l).Nodup) (hn : ∀ x, x ∈ a :: l -> x ≠ pv n -> nx' x = nx x) (hp : ∀ x, x ∈ l -> pv' x = pv x) (h1 : nx' (pv n) = b) (h2 : pv' b = pv n) : Seg pv' nx' a l b := by
 induction l generalizing a with
 |nil => have e := h.2; rw [e] at h1 h2; exact ⟨h1, h2⟩
 |cons x l ih =>
  have hm := sO h.2.2;have hd' := List.nodup_cons.1 hd;refine ⟨(hn a (by simp) fun e => hd'.1 (by rw [e]; exact hm)).trans h.1, (hp x (by simp)).trans h.2.1, ih h.2.2 hd'.2 (fun y hy => hn y (List.mem_cons_of_mem _ hy)) fun y hy => hp y (by simp [hy])⟩
theorem abR (h : Seg pv nx n l b) (hd : (l ++ [b]).Nodup) (h1 : nx' a = nx n) (h2 : pv' (nx n) = a) (hn : ∀ x, x ∈ l -> nx' x = nx x) (hp : ∀ x, x ∈ l ++ [b] -> x ≠ nx n -> pv' x = pv x) : Seg pv' nx' a l b := by
 cases l with
 |nil => have e := h.1; rw [e] at h1 h2; exact ⟨h1, h2⟩
 |cons y l =>
  have e := h.1;rw [e] at h1 h2;rw [List.cons_append] at hd;have hd' := List.nodup_cons.1 hd;refine ⟨h1, h2, uO h.2.2 (fun x hx => hn x ?_) fun x hx => ?_⟩
  ·rcases hx with rfl | hx
   ·simp
   ·simp [hx]
  ·have hx' : x ∈ l ++ [b] := by
    rcases hx with hx | rfl
    ·simp [hx]
    ·simp
   exact hp x (by rw [List.cons_append]; exact List.mem_cons_of_mem _ hx') fun e2 => hd'.1 (by rw [e] at e2; rw [<- e2]; exact hx')
theorem aaT {E : Nat} (h : Seg pv nx E (l ++ n :: r) E) (hd : (E :: (l ++ n :: r)).Nodup) : Seg (dr pv (nx n) (pv n)) (dr nx (pv n) (nx n)) E (l ++ r) E := by
 obtain ⟨h1, h2⟩ := seg_append.1 h;have hdE := List.nodup_cons.1 hd;have hdl := List.nodup_append.1 hdE.2;have hdn := List.nodup_cons.1 hdl.2.1;have hel : (E :: l).Nodup := List.nodup_cons.2 ⟨fun e => hdE.1 (by simp [e]), hdl.1⟩;have hm := sO h1;cases r with
 |nil =>
  have e : nx n = E := h2.1;rw [List.append_nil];refine zi (n := n) h1 hel (fun x _ hx => cq _ _ hx) (fun x hx => cq _ _ ?_) (by rw [dq]; exact e) (by rw [<- e, dq]);rw [e]; rintro rfl; exact hdE.1 (by simp [hx])
 |cons y r =>
  have e : nx n = y := h2.1;refine seg_append.2 ⟨zi (n := n) h1 hel (fun x _ hx => cq _ _ hx) (fun x hx => cq _ _ ?_) (by rw [dq]; exact e) (by rw [<- e, dq]), uO h2.2.2 (fun x hx => cq _ _ ?_) fun x hx => cq _ _ ?_⟩
  ·rw [e]; rintro rfl; exact hdl.2.2 x hx x (by simp) rfl
  ·have hx' : x ∈ y :: r := by
    rcases hx with rfl | hx
    ·simp
    ·simp [hx]
   intro e2;rw [<- e2] at hm;rcases List.mem_cons.1 hm with rfl | hm
   ·exact hdE.1 (by simp [hx'])
   ·exact hdl.2.2 x hm x (List.mem_cons_of_mem _ hx') rfl
  ·rw [e];have hyr := List.nodup_cons.1 hdn.2;rcases hx with hx | rfl
   ·rintro rfl; exact hyr.1 hx
   ·rintro rfl; exact hdE.1 (by simp)
theorem qp {E : Nat} (h : Seg pv nx E l E) (hd : (E :: l).Nodup) (hn : n ∉ E :: l) : Seg (dr (dr pv n E) (nx E) n) (dr (dr nx n (nx E)) E n) E (n :: l) E := by
 have hm := sG h;have hdE := List.nodup_cons.1 hd;have hmE : nx E ∈ E :: l := by
  rcases List.mem_append.1 hm with e | e
  ·exact List.mem_cons_of_mem _ e
  ·simp at e; rw [e]; simp
 have hne : n ≠ nx E := fun e => hn (by rw [e]; exact hmE)
 have hnE : n ≠ E := fun e => hn (by rw [e]; simp)
 refine ⟨dq _ _ _, by rw [cq _ _ hne, dq], abR h ?_ (by rw [cq _ _ hnE, dq]) (dq _ _ _) (fun x hx => ?_) fun x hx hx2 => ?_⟩
 ·refine List.nodup_append.2 ⟨hdE.2, by simp, fun x hx y hy e => ?_⟩;simp at hy; subst hy e; exact hdE.1 hx
 ·rw [cq _ _ (fun e => hdE.1 (by rw [<- e]; exact hx)), cq _ _ (fun e => hn (by rw [<- e]; exact List.mem_cons_of_mem _ hx))]
 ·rw [cq _ _ hx2, cq _ _ fun e => hn ?_];rw [<- e];rcases List.mem_append.1 hx with e | e
  ·exact List.mem_cons_of_mem _ e
  ·simp at e; rw [e]; simp
theorem af3 (h : Seg pv nx a l b) (i : Nat) (hi : i <= l.length) : nx ((a :: l).getD i 0) = (l ++ [b]).getD i 0 := by
 induction l generalizing a i with
 |nil =>
  obtain rfl : i = 0 := by simpa using hi
  simpa using h.1
 |cons x l ih =>
  cases i with
  |zero => simpa using h.1
  |succ i => simpa using ih h.2.2 i (by simpa using hi)
theorem afk (h : Seg pv nx a l b) (i : Nat) (hi : i <= l.length) : pv ((l ++ [b]).getD i 0) = (a :: l).getD i 0 := by
 induction l generalizing a i with
 |nil =>
  obtain rfl : i = 0 := by simpa using hi
  simpa using h.2
 |cons x l ih =>
  cases i with
  |zero => simpa using h.2.1
  |succ i => simpa using ih h.2.2 i (by simpa using hi)
end
def om (b : Nat) : List Nat -> Nat
 |[] => 0
 |x :: r => if x = b then 0 else om b r + 1
theorem lA {l : List Nat} (hd : l.Nodup) {i : Nat} (h : i < l.length) : om (l.getD i 0) l = i := by
 induction l generalizing i with
 |nil => simp at h
 |cons x r ih =>
  have hd' := List.nodup_cons.1 hd;unfold om;cases i with
  |zero => simp
  |succ i =>
   have hi : i < r.length := by simpa using h
   have hm : r.getD i 0 ∈ r := cO hi;rw [show (x :: r).getD (i + 1) 0 = r.getD i 0 from rfl, if_neg (fun e => hd'.1 (by rw [e]; exact hm)), ih hd'.2 hi]
def ahI : Value -> Nat
 |.pointer (some a) => a.block
 |_ => 0
theorem acR {bs : List Nat} {i b : Nat} (hi : i < bs.length) (hb : b ∈ bs) (hn : b ≠ bs.getD i 0) : b ∈ wo bs i := by
 rw [oJ bs 0 hi] at hb;unfold wo;rcases List.mem_append.1 hb with h | h
 ·exact List.mem_append.2 (.inl h)
 ·rcases List.mem_cons.1 h with h | h
  ·exact absurd h hn
  ·exact List.mem_append.2 (.inr h)
theorem yG {bs : List Nat} (hd : bs.Nodup) {i : Nat} (hi : i < bs.length) : bs.getD i 0 ∉ wo bs i := by
 have e := oJ bs 0 hi;rw [e] at hd;have h := List.nodup_append.1 hd;unfold wo;intro hm;rcases List.mem_append.1 hm with hm | hm
 ·exact h.2.2 _ hm _ (by simp) rfl
 ·exact (List.nodup_cons.1 h.2.1).1 hm
theorem adc {pv nx : Nat -> Nat} {E i : Nat} {bs : List Nat} (h : Seg pv nx E bs E) (hd : (E :: bs).Nodup) (hi : i < bs.length) : Seg (dr pv (nx (bs.getD i 0)) (pv (bs.getD i 0))) (dr nx (pv (bs.getD i 0)) (nx (bs.getD i 0))) E (wo bs i) E := by
 have e := oJ bs 0 hi;have h' : Seg pv nx E (bs.take i ++ bs.getD i 0 :: bs.drop (i + 1)) E := by rw [<- e]; exact h
 have hd' : (E :: (bs.take i ++ bs.getD i 0 :: bs.drop (i + 1))).Nodup := by rw [<- e]; exact hd
 exact aaT h' hd'
theorem aaK {α : Type} (f : Nat -> α) (i : Nat) : dr f i (f i) = f := by
 funext j
 unfold dr
 split
 ·rename_i e; rw [e]
 ·rfl
structure ShS where
 N : Nat
 T : Nat
 room : Nat
 o : List Nat
 ln : Nat -> Option LnS
structure dP where
 n : Int
 m : Int
 b : Blk
section
def ShS.str (s : ShS) (n : Int) : Bool := decide (0 <= n /\ n < (s.T : Int))
def ShS.plc (s : ShS) (n m : Int) : Bool := decide (0 <= n /\ n < (s.T : Int) /\ 0 <= m /\ m < (s.N : Int))
def ShS.bZ (s : ShS) (n : Nat) : LnS := (s.ln n).getD (dC s.N)
def kv (x : LnS) : Bool := !decide (lnD x = [])
def ShS.dty (s : ShS) (n : Nat) : Bool := match s.ln n with
 |none => false
 |some x => kv x
def ShS.dk (s : ShS) (n : Nat) (x : Option LnS) : ShS := { s with ln := fun j => if j = n then x else s.ln j }
def dL (o : List Nat) (n : Nat) : List Nat := o.filter fun j => !decide (j = n)
def luD (d : Nat -> Bool) : List Nat -> Nat
 |[] => 0
 |x :: r => if 0 < luD d r then luD d r + 1 else if d x = true then 0 else 1
def ShS.goes (s : ShS) (n : Nat) : Bool := (s.ln n).isNone && decide (s.room <= s.o.length)
def ShS.gone (s : ShS) : Nat := s.o.getD (luD s.dty s.o - 1) 0
def ShS.eH (s : ShS) (n : Nat) : Bool := !(s.goes n && decide (luD s.dty s.o = 0))
def ShS.cut (s : ShS) (n : Nat) : ShS := if s.goes n = true then { s.dk s.gone none with o := dL s.o s.gone } else s
def ShS.tch (s : ShS) (n : Nat) : ShS := if s.eH n = true then { (s.cut n).dk n (some (s.bZ n)) with o := n :: dL (s.cut n).o n } else s
def ShS.knw (s : ShS) (n : Nat) (m : Int) : Bool := (lnG (s.bZ n) m).kn
def fC (s : ShS) (h : HuS) (n m : Int) : Int × Blk × ShS × HuS :=
 if s.plc n m = true then
  (if s.knw n.toNat m = true then (0, (lnG (s.bZ n.toNat) m).b, s.tch n.toNat, h)
   else ((ik h n m).1, (ik h n m).2.1, if (ik h n m).1 = 0 /\ s.eH n.toNat = true then (s.tch n.toNat).dk n.toNat (some (fA ((s.tch n.toNat).bZ n.toNat) m (ik h n m).2.1)) else s, (ik h n m).2.2))
 else (2, aF, s, h)
def vK (s : ShS) (h : HuS) (n m : Int) : Prop := s.plc n m = true -> s.knw n.toNat m = false -> aaW h n m
def lO (d : Nat -> Bool) : Nat -> List Int
 |0 => []
 |k + 1 => lO d k ++ (if d k = true then [(k : Int)] else [])
def ShS.cP (s : ShS) : List Int := lO s.dty s.T
def fm : List Int -> List Int -> List Int
 |l, [] => l
 |l, x :: r => fm (if l.contains x then l else l ++ [x]) r
def ShS.fits (s : ShS) (l : List Int) : Bool := decide ((fm s.cP l).length <= s.room)
def gC (s : ShS) (q : Nat) (c : List dP) : Int :=
 if c.all (fun x => s.plc x.n x.m) = true then (if q = 0 then 2 else if s.fits (c.map dP.n) = true then 0 else 10) else 2
def dH (q : Nat) (s : ShS) (x : dP) : ShS := (s.tch x.n.toNat).dk x.n.toNat (some (eG ((s.tch x.n.toNat).bZ x.n.toNat) x.m x.b q))
def qV (N : Nat) (c : List dP) (n : Int) : Bool := c.any fun x => decide (x.n = n) && decide (x.m = ((N - 1 - n.toNat % N : Nat) : Int))
def cU (c : List dP) (s : ShS) (x : dP) : ShS := if qV s.N c x.n = true then s else s.dk x.n.toNat (some (gw (s.bZ x.n.toNat) ((s.N - 1 - x.n.toNat % s.N : Nat) : Int)))
def ji (s : ShS) (q : Nat) (c : List dP) : ShS := if gC s q c = 0 then c.foldl (cU c) (c.foldl (dH q) s) else s
def ra (x : LnS) : Nat -> List Bool
 |0 => []
 |k + 1 => ra x k ++ [(dj x k).kn]
def pF (s : ShS) (n : Int) : List Bool := if s.str n = true then ra (s.bZ n.toNat) s.N else []
def afc (n : Int) (x : LnS) : Nat -> List dP
 |0 => []
 |k + 1 => afc n x k ++ (if (dj x k).dt = true then [⟨n, (k : Int), (dj x k).b⟩] else [])
def oY (s : ShS) (n : Int) : List dP := if s.str n = true then afc n (s.bZ n.toNat) s.N else []
def shE (s : ShS) (n : Int) : Int := if s.str n = true then 0 else 2
def i8 (s : ShS) (n : Int) : ShS := if s.str n = true /\ (s.ln n.toNat).isSome = true then s.dk n.toNat (some (gM (s.bZ n.toNat))) else s
def lv (s : ShS) (n : Int) : ShS := if s.str n = true then { s.dk n.toNat none with o := dL s.o n.toNat } else s
def acQ (s : ShS) : Nat -> Nat
 |0 => 0
 |k + 1 => if s.dty k = true then oe (acQ s k) (s.bZ k).f else acQ s k
def ShS.first (s : ShS) : Nat := acQ s s.T
def ShS.strs (s : ShS) : List Int := s.o.map fun (n : Nat) => (n : Int)
def fe (N T room : Nat) : ShS := ⟨N, T, room, [], fun _ => none⟩
structure co (s : ShS) : Prop where
 n3 : 3 <= s.N
 n16 : s.N <= 16
 t1 : 1 <= s.T
 t64 : s.T <= 64
 r1 : 1 <= s.room
 r64 : s.room <= 64
 nd : s.o.Nodup
 mem : ∀ n, n ∈ s.o ↔ (s.ln n).isSome = true
 lt : ∀ n ∈ s.o, n < s.T
 len : s.o.length <= s.room
 ok : ∀ n x, s.ln n = some x -> dQ x /\ x.l.length = s.N
end
section
variable {o : List Nat} {n j k : Nat} {d : Nat -> Bool}
theorem gY : j ∈ dL o n ↔ j ∈ o /\ j ≠ n := by unfold dL; simp
theorem zl (h : o.Nodup) : (dL o n).Nodup := h.filter _
theorem jZ (h : n ∉ o) : dL o n = o := by
 unfold dL;rw [List.filter_eq_self];intro x hx;have : x ≠ n := fun e => h (by rw [<- e]; exact hx)
 simp [this]
theorem oQ : (dL o n).length <= o.length := List.length_filter_le _ _
theorem zV (h : n ∈ o) : (dL o n).length + 1 <= o.length := by
 have := List.length_filter_lt_length_iff_exists (p := fun j => !decide (j = n)) (l := o);have h2 : (dL o n).length < o.length := this.2 ⟨n, h, by simp⟩;omega
theorem yt (o : List Nat) : luD d o <= o.length := by
 induction o with
 |nil => exact aj
 |cons x r ih => unfold luD; split <;> (try split) <;> simp <;> omega
theorem afS {i : Nat} (h : luD d o <= i) (hi : i < o.length) : d (o.getD i 0) = true := by
 induction o generalizing i with
 |nil => simp at hi
 |cons x r ih =>
  unfold luD at h
  split at h
  ·cases i with
   |zero => omega
   |succ i => simpa using ih (by omega) (by simpa using hi)
  ·split at h
   ·rename_i h0 hx
    cases i with
    |zero => simpa using hx
    |succ i => simpa using ih (by omega) (by simpa using hi)
   ·cases i with
    |zero => omega
    |succ i => simpa using ih (by omega) (by simpa using hi)
theorem aig (h : 0 < luD d o) : d (o.getD (luD d o - 1) 0) = false := by
 induction o with
 |nil => simp [luD] at h
 |cons x r ih =>
  unfold luD at h ⊢
  split
  ·rename_i h0
   have := ih h0;rw [show luD d r + 1 - 1 = (luD d r - 1) + 1 from by omega]
   simpa using this
  ·rename_i h0
   rw [if_neg h0] at h
   split
   ·rename_i hx; rw [if_pos hx] at h; omega
   ·rename_i hx; simpa using hx
theorem acg : ∀ (L : List Ky) (o : List Nat), L.map Ky.n = o.map (fun (n : Nat) => (n : Int)) -> (∀ k ∈ L, ∀ n : Nat, k.n = (n : Int) -> k.pin = d n) -> lu L = luD d o
 |[], [], _, _ => rfl
 |[], _ :: _, e, _ => by simp at e
 |_ :: _, [], e, _ => by simp at e
 |x :: r, n :: o, e, h => by
  simp only [List.map_cons, List.cons.injEq] at e;have ih := acg r o e.2 fun k hk => h k (List.mem_cons_of_mem _ hk)
  rw [lu, luD, ih, h x (List.mem_cons_self ..) n e.1]
end
section
variable {s : ShS} {n j : Nat}
theorem co.akX (h : co s) {i : Nat} (hi : i < s.o.length) : s.o.getD i 0 ∈ s.o := by
 rw [List.getD, List.getElem?_eq_getElem hi]; exact List.getElem_mem hi
theorem cw (s : ShS) (n j : Nat) (x : Option LnS) : (s.dk n x).ln j = if j = n then x else s.ln j := rfl
theorem dp {x : LnS} (h : s.ln n = some x) : s.bZ n = x := by unfold ShS.bZ; rw [h]; rfl
theorem iv (h : s.ln n = none) : s.bZ n = dC s.N := by unfold ShS.bZ; rw [h]; rfl
theorem co.line (h : co s) (n : Nat) : dQ (s.bZ n) /\ (s.bZ n).l.length = s.N := by
 cases e : s.ln n with
 |none => rw [iv e]; exact ⟨dQ.new (by have := h.n3; omega) h.n16, by simp [dC]⟩
 |some x => rw [dp e]; exact h.ok n x e
theorem co.gone (h : co s) (hl : 0 < luD s.dty s.o) : s.gone ∈ s.o /\ s.dty s.gone = false := by
 have := yt (d := s.dty) s.o;exact ⟨h.akX (by omega), aig hl⟩
theorem co.dk (h : co s) {x : LnS} (hn : n ∈ s.o) (hx : dQ x) (hl : x.l.length = s.N) : co (s.dk n (some x)) := by
 refine ⟨h.n3, h.n16, h.t1, h.t64, h.r1, h.r64, h.nd, fun j => ?_, h.lt, h.len, fun j y hj => ?_⟩
 ·rw [cw];by_cases e : j = n
  ·rw [if_pos e]; subst e; exact ⟨fun _ => rfl, fun _ => hn⟩
  ·rw [if_neg e]; exact h.mem j
 ·rw [cw] at hj;by_cases e : j = n
  ·rw [if_pos e] at hj; injection hj with hj; subst hj; exact ⟨hx, hl⟩
  ·rw [if_neg e] at hj; exact h.ok j y hj
theorem co.drop (h : co s) (n : Nat) : co { s.dk n none with o := dL s.o n } := by
 refine ⟨h.n3, h.n16, h.t1, h.t64, h.r1, h.r64, zl h.nd, fun j => ?_, fun j hj => h.lt j (gY.1 hj).1, ar oQ h.len, fun j y hj => ?_⟩
 ·show j ∈ dL s.o n ↔ ((s.dk n none).ln j).isSome = true
  rw [gY, cw];by_cases e : j = n
  ·rw [if_pos e]; exact ⟨fun h' => absurd e h'.2, fun h' => by cases h'⟩
  ·rw [if_neg e, <- h.mem j]; exact ⟨fun h' => h'.1, fun h' => ⟨h', e⟩⟩
 ·replace hj : (s.dk n none).ln j = some y := hj;rw [cw] at hj;by_cases e : j = n
  ·rw [if_pos e] at hj; cases hj
  ·rw [if_neg e] at hj; exact h.ok j y hj
theorem co.cut (h : co s) (n : Nat) : co (s.cut n) := by
 unfold ShS.cut
 split
 ·exact h.drop _
 ·exact h
theorem ShS.ahQ (s : ShS) (n : Nat) : (s.cut n).N = s.N /\ (s.cut n).T = s.T /\ (s.cut n).room = s.room := by unfold ShS.cut; split <;> exact ⟨rfl, rfl, rfl⟩
theorem ShS.mO (s : ShS) (n : Nat) : (s.tch n).N = s.N /\ (s.tch n).T = s.T /\ (s.tch n).room = s.room := by
 unfold ShS.tch
 split
 ·exact s.ahQ n
 ·exact ⟨rfl, rfl, rfl⟩
theorem co.tch (h : co s) (hn : n < s.T) : co (s.tch n) := by
 unfold ShS.tch
 split
 ·rename_i ht
  have hc := h.cut n;obtain ⟨e1, e2, e3⟩ := s.ahQ n;refine ⟨hc.n3, hc.n16, hc.t1, hc.t64, hc.r1, hc.r64, ?_, fun j => ?_, fun j hj => ?_, ?_, fun j y hj => ?_⟩
  ·exact List.nodup_cons.2 ⟨fun e => (gY.1 e).2 rfl, zl hc.nd⟩
  ·show j ∈ n :: dL (s.cut n).o n ↔ (((s.cut n).dk n (some (s.bZ n))).ln j).isSome = true
   rw [cw, List.mem_cons, gY];by_cases e : j = n
   ·rw [if_pos e]; exact ⟨fun _ => rfl, fun _ => .inl e⟩
   ·rw [if_neg e, <- hc.mem j]; exact ⟨fun h' => by rcases h' with h' | h'; exact absurd h' e; exact h'.1, fun h' => .inr ⟨h', e⟩⟩
  ·rcases List.mem_cons.1 hj with e | e
   ·subst e; show j < (s.cut j).T; rw [e2]; exact hn
   ·exact hc.lt j (gY.1 e).1
  ·show (n :: dL (s.cut n).o n).length <= (s.cut n).room
   rw [List.length_cons, e3];by_cases hg : s.goes n = true
   ·have hl : 0 < luD s.dty s.o := by
     unfold ShS.eH at ht;rw [hg] at ht;simp at ht;omega
    have hm := (h.gone hl).1;have ec : (s.cut n).o = dL s.o s.gone := by unfold ShS.cut; rw [if_pos hg]
    rw [ec];have := zV hm;have := oQ (o := dL s.o s.gone) (n := n);have := h.len;omega
   ·have ec : s.cut n = s := by unfold ShS.cut; rw [if_neg hg]
    rw [ec];unfold ShS.goes at hg;have hl := h.len;cases e : s.ln n with
    |none =>
     rw [e] at hg;simp at hg;have := oQ (o := s.o) (n := n);omega
    |some x =>
     have hm : n ∈ s.o := (h.mem n).2 (by rw [e]; rfl);have := zV hm;omega
  ·replace hj : ((s.cut n).dk n (some (s.bZ n))).ln j = some y := hj;rw [cw] at hj
   show dQ y /\ y.l.length = (s.cut n).N
   by_cases e : j = n
   ·rw [if_pos e] at hj; injection hj with hj; subst hj; rw [e1]; exact h.line n
   ·rw [if_neg e] at hj; exact hc.ok j y hj
 ·exact h
theorem co.new {N T room : Nat} (h1 : 3 <= N) (h2 : N <= 16) (h3 : 1 <= T) (h4 : T <= 64) (h5 : 1 <= room) (h6 : room <= 64) : co (fe N T room) :=
 ⟨h1, h2, h3, h4, h5, h6, List.nodup_nil, fun n => ⟨fun h => (by cases h), fun h => (by cases h)⟩, fun n h => (by cases h), Nat.zero_le _, fun n x h => (by cases h)⟩
end
def er (s m : Int) : List Value := [.int .i64 s, .int .i64 m]
def plV (s m : Int) : Value := .agg (er s m).toArray
def eI (c : Cl) : List Value := .int .i64 c.s :: .int .i64 c.m :: cel c.b
def clV (c : Cl) : Value := .agg (eI c).toArray
theorem fU (c : Cl) : (eI c).length = 66 := by simp [eI, aK]
theorem um (c : Cl) : ∀ v ∈ eI c, v.oneCell' = true := by
 intro v hv;simp only [eI, List.mem_cons] at hv;rcases hv with rfl | rfl | hv
 ·rfl
 ·rfl
 ·exact mt c.b v hv
theorem aeK (s m : Int) : ∀ v ∈ er s m, v.oneCell' = true := by
 intro v hv;simp only [er, List.mem_cons, List.not_mem_nil, or_false] at hv;rcases hv with rfl | rfl <;> rfl
theorem ahL : (prog.info? 56).map (·.size) = some 66 := by kernel_rfl
theorem ahN : (prog.info? 43).map (·.size) = some 2 := by kernel_rfl
theorem ake : (prog.info? 56).map (fun i => (i.zero, i.size, i.bytes)) = some (some (clV kt), 66, 80) := by kernel_rfl
theorem pZ : (prog.info? 56).map (fun i => i.zero) = some (some (.agg (eI kt).toArray)) := by kernel_rfl
theorem yf : (prog.info? 43).map (fun i => i.zero) = some (some (.agg (er 0 0).toArray)) := by kernel_rfl
def cd : Elt Cl where
 s := 47
 t := 56
 n := 66
 by_ := 80
 cel := eI
 d := kt
 z := clV kt
 pos := by omega
 small := by omega
 len := fU
 one := um
 und := underlying47
 info := ake
 zc := by show (Value.cells (.agg _)).size = 66; simp [Value.cells, fU]
theorem RdE.cl {w : World} {B n k : Nat} {A : Option Addr} {l : List Cl} (h : RdE cd w B A n l) (hk : k < n) : ∃ b off, A = some ⟨b, off, none⟩ /\ b < B /\ w.rangeAt b (off + k * 66) (eI (l.getD k kt)) := h.2 k hk
section
variable {w : World} {b off : Nat} {c : Cl}
theorem kO (h : w.rangeAt b off (eI c)) : w.rangeAt b off (er c.s c.m) := by
 have := fx (ds := []) (es := er c.s c.m) (fs := cel c.b) (k := 0) h rfl rfl;rwa [Nat.add_zero] at this
theorem aiP (h : w.rangeAt b off (eI c)) : w.rangeAt b (off + 2) (cel c.b) := fx (ds := er c.s c.m) (es := cel c.b) (fs := []) (k := 2) h (by simp [eI, er]) rfl
theorem eU {s m : Int} (h : w.rangeAt b off (er s m)) : w.cell? ⟨b, off, none⟩ = some (.int .i64 s) /\ w.cell? ⟨b, off + 1, none⟩ = some (.int .i64 m) := by
 have h0 := h 0 _ rfl;rw [Nat.add_zero] at h0;exact ⟨h0, h 1 _ rfl⟩
end
section
variable {ρ : Operand -> Value} {o : Oper} {x y : Operand} {w : World} {b off : Nat} {c d : Cl} {s m s' m' : Int} {t : TypeId}
theorem iN (ho : o.op = .load 56 x) (hx : ρ x = .pointer (some ⟨b, off, none⟩)) (hc : w.rangeAt b off (eI c)) : (execOp ρ o).run prog w = .ok (.value (clV c)) w :=
 bN underlying56 rfl (by rw [fU]; exact ahL) ho hx hc
theorem fP (ho : o.op = .load 43 x) (hx : ρ x = .pointer (some ⟨b, off, none⟩)) (hc : w.rangeAt b off (er s m)) : (execOp ρ o).run prog w = .ok (.value (plV s m)) w :=
 bN underlying43 rfl ahN ho hx hc
theorem aaV (ho : o.op = .box 56 x) (hx : ρ x = clV c) : (execOp ρ o).run prog w = .ok (.value (.pointer (some ⟨w.heap.size, 0, none⟩))) (w.alloc (.cells (eI c).toArray 56)) := ct ho hx
theorem mm (ho : o.op = .box 43 x) (hx : ρ x = plV s m) : (execOp ρ o).run prog w = .ok (.value (.pointer (some ⟨w.heap.size, 0, none⟩))) (w.alloc (.cells (er s m).toArray 43)) := ct ho hx
theorem i4 (ho : o.op = .alloc 56) : (execOp ρ o).run prog w = .ok (.value (.pointer (some ⟨w.heap.size, 0, none⟩))) (w.alloc (.cells (eI kt).toArray 56)) := dR pZ ho
theorem sQ (ho : o.op = .alloc 43) : (execOp ρ o).run prog w = .ok (.value (.pointer (some ⟨w.heap.size, 0, none⟩))) (w.alloc (.cells (er 0 0).toArray 43)) := dR yf ho
theorem ka (ho : o.op = .store 56 x y) (hx : ρ x = .pointer (some ⟨w.heap.size, 0, none⟩)) (hy : ρ y = clV c) : (execOp ρ o).run prog (w.alloc (.cells (eI d).toArray 56)) = .ok .skip (w.alloc (.cells (eI c).toArray 56)) :=
 gF (by rw [fU]; exact ahL) (by rw [fU, fU]) (um c) ho hx hy
theorem wh (ho : o.op = .store 43 x y) (hx : ρ x = .pointer (some ⟨w.heap.size, 0, none⟩)) (hy : ρ y = plV s m) : (execOp ρ o).run prog (w.alloc (.cells (er s' m').toArray 43)) = .ok .skip (w.alloc (.cells (er s m).toArray 43)) :=
 gF ahN rfl (aeK s m) ho hx hy
theorem uc : (Instr.fieldAt 56 (.pointer (some ⟨b, off, none⟩)) 0).run prog w = .ok (.pointer (some ⟨b, off, none⟩)) w := by kernel_rfl
theorem alk : (Instr.fieldAt 56 (.pointer (some ⟨b, off, none⟩)) 1).run prog w = .ok (.pointer (some ⟨b, off + 2, none⟩)) w := by kernel_rfl
theorem ku : (Instr.fieldAt 43 (.pointer (some ⟨b, off, none⟩)) 0).run prog w = .ok (.pointer (some ⟨b, off, none⟩)) w := by kernel_rfl
theorem zD : (Instr.fieldAt 43 (.pointer (some ⟨b, off, none⟩)) 1).run prog w = .ok (.pointer (some ⟨b, off + 1, none⟩)) w := by kernel_rfl
end
section
variable {ρ : Operand -> Value} {o : Oper} {x y : Operand} {w : World} {s m : Int} {b : Blk}
theorem abm (s m : Int) : (Instr.build 43 #[(0, .int .i64 s), (1, .int .i64 m)]).run prog w = .ok (plV s m) w := by kernel_rfl
theorem yq (ho : o.op = .build 43 #[(0, x), (1, y)]) (hx : ρ x = .int .i64 s) (hy : ρ y = .int .i64 m) : (execOp ρ o).run prog w = .ok (.value (plV s m)) w := by
 have h := abm (w := w) s m;unfold execOp;simp only [ho, List.map_toArray, List.map_cons, List.map_nil, hx, hy, Sem.run_bind, h, Result.andThen_ok, Sem.run_pure]
theorem ab2 (s m : Int) (b : Blk) : (Instr.build 56 #[(0, plV s m), (1, blk b)]).run prog w = .ok (clV ⟨s, m, b⟩) w := by
 have hz := gB pZ w;have h1 := dm (place := fun i => (#[(0, 2), (2, 64)] : Array (Nat × Nat))[i]?) (i := 0) (off := 0) (size := 2) (v := plV s m) (pre := []) (mid := er 0 0) (post := cel aF) (vs := er s m) (rest := [(1, blk b)]) rfl rfl rfl rfl rfl;have h2 := dm (place := fun i => (#[(0, 2), (2, 64)] : Array (Nat × Nat))[i]?) (i := 1) (off := 2) (size := 64) (v := blk b) (pre := er s m) (mid := cel aF) (post := []) (vs := cel b) (rest := []) rfl rfl (aK b) rfl (aK aF);simp only [List.nil_append, List.append_nil] at h1 h2;have h3 := h1.trans h2;have hz' : (zeroValue 56).run prog w = .ok (.agg (er 0 0 ++ cel aF).toArray) w := hz;have hc : (Value.agg (er 0 0 ++ cel aF).toArray).cells = (er 0 0 ++ cel aF).toArray := rfl;simp only [Instr.build, Sem.run_bind, hz', run_underlying underlying56, Result.andThen_ok, hc];refine Eq.trans (congrArg (fun r => Result.andThen r _) (?h : _ = Result.ok #[(0, 2), (2, 64)] w)) ?_
 case h => kernel_rfl
 simp only [Result.andThen_ok];have h4 : Instr.fill (fun i => (#[(0, 2), (2, 64)] : Array (Nat × Nat))[i]?) (er s m ++ cel b).toArray [] = some (er s m ++ cel b).toArray := by rw [Instr.fill]
 rw [h3.trans h4]
 rfl
theorem rY (ho : o.op = .build 56 #[(0, x), (1, y)]) (hx : ρ x = plV s m) (hy : ρ y = blk b) : (execOp ρ o).run prog w = .ok (.value (clV ⟨s, m, b⟩)) w := by
 have h := ab2 (w := w) s m b;unfold execOp;simp only [ho, List.map_toArray, List.map_cons, List.map_nil, hx, hy, Sem.run_bind, h, Result.andThen_ok, Sem.run_pure]
end
theorem uz (w : World) (c : Cl) : RdE cd (w.alloc (.cells (eI c).toArray 56)) (w.heap.size + 1) (some ⟨w.heap.size, 0, none⟩) 1 [c] :=
 eB w (eI c).toArray 56 (by simp [cH]; rfl)
def cG (p : dP) : Cl := ⟨p.n, p.m, p.b⟩
def gx (N T : Nat) (r : Int) : Ros := ⟨(N : Int), (T : Int), r, Vector.replicate 16 0, 0, false⟩
theorem aal {α : Type} [BEq α] [LawfulBEq α] {a : α} {b : List α} (h : a ∈ b) : (b.erase a).length + 1 = b.length := by
 have := List.length_erase_of_mem h;have h2 : 0 < b.length := List.length_pos_of_mem h;omega
theorem rM {α : Type} [BEq α] [LawfulBEq α] : ∀ (a b : List α), a.Nodup -> (∀ x ∈ a, x ∈ b) -> a.length <= b.length
 |[], b, _, _ => Nat.zero_le _
 |x :: a, b, h, hs => by
  have hx := hs x (List.mem_cons_self ..);obtain ⟨h1, h2⟩ := List.nodup_cons.1 h;have := rM a (b.erase x) h2 fun y hy => (List.mem_erase_of_ne (fun e => h1 (by rw [<- e]; exact hy))).2 (hs y (List.mem_cons_of_mem _ hy))
  have e := aal hx;rw [List.length_cons];omega
theorem kF {y : Int} : ∀ (r l : List Int), y ∈ fm l r ↔ y ∈ l \/ y ∈ r
 |[], l => by simp [fm]
 |x :: r, l => by
  rw [fm, kF r];by_cases h : l.contains x = true
  ·rw [if_pos h];have hm : x ∈ l := by simpa using h
   constructor
   ·rintro (h1 | h1)
    ·exact .inl h1
    ·exact .inr (List.mem_cons_of_mem _ h1)
   ·rintro (h1 | h1)
    ·exact .inl h1
    ·rcases List.mem_cons.1 h1 with e | e
     ·subst e; exact .inl hm
     ·exact .inr e
  ·rw [if_neg h];rw [List.mem_append, List.mem_singleton, List.mem_cons]
   constructor
   ·rintro ((h1 | h1) | h1)
    ·exact .inl h1
    ·exact .inr (.inl h1)
    ·exact .inr (.inr h1)
   ·rintro (h1 | h1 | h1)
    ·exact .inl (.inl h1)
    ·exact .inl (.inr h1)
    ·exact .inr h1
theorem jn {d : Nat -> Bool} {y : Int} : ∀ {k : Nat}, y ∈ lO d k ↔ ∃ j : Nat, y = (j : Int) /\ j < k /\ d j = true
 |0 => by simp [lO]
 |k + 1 => by
  rw [lO, List.mem_append, jn]
  constructor
  ·rintro (⟨j, e, hj, hd⟩ | h)
   ·exact ⟨j, e, by omega, hd⟩
   ·split at h
    ·rename_i hd; exact ⟨k, by simpa using h, by omega, hd⟩
    ·cases h
  ·rintro ⟨j, e, hj, hd⟩;by_cases ek : j = k
   ·subst ek; right; rw [if_pos hd, e]; exact List.mem_singleton.2 rfl
   ·exact .inl ⟨j, e, by omega, hd⟩
theorem wJ (d : Nat -> Bool) (k : Nat) : (lO d k).length <= k := by
 induction k with
 |zero => exact aj
 |succ k ih => rw [lO, List.length_append]; split <;> simp <;> omega
section
variable {s : ShS} {n j q : Nat} {x : LnS} {c : List dP} {p : dP}
theorem pD (h : s.ln n = none) : s.dty n = false := by unfold ShS.dty; rw [h]
theorem gq (h : s.ln n = some x) : s.dty n = kv x := by unfold ShS.dty; rw [h]
theorem eQ (h : s.dty n = true) : (s.ln n).isSome = true := by
 cases e : s.ln n with
 |none => rw [pD e] at h; cases h
 |some x => rfl
theorem jf {s' : ShS} (h' : s'.ln n = s.ln n) : s'.dty n = s.dty n := by unfold ShS.dty; rw [h']
theorem ahj (N : Nat) : kv (dC N) = false := by unfold kv; rw [zW]; rfl
theorem qK (s : ShS) (n : Nat) : kv (s.bZ n) = s.dty n := by
 cases e : s.ln n with
 |none => rw [iv e, pD e, ahj]
 |some x => rw [dp e, gq e]
theorem ShS.rP : (j : Int) ∈ s.cP ↔ j < s.T /\ s.dty j = true := by
 unfold ShS.cP;rw [jn]
 constructor
 ·rintro ⟨i, e, h1, h2⟩;have : i = j := by omega
  subst this;exact ⟨h1, h2⟩
 ·rintro ⟨h1, h2⟩;exact ⟨j, rfl, h1, h2⟩
theorem co.aiW (h : co s) (hd : s.dty j = true) : j < s.T := h.lt j ((h.mem j).2 (eQ hd))
theorem co.oH (h : co s) (n j : Nat) : (s.tch n).dty j = s.dty j := by
 unfold ShS.tch
 split
 ·rename_i ht
  have hc : (s.cut n).dty j = s.dty j := by
   unfold ShS.cut
   split
   ·rename_i hg
    have hl : 0 < luD s.dty s.o := by
     unfold ShS.eH at ht;rw [hg] at ht;simp at ht;omega
    show (s.dk s.gone none).dty j = _
    by_cases e : j = s.gone
    ·subst e;rw [(h.gone hl).2];exact pD (by rw [cw, if_pos rfl])
    ·exact jf (by rw [cw, if_neg e])
   ·rfl
  show ((s.cut n).dk n (some (s.bZ n))).dty j = _
  by_cases e : j = n
  ·subst e;rw [gq (x := s.bZ j) (by rw [cw, if_pos rfl]), qK]
  ·rw [jf (s := s.cut n) (by rw [cw, if_neg e]), hc]
 ·rfl
theorem co.ns (h : co s) (hd : s.dty j = true) : (s.tch n).ln j = s.ln j := by
 obtain ⟨x, hx⟩ := Option.isSome_iff_exists.1 (eQ hd);unfold ShS.tch
 split
 ·rename_i ht
  have hc : (s.cut n).ln j = s.ln j := by
   unfold ShS.cut
   split
   ·rename_i hg
    have hl : 0 < luD s.dty s.o := by
     unfold ShS.eH at ht;rw [hg] at ht;simp at ht;omega
    show (s.dk s.gone none).ln j = _
    rw [cw, if_neg (fun e => by rw [e, (h.gone hl).2] at hd; cases hd)]
   ·rfl
  show ((s.cut n).dk n (some (s.bZ n))).ln j = _
  rw [cw];by_cases e : j = n
  ·subst e;rw [if_pos rfl, dp hx, hx]
  ·rw [if_neg e, hc]
 ·rfl
theorem gW (ht : s.eH n = true) : (s.tch n).ln n = some (s.bZ n) := by
 unfold ShS.tch;rw [if_pos ht]
 show ((s.cut n).dk n (some (s.bZ n))).ln n = _
 rw [cw, if_pos rfl]
theorem zH {l : List LC} {k : Nat} (h : (l.getD k lc0).dt = true) : ∀ {n : Nat}, k < n -> (k : Int) ∈ gu l n
 |0, hk => absurd hk (by omega)
 |n + 1, hk => by
  rw [gu, List.mem_append];by_cases e : k = n
  ·subst e; right; rw [if_pos h]; exact List.mem_singleton.2 rfl
  ·exact .inl (zH h (by omega))
theorem pX {k : Nat} (h : (dj x k).dt = true) (hk : k < x.l.length) : kv x = true := by
 have := zH (l := x.l) (k := k) h hk;unfold kv lnD;cases e : gu x.l x.l.length with
 |nil => rw [e] at this; cases this
 |cons a r => rfl
theorem z7 (hm : lnR x p.m = true) (hq : q ≠ 0) : kv (eG x p.m p.b q) = true := by
 obtain ⟨k, e, hk⟩ := jR hm;rw [e, na hk hq];refine pX (k := k) ?_ (by rw [List.length_set]; exact hk);unfold dj;rw [fv _ _ _ _ _ hk, if_pos rfl]
structure tk (s0 : ShS) (U : List Int) (c : List dP) (s : ShS) : Prop where
 ok : co s
 N : s.N = s0.N
 T : s.T = s0.T
 room : s.room = s0.room
 sub : ∀ j : Nat, s.dty j = true -> (j : Int) ∈ U
 set : ∀ x ∈ c, s.dty x.n.toNat = true
theorem f7 {s : ShS} {n m : Int} (h : s.plc n m = true) : ∃ k i : Nat, n = (k : Int) /\ k < s.T /\ m = (i : Int) /\ i < s.N := by
 unfold ShS.plc at h;have := of_decide_eq_true h;exact ⟨n.toNat, m.toNat, by omega, by omega, by omega, by omega⟩
theorem ae8 {s : ShS} {n m : Int} (h : co s) (hp : s.plc n m = true) (k : Nat) : lnR (s.bZ k) m = true := by
 obtain ⟨_, i, _, _, e, hi⟩ := f7 hp;rw [e];exact gL (by rw [(h.line k).2]; exact hi)
theorem co.ai9 (h : co s) {U : List Int} (hU : U.length <= s.room) (hs : ∀ j : Nat, s.dty j = true -> (j : Int) ∈ U) (hn : (n : Int) ∈ U) : s.eH n = true := by
 unfold ShS.eH;cases hg : s.goes n with
 |false => rfl
 |true =>
  unfold ShS.goes at hg;simp only [Bool.and_eq_true, Option.isNone_iff_eq_none, decide_eq_true_eq] at hg;by_cases hl : luD s.dty s.o = 0
  ·exfalso
   have hall : ∀ j ∈ s.o, (j : Int) ∈ U := fun j hj => by
    obtain ⟨i, hi, e⟩ := List.getElem_of_mem hj;have := afS (d := s.dty) (o := s.o) (i := i) (by omega) hi;rw [List.getD, List.getElem?_eq_getElem hi, Option.getD_some, e] at this;exact hs j this
   have hno : n ∉ s.o := fun e => by
    have := (h.mem n).1 e;rw [hg.1] at this;cases this
   have hnd : ((n :: s.o).map fun (j : Nat) => (j : Int)).Nodup := by
    rw [List.nodup_iff_pairwise_ne, List.pairwise_map];exact (List.nodup_iff_pairwise_ne.1 (List.nodup_cons.2 ⟨hno, h.nd⟩)).imp fun h => by omega
   have := rM _ U hnd fun y hy => by
    obtain ⟨j, hj, e⟩ := List.mem_map.1 hy;subst e;rcases List.mem_cons.1 hj with e | e
    ·subst e; exact hn
    ·exact hall j e
   rw [List.length_map, List.length_cons] at this;omega
  ·rw [am hl]; rfl
theorem tk.start (h : co s) (r : List Int) : tk s (fm s.cP r) [] s :=
 ⟨h, rfl, rfl, rfl, fun j hj => (kF _ _).2 (.inl (ShS.rP.2 ⟨h.aiW hj, hj⟩)), fun x hx => by cases hx⟩
theorem tk.plc {s0 : ShS} {U : List Int} (h : tk s0 U c s) (n m : Int) : s.plc n m = s0.plc n m := by unfold ShS.plc; rw [h.N, h.T]
theorem tk.step {s0 : ShS} {U : List Int} (h : tk s0 U c s) (hU : U.length <= s0.room) (hp : s0.plc p.n p.m = true) (hn : p.n ∈ U) (hq : q ≠ 0) (hqb : q < 18446744073709551616) :
  s.eH p.n.toNat = true /\ co (s.tch p.n.toNat) /\ lnR ((s.tch p.n.toNat).bZ p.n.toNat) p.m = true /\ tk s0 U (c ++ [p]) (dH q s p) := by
 obtain ⟨k, i, e1, hk, e2, hi⟩ := f7 hp;have ek : p.n.toNat = k := by omega
 have hn' : ((k : Nat) : Int) ∈ U := by rw [<- e1]; exact hn
 have ht := h.ok.ai9 (n := k) (by rw [h.room]; exact hU) h.sub hn';have hto := h.ok.tch (n := k) (by rw [h.T]; exact hk);have hpt : (s.tch k).plc p.n p.m = true := by
  unfold ShS.plc;rw [(s.mO k).1, (s.mO k).2.1];have := h.plc p.n p.m;unfold ShS.plc at this;rw [this];exact hp
 have hr := ae8 hto hpt k;have hl := hto.line k;rw [ek];refine ⟨ht, hto, hr, ?_⟩;have hmem : k ∈ (s.tch k).o := (hto.mem k).2 (by rw [gW ht]; rfl);have hso : co (dH q s p) := by
  unfold dH;rw [ek];exact hto.dk hmem (dQ.set hl.1 _ _ hqb) (by rw [tF]; exact hl.2)
 have hd : ∀ j, (dH q s p).dty j = if j = k then true else s.dty j := fun j => by
  unfold dH;rw [ek];by_cases e : j = k
  ·subst e;rw [if_pos rfl, gq (x := _) (by rw [cw, if_pos rfl])];exact z7 hr hq
  ·rw [if_neg e, jf (s := s.tch k) (by rw [cw, if_neg e]), h.ok.oH]
 obtain ⟨t1, t2, t3⟩ := s.mO k;refine ⟨hso, by unfold dH; rw [ek]; exact t1.trans h.N, by unfold dH; rw [ek]; exact t2.trans h.T, by unfold dH; rw [ek]; exact t3.trans h.room, fun j hj => ?_, fun x hx => ?_⟩
 ·rw [hd j] at hj;by_cases e : j = k
  ·subst e; exact hn'
  ·rw [if_neg e] at hj; exact h.sub j hj
 ·rw [hd];rcases List.mem_append.1 hx with e | e
  ·split
   ·rfl
   ·exact h.set x e
  ·have : x = p := by simpa using e
   subst this;rw [if_pos ek]
theorem oM (h : gC s q c = 0) : (∀ x ∈ c, s.plc x.n x.m = true) /\ q ≠ 0 /\ (fm s.cP (c.map dP.n)).length <= s.room := by
 unfold gC at h
 split at h
 ·rename_i h1
  split at h
  ·cases h
  ·rename_i h2
   split at h
   ·rename_i h3
    exact ⟨fun x hx => List.all_eq_true.1 h1 x hx, h2, of_decide_eq_true h3⟩
   ·cases h
 ·cases h
theorem fh {α β : Type} (f : β -> α -> β) (b : β) {l : List α} {d : α} {i : Nat} (h : i < l.length) : (l.take (i + 1)).foldl f b = f ((l.take i).foldl f b) (l.getD i d) := by
 rw [List.take_add_one, List.getElem?_eq_getElem h, List.foldl_append, List.getD, List.getElem?_eq_getElem h]
 rfl
def dA : dP := ⟨0, 0, aF⟩
theorem iy (h : co s) (hq : gC s q c = 0) (hqb : q < 18446744073709551616) : ∀ i, i <= c.length -> tk s (fm s.cP (c.map dP.n)) (c.take i) ((c.take i).foldl (dH q) s)
 |0, _ => by rw [List.take_zero]; exact tk.start h _
 |i + 1, hi => by
  obtain ⟨h1, h2, h3⟩ := oM hq;have hi' : i < c.length := by omega
  have ih := iy h hq hqb i (by omega);have hx : c.getD i dA ∈ c := by rw [List.getD, List.getElem?_eq_getElem hi']; exact List.getElem_mem hi'
  have := (ih.step (p := c.getD i dA) h3 (h1 _ hx) ((kF _ _).2 (.inr (List.mem_map.2 ⟨_, hx, rfl⟩))) h2 hqb).2.2.2;rw [fh _ _ (d := dA) hi', show c.take (i + 1) = c.take i ++ [c.getD i dA] from by rw [List.take_add_one, List.getD, List.getElem?_eq_getElem hi']; rfl];exact this
structure afX (s0 s : ShS) : Prop where
 ok : co s
 N : s.N = s0.N
 T : s.T = s0.T
 room : s.room = s0.room
 o : s.o = s0.o
 some : ∀ n, (s.ln n).isSome = (s0.ln n).isSome
theorem afX.step {s0 : ShS} (h : afX s0 s) {cs : List dP} (hp : (s0.ln p.n.toNat).isSome = true) : afX s0 (cU cs s p) := by
 unfold cU
 split
 ·exact h
 ·have hl := h.ok.line p.n.toNat
  have hm : p.n.toNat ∈ s.o := (h.ok.mem _).2 (by rw [h.some]; exact hp);refine ⟨h.ok.dk hm (dQ.frg hl.1 _) (by rw [agj]; exact hl.2), h.N, h.T, h.room, h.o, fun n => ?_⟩;rw [cw];by_cases e : n = p.n.toNat
  ·rw [if_pos e, e, hp]; rfl
  ·rw [if_neg e, h.some]
theorem js {s0 : ShS} (h : co s0) (cs : List dP) (hp : ∀ x ∈ c, (s0.ln x.n.toNat).isSome = true) : ∀ i, i <= c.length -> afX s0 ((c.take i).foldl (cU cs) s0)
 |0, _ => by rw [List.take_zero]; exact ⟨h, rfl, rfl, rfl, rfl, fun _ => rfl⟩
 |i + 1, hi => by
  have hi' : i < c.length := by omega
  have hx : c.getD i dA ∈ c := by rw [List.getD, List.getElem?_eq_getElem hi']; exact List.getElem_mem hi'
  rw [fh _ _ (d := dA) hi'];exact (js h cs hp i (by omega)).step (hp _ hx)
theorem co.put (h : co s) (hqb : q < 18446744073709551616) (c : List dP) : co (ji s q c) := by
 unfold ji
 split
 ·rename_i hq
  have h1 := iy h hq hqb c.length aj;rw [List.take_length] at h1;have h2 := js h1.ok c (c := c) (fun x hx => eQ (h1.set x hx)) c.length aj;rw [List.take_length] at h2;exact h2.ok
 ·exact h
theorem co.cln (h : co s) (n : Int) : co (i8 s n) := by
 unfold i8
 split
 ·rename_i e
  have hl := h.line n.toNat
  exact h.dk ((h.mem _).2 e.2) (dQ.cln hl.1) (by rw [zz]; exact hl.2)
 ·exact h
theorem co.drp (h : co s) (n : Int) : co (lv s n) := by
 unfold lv
 split
 ·exact h.drop _
 ·exact h
theorem co.rd (h : co s) (u : HuS) (n m : Int) : co (fC s u n m).2.2.1 := by
 unfold fC
 split
 ·rename_i hp
  obtain ⟨k, i, e1, hk, e2, hi⟩ := f7 hp;have ek : n.toNat = k := by omega
  split
  ·show co (s.tch n.toNat); rw [ek]; exact h.tch hk
  ·show co (if _ then _ else s)
   split
   ·rename_i e
    rw [ek] at e ⊢;have ht := h.tch hk;have hl := ht.line k;exact ht.dk ((ht.mem k).2 (by rw [gW e.2]; rfl)) (dQ.lrn hl.1 _ _) (by rw [yP]; exact hl.2)
   ·exact h
 ·exact h
end
open Go.RowKit Go.ChangeShapes Go.WideShapes Go.ChangeAt Go.Deep
section
variable {H : Type} {enc : TypeId × Value -> H} {W : World} {base : Nat} {v : Value} {d : DataW H} {p : List MemPlace}
theorem sX {α : Type} (E : Elt α) (Good : α -> Prop) (hc : prog.cellsOf E.t = E.n) {fuel : Nat} {cs : List Value} {x : DataW H × List MemPlace} (hf : DataW.trod enc prog W 0 (fun _ => true) true fuel E.s cs = some x)
  (hE : ∀ (fuel : Nat) (cs : List Value) (x : DataW H × List MemPlace), DataW.trod enc prog W 0 (fun _ => true) true fuel E.t cs = some x -> ∃ a, cs = E.cel a /\ Good a) :
  ∃ (A : Option Addr) (n c : Nat) (l : List α), cs = [.slice A n c] /\ RdE E W W.heap.size A n l /\ n <= c /\ c <= maxLen /\ ∀ k, k < n -> Good (l.getD k E.d) := by
 rcases open_slice E.und hf with ⟨hcs, hx⟩ | ⟨a, len0, cap, m, n, D, Pl, hcs, hb, hl, hm, hmm, hx, hel⟩
 ·exact ⟨none, 0, 0, [], hcs, RdE.nil _ _ _, by omega, by unfold maxLen; omega, fun k hk => absurd hk (by omega)⟩
 ·simp only [if_true] at hmm;subst hmm
  haveI : Inhabited α := ⟨E.d⟩
  obtain ⟨f, hf2⟩ := choose_lt (α := α) (p := fun i b => W.cells? 0 (a.add (i * E.n)) E.n = some (E.cel b) /\ Good b) (n := m) (fun i hi => by
   obtain ⟨cs', h1, h2⟩ := hel i hi;rw [hc] at h1;obtain ⟨b, rfl, hg⟩ := hE _ _ _ h2;exact ⟨b, h1, hg⟩)
  have hp := E.pos;refine ⟨some a, len0, m, (List.range len0).map f, hcs, ⟨by simp, fun k hk => ?_⟩, hl, hm, fun k hk => ?_⟩
  ·obtain ⟨b, off, spot⟩ := a;have hzero : ∀ i, ∃ u, (E.cel (f i))[0]? = some u := fun i => ⟨_, List.getElem?_eq_getElem (by rw [E.len]; exact hp)⟩
   have hspot : spot = none := by
    obtain ⟨u, hu⟩ := hzero 0;have h0 := (World.cells?_some (hf2 0 (by omega)).1).2.2 0 hp;rw [hu] at h0;have := World.cell?_spot h0
    simpa [Addr.add] using this
   subst hspot;have hcc := World.cells?_some (hf2 k (by omega)).1;refine ⟨b, off, rfl, ?_, fun j u hj => ?_⟩
   ·obtain ⟨u, hu⟩ := hzero k;have h0 := hcc.2.2 0 hp;rw [hu, add_mid, add_mid] at h0;exact World.block_lt_of_cell? W _ h0
   ·have hlt : j < E.n := by have := (List.getElem?_eq_some_iff.1 hj).1; rwa [E.len] at this
    have h1 := hcc.2.2 j hlt;rw [add_mid, add_mid] at h1;rw [h1, <- hj];simp [List.getD, hk]
  ·simpa [List.getD, hk] using (hf2 k (by omega)).2
theorem aa0 {α : Type} (E : Elt α) (Good : α -> Prop) (hc : prog.cellsOf E.t = E.n) (hv : Value.okWide prog W .any base E.s v) (h : DataW.Trod enc prog W 0 (fun _ => true) true E.s v d p)
  (hE : ∀ (fuel : Nat) (cs : List Value) (x : DataW H × List MemPlace), DataW.trod enc prog W 0 (fun _ => true) true fuel E.t cs = some x -> ∃ a, cs = E.cel a /\ Good a) :
  ∃ (A : Option Addr) (n c : Nat) (l : List α), v = .slice A n c /\ RdE E W W.heap.size A n l /\ n <= c /\ c <= maxLen /\ ∀ k, k < n -> Good (l.getD k E.d) := by
 obtain ⟨a0, len0, cap0, rfl⟩ := okWide_slice E.und hv;obtain ⟨fuel, hf⟩ := h;obtain ⟨A, n, c, l, hcs, rest⟩ := sX E Good hc hf hE;simp [Value.cells] at hcs;obtain ⟨rfl, rfl, rfl⟩ := hcs;exact ⟨_, _, _, l, rfl, rest⟩
end
def BoE : Elt Bool where
 s := 67
 t := 4
 n := 1
 by_ := 1
 cel x := [.bool x]
 d := false
 z := .bool false
 pos := by omega
 small := by omega
 len _ := rfl
 one x v hv := by simp at hv; subst hv; rfl
 und := underlying67
 info := by kernel_rfl
 zc := rfl
theorem lD {ρ : Operand -> Value} {o : Oper} {x : Operand} {w : World} {t e : TypeId} {A : Option Addr} {n c : Nat} (hu : prog.underlying t = some (.slice e)) (ho : o.op = .call { callee := .builtin .len, args := #[x], argTypes := #[t] }) (hx : ρ x = .slice A n c) : (execOp ρ o).run prog w = .ok (.value (.int .i64 (n : Int))) w := by
 simp [execOp, ho, resolve, invoke, builtin, hx, Builtin.len_, run_underlying hu, Result.andThen]
 rfl
end Go.Proofs.YtdmhelalbemlcaaGreatDoor
