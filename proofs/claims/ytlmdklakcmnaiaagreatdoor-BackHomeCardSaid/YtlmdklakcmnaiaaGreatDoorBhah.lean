import Derived.Test.YtlmdklakcmnaiaaGreatDoorBhag
namespace Go.Proofs.YtlmdklakcmnaiaaGreatDoor
set_option maxHeartbeats 8000000
open Go.Proofs.Tryz
open Go.RowKit
set_option linter.unusedVariables false
set_option linter.unusedSimpArgs false
set_option maxRecDepth 100000
section
variable (x : Ros) {j : Nat} (hj : j < 16)
include hj
theorem ri : (aZ x).set (3 + j) (.int .u8 1) = aZ (ic x j 1) := adW x hj 1
end
theorem yQ {y : Ros} {b : Bool} (w : World) (h : aW y = b) : Calls prog 40 #[ros y] w fun e w' => e = .returned (.bool b) /\ Below w.heap.size w w' := by subst h; exact ago y w
theorem afm {x : Ros} {m : Int} (hf : aW x = false) (w : World) : Calls prog 135 #[ros x, .int .i64 m] w fun e w' => e = .returned (.tuple #[ros (x), .bool false]) /\ Below w.heap.size w w' := by
 have HT1 := ae (kU.new w x);have HF := ae hf;clear hf;go_enter func135, ntmps135;go_upto_region 1 with (first | (refine aw rfl (a6 rfl rfl) ?_) | (refine aw rfl (cT rfl) ?_) | fail);generalize (w.alloc (.cells (aZ x).toArray 58)).alloc (.cells (aZ bK).toArray 58) = w1 at *;refine af ?_;refine akj (aX rfl akt (HT1.out.at0)) ?_;refine ay rfl (aB call42 rfl (evc akt evn)) ?_;refine (dO w1 HF).mono ?_;rintro e w2 ⟨rfl, hb⟩;have HT2 := ae (HT1.out.call hb);clear hb HT1;refine aR ?_;refine runs 1 ?_;refine a7 4 rfl (aM rfl akt) (by kernel_rfl) ?_;simp only [bL, ac, aa];refine aF 1 ?_;go_upto_region 2 with fail;refine af ?_;refine akj (aX rfl akt (HT2.out.at0)) ?_;refine aG rfl (dP rfl (ev rfl) (ev rfl) HT2.out.at1) ?_;simp only [aa];have HT3 := ae (HT2.out.put (x));generalize i3 w2 (w.heap.size + 1) (x) = w3 at HT3 ⊢;clear HT2;refine aF 1 ?_;go_wp2_with fail;exact bodyPost_ret (lm rfl _ _ _ rfl HT3.out.at1) rfl ⟨rfl, HT3.out.bel⟩
theorem aei {x : Ros} {m : Int} (hf : aW x = true) (hq : eQ x m = false) (w : World) : Calls prog 135 #[ros x, .int .i64 m] w fun e w' => e = .returned (.tuple #[ros (x), .bool false]) /\ Below w.heap.size w w' := by
 have HT1 := ae (kU.new w x);have HF := ae hf;have HQ := ae hq;clear hf hq;go_enter func135, ntmps135;go_upto_region 1 with (first | (refine aw rfl (a6 rfl rfl) ?_) | (refine aw rfl (cT rfl) ?_) | fail);generalize (w.alloc (.cells (aZ x).toArray 58)).alloc (.cells (aZ bK).toArray 58) = w1 at *;refine af ?_;refine akj (aX rfl akt (HT1.out.at0)) ?_;refine ay rfl (aB call42 rfl (evc akt evn)) ?_;refine (dO w1 HF).mono ?_;rintro e w2 ⟨rfl, hb⟩;have HT2 := ae (HT1.out.call hb);clear hb HT1;refine aR ?_;refine runs 2 ?_;refine akq (aX rfl akt (HT2.out.at0)) ?_;refine runs 1 ?_;refine ay ake (aB call115 rfl (evc akt (evc akt evn))) ?_;refine (eC w2 HQ).mono ?_;rintro e w3 ⟨rfl, hb⟩;have HT3 := ae (HT2.out.call hb);clear hb HT2;refine aR ?_;refine aF 2 ?_;go_upto_region 2 with fail;refine af ?_;refine akj (aX rfl akt (HT3.out.at0)) ?_;refine aG rfl (dP rfl (ev rfl) (ev rfl) HT3.out.at1) ?_;simp only [aa];have HT4 := ae (HT3.out.put (x));generalize i3 w3 (w.heap.size + 1) (x) = w4 at HT4 ⊢;clear HT3;refine aF 1 ?_;go_wp2_with fail;exact bodyPost_ret (lm rfl _ _ _ rfl HT4.out.at1) rfl ⟨rfl, HT4.out.bel⟩
theorem ae4 {x : Ros} {j : Nat} (hj : j < 16) (hf : aW x = true) (hq : eQ x (j : Int) = true) (h1 : (sta x j == 1) = true) (w : World) : Calls prog 135 #[ros x, .int .i64 (j : Int)] w fun e w' => e = .returned (.tuple #[ros (x), .bool false]) /\ Below w.heap.size w w' := by
 have HT1 := ae (kU.new w x);have HF := ae hf;have HQ := ae hq;have H1 := ae h1;clear hf hq h1;go_enter func135, ntmps135;go_upto_region 1 with (first | (refine aw rfl (a6 rfl rfl) ?_) | (refine aw rfl (cT rfl) ?_) | fail);generalize (w.alloc (.cells (aZ x).toArray 58)).alloc (.cells (aZ bK).toArray 58) = w1 at *;refine af ?_;refine akj (aX rfl akt (HT1.out.at0)) ?_;refine ay rfl (aB call42 rfl (evc akt evn)) ?_;refine (dO w1 HF).mono ?_;rintro e w2 ⟨rfl, hb⟩;have HT2 := ae (HT1.out.call hb);clear hb HT1;refine aR ?_;refine runs 2 ?_;refine akq (aX rfl akt (HT2.out.at0)) ?_;refine runs 1 ?_;refine ay ake (aB call115 rfl (evc akt (evc akt evn))) ?_;refine (eC w2 HQ).mono ?_;rintro e w3 ⟨rfl, hb⟩;have HT3 := ae (HT2.out.call hb);clear hb HT2;refine aR ?_;refine aF 2 ?_;go_upto_region 3 with fail;refine aI 1 ?_;refine akj (ax rfl akt nI) ?_;refine akj (cU rfl akt akt (qn hj)) ?_;refine akj (aD rfl akt (qy ((HT3.out.at0).sta hj))) ?_;refine ah ?_;go_upto_region 4 with fail;refine af ?_;refine akj (aH true rfl akt evk H1) ?_;refine aF 1 ?_;go_upto_region 5 with fail;refine af ?_;refine akj (aX rfl akt (HT3.out.at0)) ?_;refine aG rfl (dP rfl (ev rfl) (ev rfl) HT3.out.at1) ?_;simp only [aa];have HT4 := ae (HT3.out.put (x));generalize i3 w3 (w.heap.size + 1) (x) = w4 at HT4 ⊢;clear HT3;refine aF 1 ?_;go_wp2_with fail;exact bodyPost_ret (lm rfl _ _ _ rfl HT4.out.at1) rfl ⟨rfl, HT4.out.bel⟩
theorem af7 {x : Ros} {j : Nat} (hj : j < 16) (hf : aW x = true) (hq : eQ x (j : Int) = true) (h1 : (sta x j == 1) = false) (h2 : (sta x j == 2) = true) (w : World) : Calls prog 135 #[ros x, .int .i64 (j : Int)] w fun e w' => e = .returned (.tuple #[ros (ic (mO x 0) j 1), .bool true]) /\ Below w.heap.size w w' := by
 have HT1 := ae (kU.new w x);have HF := ae hf;have HQ := ae hq;have H1 := ae h1;have H2 := ae h2;clear hf hq h1 h2;go_enter func135, ntmps135;go_upto_region 1 with (first | (refine aw rfl (a6 rfl rfl) ?_) | (refine aw rfl (cT rfl) ?_) | fail);generalize (w.alloc (.cells (aZ x).toArray 58)).alloc (.cells (aZ bK).toArray 58) = w1 at *;refine af ?_;refine akj (aX rfl akt (HT1.out.at0)) ?_;refine ay rfl (aB call42 rfl (evc akt evn)) ?_;refine (dO w1 HF).mono ?_;rintro e w2 ⟨rfl, hb⟩;have HT2 := ae (HT1.out.call hb);clear hb HT1;refine aR ?_;refine runs 2 ?_;refine akq (aX rfl akt (HT2.out.at0)) ?_;refine runs 1 ?_;refine ay ake (aB call115 rfl (evc akt (evc akt evn))) ?_;refine (eC w2 HQ).mono ?_;rintro e w3 ⟨rfl, hb⟩;have HT3 := ae (HT2.out.call hb);clear hb HT2;refine aR ?_;refine aF 2 ?_;go_upto_region 3 with fail;refine aI 1 ?_;refine akj (ax rfl akt nI) ?_;refine akj (cU rfl akt akt (qn hj)) ?_;refine akj (aD rfl akt (qy ((HT3.out.at0).sta hj))) ?_;refine ah ?_;go_upto_region 4 with fail;refine af ?_;refine akj (aH false rfl akt evk H1) ?_;refine aF 1 ?_;go_upto_region 6 with fail;refine af ?_;refine akj (aH true rfl akt evk H2) ?_;refine aF 1 ?_;go_upto_region 7 with fail;refine af ?_;refine akj (ax rfl akt aaF) ?_;refine aG rfl (ab5 rfl (ev rfl) evk (HT3.out.at0.there (by omega))) ?_;simp only [aa];have HT4 := ae (HT3.out.set (acR _ (0)));generalize setW w3 w.heap.size (19) (.int .i64 (0)) = w4 at HT4 ⊢;clear HT3;refine ah ?_;go_upto_region 8 with fail;refine aI 1 ?_;refine akj (ax rfl akt nI) ?_;refine akj (cU rfl akt akt (qn hj)) ?_;refine aG rfl (uc rfl (ev rfl) evk (HT4.out.at0.there (by omega))) ?_;simp only [aa];have HT5 := ae (HT4.out.set (ri _ hj));generalize setW w4 w.heap.size (3 + j) (.int .u8 1) = w5 at HT5 ⊢;clear HT4;refine ah ?_;go_upto_region 9 with fail;refine af ?_;refine akj (aX rfl akt (HT5.out.at0)) ?_;refine aG rfl (dP rfl (ev rfl) (ev rfl) HT5.out.at1) ?_;simp only [aa];have HT6 := ae (HT5.out.put (ic (mO x 0) j 1));generalize i3 w5 (w.heap.size + 1) (ic (mO x 0) j 1) = w6 at HT6 ⊢;clear HT5;refine aF 1 ?_;go_wp2_with fail;exact bodyPost_ret (lm rfl _ _ _ rfl HT6.out.at1) rfl ⟨rfl, HT6.out.bel⟩
theorem aeI {x : Ros} {j : Nat} (hj : j < 16) (hf : aW x = true) (hq : eQ x (j : Int) = true) (h1 : (sta x j == 1) = false) (h2 : (sta x j == 2) = false) (w : World) : Calls prog 135 #[ros x, .int .i64 (j : Int)] w fun e w' => e = .returned (.tuple #[ros (ic x j 1), .bool true]) /\ Below w.heap.size w w' := by
 have HT1 := ae (kU.new w x);have HF := ae hf;have HQ := ae hq;have H1 := ae h1;have H2 := ae h2;clear hf hq h1 h2;go_enter func135, ntmps135;go_upto_region 1 with (first | (refine aw rfl (a6 rfl rfl) ?_) | (refine aw rfl (cT rfl) ?_) | fail);generalize (w.alloc (.cells (aZ x).toArray 58)).alloc (.cells (aZ bK).toArray 58) = w1 at *;refine af ?_;refine akj (aX rfl akt (HT1.out.at0)) ?_;refine ay rfl (aB call42 rfl (evc akt evn)) ?_;refine (dO w1 HF).mono ?_;rintro e w2 ⟨rfl, hb⟩;have HT2 := ae (HT1.out.call hb);clear hb HT1;refine aR ?_;refine runs 2 ?_;refine akq (aX rfl akt (HT2.out.at0)) ?_;refine runs 1 ?_;refine ay ake (aB call115 rfl (evc akt (evc akt evn))) ?_;refine (eC w2 HQ).mono ?_;rintro e w3 ⟨rfl, hb⟩;have HT3 := ae (HT2.out.call hb);clear hb HT2;refine aR ?_;refine aF 2 ?_;go_upto_region 3 with fail;refine aI 1 ?_;refine akj (ax rfl akt nI) ?_;refine akj (cU rfl akt akt (qn hj)) ?_;refine akj (aD rfl akt (qy ((HT3.out.at0).sta hj))) ?_;refine ah ?_;go_upto_region 4 with fail;refine af ?_;refine akj (aH false rfl akt evk H1) ?_;refine aF 1 ?_;go_upto_region 6 with fail;refine af ?_;refine akj (aH false rfl akt evk H2) ?_;refine aF 1 ?_;go_upto_region 8 with fail;refine aI 1 ?_;refine akj (ax rfl akt nI) ?_;refine akj (cU rfl akt akt (qn hj)) ?_;refine aG rfl (uc rfl (ev rfl) evk (HT3.out.at0.there (by omega))) ?_;simp only [aa];have HT4 := ae (HT3.out.set (ri _ hj));generalize setW w3 w.heap.size (3 + j) (.int .u8 1) = w4 at HT4 ⊢;clear HT3;refine ah ?_;go_upto_region 9 with fail;refine af ?_;refine akj (aX rfl akt (HT4.out.at0)) ?_;refine aG rfl (dP rfl (ev rfl) (ev rfl) HT4.out.at1) ?_;simp only [aa];have HT5 := ae (HT4.out.put (ic x j 1));generalize i3 w4 (w.heap.size + 1) (ic x j 1) = w5 at HT5 ⊢;clear HT4;refine aF 1 ?_;go_wp2_with fail;exact bodyPost_ret (lm rfl _ _ _ rfl HT5.out.at1) rfl ⟨rfl, HT5.out.bel⟩
theorem ai0 (x : Ros) (m : Int) (w : World) : Calls prog 135 #[ros x, .int .i64 m] w fun e w' => e = .returned (.tuple #[ros (dM x m), .bool (lY x m)]) /\ Below w.heap.size w w' := by
 unfold dM;cases hf : aW x
 ·rw [show lY x m = false from by unfold lY; rw [hf]; rfl]; exact afm hf w
 cases hq : eQ x m
 ·rw [show lY x m = false from by unfold lY; rw [hf, hq]; rfl]; exact aei hf hq w
 have hm := nU hq;have hg := ew (ex hf).1;obtain ⟨j, rfl⟩ := Int.eq_ofNat_of_zero_le hm.1;have hj : j < 16 := by omega
 have e : lY x (j : Int) = decide (sta x j ≠ 1) := by unfold lY; rw [hf, hq]; rfl
 rw [e];by_cases h1 : sta x j = 1
 ·rw [am (by simpa using h1)]; exact ae4 hj hf hq (by simpa using h1) w
 rw [ao (by simpa using h1), if_pos rfl]
 show Calls _ _ _ _ fun e w' => e = .returned (.tuple #[ros (if sta x j = 2 then ic (mO x 0) j 1 else ic x j 1), .bool true]) /\ Below w.heap.size w w'
 by_cases h2 : sta x j = 2
 ·rw [if_pos h2]; exact af7 hj hf hq (by simpa using h1) (by simpa using h2) w
 ·rw [if_neg h2]; exact aeI hj hf hq (by simpa using h1) (by simpa using h2) w
theorem aj5 (w : World) (y : Ros) : (w.alloc (.cells (dZ y).toArray 51)).heap[w.heap.size]? = some (.cells (dZ y).toArray 51 (0, 0)) := heap_alloc_new w _
structure mR (w0 w : World) (y z : Ros) : Prop where
 bel : Below w0.heap.size w0 w
 at0 : w.rangeAt w0.heap.size 0 (dZ y)
 lt0 : w0.heap.size < w.heap.size
 at1 : bJ w (w0.heap.size + 1) z
theorem mR.new (w : World) (y : Ros) : mR w ((w.alloc (.cells (dZ y).toArray 51)).alloc (.cells (aZ bK).toArray 58)) y bK := by
 refine ⟨((Below.refl _ w).alloc aj _).alloc (by simp) _, aQ (t := 51) (bu (aj5 w y) _), by simp only [World.size_alloc]; omega, ?_⟩;have := bJ.new (w.alloc (.cells (dZ y).toArray 51)) bK;rwa [World.size_alloc] at this
section
variable {w0 w w' : World} {y z : Ros}
theorem mR.call (h : mR w0 w y z) (hb : Below w.heap.size w w') : mR w0 w' y z :=
 ⟨h.bel.trans (hb.mono h.bel.size), fJ h.at0 h.lt0 hb, au h.lt0 hb.size, h.at1.below (aU h.at1) hb⟩
theorem mR.put (h : mR w0 w y z) (z' : Ros) : mR w0 (i3 w (w0.heap.size + 1) z') y z' :=
 ⟨gZ h.bel (by omega), (fun j v hj => by
  have := World.rangeAt_setCells_apart h.at0 (w0.heap.size + 1) 0 (aZ z') (.inl (by omega));exact this j v hj), by rw [ra]; exact h.lt0, jO h.at1⟩
end
section
variable {ρ : Operand -> Value} {o : Oper} {x : Operand} {w : World}
theorem mv {y : Ros} (ho : o.op = .box 51 x) (hx : ρ x = geo y) : (execOp ρ o).run prog w = .ok (.value (.pointer (some ⟨w.heap.size, 0, none⟩))) (w.alloc (.cells (dZ y).toArray 51)) := cO ho hx
theorem abd (y : Ros) (w : World) : (Instr.build 58 #[(0, geo y)]).run prog w = .ok (ros (gz y)) w := by
 obtain ⟨m, s, r, st, cur, gone⟩ := y
 kernel_rfl
theorem qU {y : Ros} (ho : o.op = .build 58 #[(0, x)]) (hx : ρ x = geo y) : (execOp ρ o).run prog w = .ok (.value (ros (gz y))) w := by
 unfold execOp;simp only [ho, hx, List.map_toArray, List.map_cons, List.map_nil, Sem.run_bind, abd, Result.andThen_ok, Sem.run_pure]
end
theorem mR.third {w0 w : World} {y z : Ros} (h : mR w0 w y z) {b : Nat} (x : Ros) (hb : w0.heap.size + 1 < b) : mR w0 (i3 w b x) y z :=
 ⟨gZ h.bel (by omega), fun j v hj => World.rangeAt_setCells_apart h.at0 b 0 (aZ x) (.inl (by omega)) j v hj, by rw [ra]; exact h.lt0, (va (by omega)).trans h.at1⟩
theorem ahW {y : Ros} (hg : aW (gz y) = false) (w : World) : Calls prog 16 #[geo y] w fun e w' => e = .returned (.tuple #[ros (bK), .int .i64 2]) /\ Below w.heap.size w w' := by
 have HT1 := ae (mR.new w y);have HG := ae hg;clear hg;go_enter func16, ntmps16;go_upto_region 1 with (first | (refine aw rfl (mv rfl rfl) ?_) | (refine aw rfl (cT rfl) ?_) | fail);generalize (w.alloc (.cells (dZ y).toArray 51)).alloc (.cells (aZ bK).toArray 58) = w1 at *;refine af ?_;refine akj (dm (c := y) rfl akt HT1.out.at0) ?_;refine akj (qU (y := y) rfl akt) ?_;refine akj (cT rfl) ?_;have HA := ae (bJ.new w1 bK);have HT2 := ae (HT1.out.call (w' := w1.alloc (.cells (aZ bK).toArray 58)) (ak.alloc aj _));have HB3 : Hid (w.heap.size + 1 < w1.heap.size) := ae (aU HT1.out.at1);clear HT1;generalize w1.alloc (.cells (aZ bK).toArray 58) = w2 at *;generalize w1.heap.size = ba at *;refine aG rfl (dP rfl (ev rfl) (ev rfl) HA.out) ?_;simp only [aa];have HA2 := ae (jO (x := gz y) HA);have HT3 := ae (HT2.out.third (gz y) HB3);clear HT2 HA;have HA := HA2;clear HA2;generalize i3 w2 ba (gz y) = w3 at *;refine ah ?_;go_upto_region 2 with fail;refine af ?_;refine akj (aX rfl akt HA) ?_;refine ay rfl (aB call40 rfl (evc akt evn)) ?_;refine (yQ w3 HG).mono ?_;rintro e w4 ⟨rfl, hb⟩;have HT4 := ae (HT3.out.call hb);have HA2 := ae (HA.out.below (aU HA) hb);clear hb HT3 HA;have HA := HA2;clear HA2;refine aR ?_;refine aF 1 ?_;go_upto_region 3 with fail;refine af ?_;refine akj (pI rfl) ?_;refine aG rfl (dP rfl (ev rfl) (ev rfl) HT4.out.at1) ?_;simp only [aa];have HT5 := ae (HT4.out.put (bK));generalize i3 w4 (w.heap.size + 1) (bK) = w5 at HT5 ⊢;clear HT4;refine aF 1 ?_;go_wp2_with fail;exact bodyPost_ret (lm rfl _ _ _ rfl HT5.out.at1) rfl ⟨rfl, HT5.out.bel⟩
theorem ah6 {y : Ros} (hg : aW (gz y) = true) (w : World) : Calls prog 16 #[geo y] w fun e w' => e = .returned (.tuple #[ros (gz y), .int .i64 0]) /\ Below w.heap.size w w' := by
 have HT1 := ae (mR.new w y);have HG := ae hg;clear hg;go_enter func16, ntmps16;go_upto_region 1 with (first | (refine aw rfl (mv rfl rfl) ?_) | (refine aw rfl (cT rfl) ?_) | fail);generalize (w.alloc (.cells (dZ y).toArray 51)).alloc (.cells (aZ bK).toArray 58) = w1 at *;refine af ?_;refine akj (dm (c := y) rfl akt HT1.out.at0) ?_;refine akj (qU (y := y) rfl akt) ?_;refine akj (cT rfl) ?_;have HA := ae (bJ.new w1 bK);have HT2 := ae (HT1.out.call (w' := w1.alloc (.cells (aZ bK).toArray 58)) (ak.alloc aj _));have HB3 : Hid (w.heap.size + 1 < w1.heap.size) := ae (aU HT1.out.at1);clear HT1;generalize w1.alloc (.cells (aZ bK).toArray 58) = w2 at *;generalize w1.heap.size = ba at *;refine aG rfl (dP rfl (ev rfl) (ev rfl) HA.out) ?_;simp only [aa];have HA2 := ae (jO (x := gz y) HA);have HT3 := ae (HT2.out.third (gz y) HB3);clear HT2 HA;have HA := HA2;clear HA2;generalize i3 w2 ba (gz y) = w3 at *;refine ah ?_;go_upto_region 2 with fail;refine af ?_;refine akj (aX rfl akt HA) ?_;refine ay rfl (aB call40 rfl (evc akt evn)) ?_;refine (yQ w3 HG).mono ?_;rintro e w4 ⟨rfl, hb⟩;have HT4 := ae (HT3.out.call hb);have HA2 := ae (HA.out.below (aU HA) hb);clear hb HT3 HA;have HA := HA2;clear HA2;refine aR ?_;refine aF 1 ?_;go_upto_region 4 with fail;refine af ?_;refine akj (aX rfl akt HA) ?_;refine aG rfl (dP rfl (ev rfl) (ev rfl) HT4.out.at1) ?_;simp only [aa];have HT5 := ae (HT4.out.put (gz y));generalize i3 w4 (w.heap.size + 1) (gz y) = w5 at HT5 ⊢;clear HT4;refine aF 1 ?_;go_wp2_with fail;exact bodyPost_ret (lm rfl _ _ _ rfl HT5.out.at1) rfl ⟨rfl, HT5.out.bel⟩
theorem aj7 (y : Ros) (w : World) : Calls prog 16 #[geo y] w fun e w' => e = .returned (.tuple #[ros (adr y), .int .i64 (tN y : Nat)]) /\ Below w.heap.size w w' := by
 unfold adr tN;have h := xN y;cases hg : dH y
 ·exact ahW (h.trans hg) w
 ·exact ah6 (h.trans hg) w
structure Cel where
 b : Nat
 t : TypeId
 cs : List Value
section
variable {ρ : Operand -> Value} {o : Oper} {x y : Operand} {w : World} {b : Nat} {c d : Ros} {t r : TypeId}
theorem aa7 {fn : Func} {p : Tmp} (h : fn.results = #[.cell p 58]) (tmps : Array Value) (w : World) (b : Nat) (hp : tmps.getD p undef = .pointer (some ⟨b, 0, none⟩)) (hc : bJ w b c) :
  (results fn tmps).run prog w = .ok (ros c) w := nV h tmps w b hp hc.range underlying58 rfl (by rw [br]; exact tk)
end
section
variable {x y : Ros} {g b : Bool} {m : Int} {e : Nat} (w : World)
theorem ahR (h : adr x = y) (he : tN x = e) : Calls prog 16 #[geo x] w fun r w' => r = .returned (.tuple #[ros y, .int .i64 (e : Nat)]) /\ Below w.heap.size w w' := by subst h he; exact aj7 x w
theorem xV (h : dM x m = y) (hb : lY x m = b) : Calls prog 135 #[ros x, .int .i64 m] w fun r w' => r = .returned (.tuple #[ros y, .bool b]) /\ Below w.heap.size w w' := by subst h hb; exact ai0 x m w
theorem acJ {s : Int} (h : hasB x m s = b) : Calls prog 111 #[ros x, .int .i64 m, .int .i64 s] w fun r w' => r = .returned (.bool b) /\ Below w.heap.size w w' := by subst h; exact ajM x m s w
end
theorem agG {N : Nat} {s : Int} (hN : N <= 16) (hs : 1 <= s /\ s <= 64) : jh (szK N s) := by
 refine ⟨by rw [nK]; omega, by rw [nK]; omega, fun k hk => ?_⟩;unfold szK at hk;rcases List.mem_append.1 hk with h | h
 ·have := (List.mem_replicate.1 h).2; omega
 ·simp at h; omega
theorem aeX {N : Nat} {s : Int} (h1 : 3 <= N) (h2 : N <= 16) (h3 : 1 <= s /\ s <= 64) {ev : Nat} (hev : ev <= 2305843009213693952) : gy (fg (szK N s)) 9 ev (neR N s) = true := by
 have hsec : ∀ k, k <= N -> lS (fg (szK N s)) (neR N s) k = true := fun k hk => by
  induction k with
  |zero => rfl
  |succ k ih =>
   refine mw (ih (by omega)) ?_;have e : io (fg (szK N s)) (k : Int) = ((2 + s).toNat : Int) := by
    unfold io;rw [if_pos (nM (by rw [lQ]; omega))]
    show (((fg (szK N s)).ds.getD k bF).S.length : Int) = _
    rw [lI (by omega)]
    show ((List.replicate (2 + s).toNat aJ).length : Int) = _
    rw [List.length_replicate]
   rw [e]
   show ¬ (((2 + s).toNat : Nat) : Int) < 2 + s
   omega
 unfold gy;rw [ka h1 h2 h3.1 h3.2, lQ, show (neR N s).m.toNat = N from adB N s, hsec N aj, am (show ¬ (9 : Nat) = 0 by decide), am (show ¬ 2305843009213693952 < ev by omega), ao (show ((N + 1 : Nat) : Int) = (neR N s).m + 1 from rfl)]
 rfl
theorem agV {N : Nat} {s : Int} (h1 : 3 <= N) (h2 : N <= 16) (h3 : 1 <= s /\ s <= 64) : adr (neR N s) = neR N s /\ tN (neR N s) = 0 := by
 have hg : dH (neR N s) = true := ao ⟨by show 3 <= (N : Int); omega, by show (N : Int) <= 16; omega, h3.1, h3.2, by show (40 : Int) <= 40; omega, by show (40 : Int) <= 256; omega⟩
 constructor
 ·unfold adr; rw [hg]; rfl
 ·unfold tN; rw [hg]; rfl
def fm (t p q r y : Nat) : List Value := [.pointer (some ⟨t, 0, none⟩), .pointer (some ⟨p, 0, none⟩), .pointer (some ⟨q, 0, none⟩), .pointer (some ⟨r, 0, none⟩), .pointer (some ⟨y, 0, none⟩)]
def jU : List Value := [.pointer none, .pointer none, .pointer none, .pointer none, .pointer none]
theorem xc : (prog.info? 29).map (fun i => i.zero) = some (some (.agg jU.toArray)) := by kernel_rfl
theorem aaD (t p q r y : Nat) (w : World) : (Instr.build 29 #[(0, .pointer (some ⟨t, 0, none⟩)), (1, .pointer (some ⟨p, 0, none⟩)), (2, .pointer (some ⟨q, 0, none⟩)), (3, .pointer (some ⟨r, 0, none⟩)), (4, .pointer (some ⟨y, 0, none⟩))]).run prog w = .ok (.agg (fm t p q r y).toArray) w := by kernel_rfl
theorem vP {ρ : Operand -> Value} {o : Oper} {x1 x2 x3 x4 x5 : Operand} {w : World} {t p q r y : Nat} (ho : o.op = .build 29 #[(0, x1), (1, x2), (2, x3), (3, x4), (4, x5)]) (h1 : ρ x1 = .pointer (some ⟨t, 0, none⟩)) (h2 : ρ x2 = .pointer (some ⟨p, 0, none⟩)) (h3 : ρ x3 = .pointer (some ⟨q, 0, none⟩)) (h4 : ρ x4 = .pointer (some ⟨r, 0, none⟩)) (h5 : ρ x5 = .pointer (some ⟨y, 0, none⟩)) : (execOp ρ o).run prog w = .ok (.value (.agg (fm t p q r y).toArray)) w := by
 unfold execOp;simp only [ho, h1, h2, h3, h4, h5, List.map_toArray, List.map_cons, List.map_nil, Sem.run_bind, aaD, Result.andThen_ok, Sem.run_pure]
theorem mE {t p q r y : Nat} : ∀ v ∈ fm t p q r y, v.oneCell' = true := by
 intro v hv;simp only [fm, List.mem_cons, List.not_mem_nil, or_false] at hv;rcases hv with rfl | rfl | rfl | rfl | rfl <;> rfl
theorem agY {fn : Func} {q u : Tmp} {t : TypeId} {cs : List Value} {d : TypeDesc} (h : fn.results = #[.cell q t, .tmp u]) (tmps : Array Value) (w : World) (b : Nat) (hq : tmps.getD q undef = .pointer (some ⟨b, 0, none⟩)) (hr : w.rangeAt b 0 cs) (hu : prog.underlying t = some d) (hd : d.isRow = true) (hz : (prog.info? t).map (·.size) = some cs.length) :
  (results fn tmps).run prog w = .ok (.tuple #[.agg cs.toArray, tmps.getD u undef]) w := by
 have hl : (loadVar t ⟨b, 0, none⟩).run prog w = .ok (.agg cs.toArray) w := run_loadVar_mid (P := prog) w b 0 t cs d hr hu hd hz;have hq' : tmps[q]?.getD undef = .pointer (some ⟨b, 0, none⟩) := by simpa using hq
 simp [results, h, hq', asAddr, hl]
theorem tf (C : eN) (D : ShI C) (a N : Nat) (w : World) (T : Tab w) (ha : a < 256) (hN : 3 + a % 4 = N) : Calls prog 5 #[.int .u8 (a : Int)] w fun e w' => ∃ t p q r y, e = .returned (.tuple #[.agg (fm t p q r y).toArray, .bool true]) /\ SAt C D w w.heap.size (fun _ => False) w' q p t 0 ⟨fg (szK N 6), 9, 0, neR N 6⟩ (kZ N 6 6) := by
 have h1 : 3 <= N := by omega
 have h2 : N <= 16 := by omega
 have HT := ae T;have HN3 := ae h1;have HN := ae h2;have HRA : Hid ((a : Int).tmod 4 = ((a % 4 : Nat) : Int)) := ae rfl;have HCA : Hid (IntKind.i64.wrap ((a % 4 : Nat) : Int) = ((a % 4 : Nat) : Int)) := ae (el (by omega));have HAA : Hid (IntKind.i64.wrap (3 + ((a % 4 : Nat) : Int)) = (N : Int)) := ae (by rw [el (by omega)]; omega);have HOK := ae (agG (N := N) (s := 6) h2 (by omega));have HNW := ae (agV (N := N) (s := 6) h1 h2 (by omega));have HFN := ae (ka (N := N) (s := 6) h1 h2 (by omega) (by omega));have HH := ae (aeX (N := N) (s := 6) h1 h2 (by omega) (ev := 0) (by omega));have HGB : Hid (dH (gx N 6 40) = true) := ae (by
  have hf := ka (N := N) (s := 6) h1 h2 (by omega) (by omega);unfold aW at hf;simp only [Bool.and_eq_true] at hf;exact hf.1.1.1)
 clear T h1 h2 ha hN;go_enter func5, ntmps5;go_upto_region 0 with fail;refine af ?_;refine akj (di (cs := jU) xc rfl) ?_;have hbx := (Below.refl w.heap.size w).alloc aj (.cells jU.toArray 29);have HB1 := ae hbx;have HQ1 := ae (heap_alloc_new w (.cells jU.toArray 29));obtain ⟨bp, hbp⟩ : ∃ bp, w.heap.size = bp := ⟨_, rfl⟩;have HGP : Hid (w.heap.size <= bp) := ae (by rw [<- hbp]; exact aj);rw [hbp] at HQ1 ⊢;clear hbp hbx;generalize w.alloc (.cells jU.toArray 29) = w1 at *;refine aF 1 ?_;go_upto_region 1 with fail;refine aI 1 ?_;refine akj (zF rfl akt evk (by decide) HRA) ?_;refine akj (px rfl akt HCA) ?_;refine akj (bH rfl evk akt HAA) ?_;refine akj (sZ rfl akt evk evk) ?_;refine akj (di (cs := [.int .i64 0, .int .i64 0, .int .i64 0]) ahi rfl) ?_;refine aG rfl (fG (cs := dZ (neR N 6)) (ds := [.int .i64 0, .int .i64 0, .int .i64 0]) (by kernel_rfl) rfl (by intro v hv; simp only [dZ, List.mem_cons, List.not_mem_nil, or_false] at hv; rcases hv with rfl | rfl | rfl <;> rfl) rfl (ev rfl) (ev rfl)) ?_;simp only [aa];have hbx := (Below.refl w1.heap.size w1).alloc aj (.cells (dZ (neR N 6)).toArray 51);have HB2 := ae (HB1.out.trans (hbx.mono HB1.out.size));have HQ2 := ae (aC HQ1 hbx);have HG2 := ae (heap_alloc_new w1 (.cells (dZ (neR N 6)).toArray 51));obtain ⟨bg, hbg⟩ : ∃ bg, w1.heap.size = bg := ⟨_, rfl⟩;rw [hbg] at HG2 ⊢;clear hbg hbx;generalize w1.alloc (.cells (dZ (neR N 6)).toArray 51) = w2 at *;refine ah ?_;go_upto_region 2 with fail;refine cf 1 ?_;go_upto_region 3 with fail;refine cf 1 ?_;go_wp2_with fail
 go_loopw [5, 6] (fun v z wr => ∃ i : Nat, z = .int .i64 i /\ i <= N /\ aN bP wr w.heap.size v (List.replicate i (2 + 6)) /\ Below w.heap.size w wr /\ wr.heap[bg]? = some (.cells (dZ (neR N 6)).toArray 51 (0, 0)) /\ wr.heap[bp]? = some (.cells jU.toArray 29 (0, 0))) (fun _ z _ => N - (intOf z).toNat)
 case atStart => exact ⟨0, by go_num, Nat.zero_le _, aN.nil _ _, HB2, HG2, HQ2⟩
 case round =>
  obtain ⟨i, rfl, hi, hm, hb, hg, hq⟩ := hrel;have HM := ae hm;have HW := ae hb;have HG := ae hg;have HQ := ae hq;have HBS : Hid (w.heap.size <= wr.heap.size) := ae hb.size;clear hm hb hg hq;by_cases hlt : i < N
  ·have HI := ae hlt;have HLT : Hid (decide ((i : Int) < (N : Int)) = true) := ae (ao (by omega));have HA : Hid (IntKind.i64.wrap ((i : Int) + 1) = ((i + 1 : Nat) : Int)) := ae (by have := HN.out; rw [el ⟨by omega, by omega⟩]; omega);have hsz : (wr.alloc (.cells #[.int .i64 8] 3)).heap.size = wr.heap.size + 1 := al;have hal := aC HG ((Below.refl wr.heap.size wr).alloc aj (.cells #[.int .i64 8] 3));have haq := aC HQ ((Below.refl wr.heap.size wr).alloc aj (.cells #[.int .i64 8] 3));obtain ⟨v2, w3, hrun, hm2, hg2⟩ := gB bP (wr.alloc (.cells #[.int .i64 8] 3)) 35 w.heap.size (wr.heap.size + 1) 1 1 u5 (List.replicate i (2 + 6)) [8] (some ⟨wr.heap.size, 0, none⟩) (aN.below HM (ak.alloc aj _)) (fS (E := bP) (l := [8]) wr #[.int .i64 8] 3 rfl) (by have := HBS.out; omega) (by have := HN.out; simp; omega);have HRUN := ae hrun;have HM3 : Hid (aN bP w3 w.heap.size v2 (List.replicate (i + 1) (2 + 6))) := ae (by rw [List.replicate_succ']; exact hm2);have HW3 : Hid (Below w.heap.size w w3) := ae ((HW.out.trans (ak.alloc HBS _)).grown hg2 (by have := HBS.out; omega) (fun j' hj' => HM.out.gH j' hj'));have HG3 : Hid (w3.heap[bg]? = some (.cells (dZ (neR N 6)).toArray 51 (0, 0))) := ae ((hg2.block bg (aU hal) (fun e => (aN.eU (aN.below HM (ak.alloc aj (.cells #[.int .i64 8] 3))) hal (by decide)) e.symm)).trans hal);have HQ3 : Hid (w3.heap[bp]? = some (.cells jU.toArray 29 (0, 0))) := ae ((hg2.block bp (aU haq) (fun e => (aN.eU (aN.below HM (ak.alloc aj (.cells #[.int .i64 8] 3))) haq (by decide)) e.symm)).trans haq);clear hi hlt hsz hrun hm2 hg2 hal haq;go_upto_region 4 with fail;refine aI 1 ?_;refine akj (ax rfl akt oP) ?_;refine akj (aD rfl akt (cd (k := (N : Int)) ((aQ HG) 0 _ rfl))) ?_;refine akj (aY true rfl akt akt HLT) ?_;refine ah ?_;go_upto_region 6 with fail;refine aI 1 ?_;refine akj (eA (E := bP) (a := 8) rfl evk rfl (by decide)) ?_;refine akj (gh (E := bP) rfl akt akt HRUN) ?_;refine aF 1 ?_;go_upto_region 5 with fail;refine aI 1 ?_;refine akj (bH rfl akt evk HA) ?_;refine aF 1 ?_;go_wp2_with fail;go_roundw
   case rel => exact ⟨i + 1, by go_num, HI, HM3, HW3, HG3, HQ3⟩
   case measure => have := HI.out; simp [intOf]; omega
  have hin : i = N := by omega
  subst hin;have HLT : Hid (decide ((i : Int) < (i : Int)) = false) := ae (am (by omega));have hsz : (wr.alloc (.cells #[.int .i64 50] 3)).heap.size = wr.heap.size + 1 := al;have hal := aC HG ((Below.refl wr.heap.size wr).alloc aj (.cells #[.int .i64 50] 3));have haq := aC HQ ((Below.refl wr.heap.size wr).alloc aj (.cells #[.int .i64 50] 3));obtain ⟨v2, w3, hrun, hm2, hg2⟩ := gB bP (wr.alloc (.cells #[.int .i64 50] 3)) 35 w.heap.size (wr.heap.size + 1) 1 1 u5 (List.replicate i (2 + 6)) [50] (some ⟨wr.heap.size, 0, none⟩) (aN.below HM (ak.alloc aj _)) (fS (E := bP) (l := [50]) wr #[.int .i64 50] 3 rfl) (by have := HBS.out; omega) (by have := HN.out; simp; omega);have HRUN := ae hrun;have HM3 : Hid (aN bP w3 w.heap.size v2 (szK i 6)) := ae hm2;have HW3 : Hid (Below w.heap.size w w3) := ae ((HW.out.trans (ak.alloc HBS _)).grown hg2 (by have := HBS.out; omega) (fun j' hj' => HM.out.gH j' hj'));have HG3 : Hid (w3.heap[bg]? = some (.cells (dZ (neR i 6)).toArray 51 (0, 0))) := ae ((hg2.block bg (aU hal) (fun e => (aN.eU (aN.below HM (ak.alloc aj (.cells #[.int .i64 50] 3))) hal (by decide)) e.symm)).trans hal);have HQ3 : Hid (w3.heap[bp]? = some (.cells jU.toArray 29 (0, 0))) := ae ((hg2.block bp (aU haq) (fun e => (aN.eU (aN.below HM (ak.alloc aj (.cells #[.int .i64 50] 3))) haq (by decide)) e.symm)).trans haq);clear hi hlt hsz hrun hm2 hg2 hal haq;go_upto_region 4 with fail;refine aI 1 ?_;refine akj (ax rfl akt oP) ?_;refine akj (aD rfl akt (cd (k := (i : Int)) ((aQ HG) 0 _ rfl))) ?_;refine akj (aY false rfl akt akt HLT) ?_;refine ah ?_;go_upto_region 7 with fail;refine aI 1 ?_;refine akj (eA (E := bP) (a := 50) rfl evk rfl (by decide)) ?_;refine akj (gh (E := bP) rfl akt akt HRUN) ?_;refine aF 1 ?_;obtain ⟨A2, c2, rfl, e21, e22⟩ := HM3.out.form;have HR3 := ae HM3.out.rd;have HC2 := ae (And.intro e21 e22);have HB3 := ae HW3;have HS3 : Hid (w3.heap.size <= w3.heap.size) := ae aj;have HPL : Hid (bp < w3.heap.size) := ae (aU HQ3);clear e21 e22;go_upto_region 8 with fail;refine aI 1 ?_;refine ay rfl (aB call14 rfl (evc akt evn)) ?_;refine (C.R.new HR3 HC2.out.1 HC2.out.2).mono ?_;rintro e w4 ⟨b4, h4⟩;obtain ⟨_, q, F, rfl, n4, f4⟩ | ⟨h4, _⟩ := h4;rotate_left 1
  ·exact absurd HOK h4
  have HB4 := ae (HB3.out.trans (b4.mono HB3.out.size));have HQ4 := ae (aC HQ3 b4);have HG4 := ae (aC HG3 b4);have HS4 := ae (aq HS3 b4.size);have HN4 := ae n4;have HF4 : Hid (∀ b, F b -> w3.heap.size <= b) := ae f4;have HFL : Hid (∀ b, F b -> b < w4.heap.size) := ae fun b hb => C.R.toBen.lt n4 b hb
  have HR4 := ae (HM3.out.below b4).rd;clear b4 n4 f4;refine aR ?_;refine runs 3 ?_;refine aF 2 ?_;go_upto_region 9 with fail;refine aI 1 ?_;refine ay rfl (aB call15 rfl (evc akt evn)) ?_;refine (dJ.new HR4 HC2.out.1 HC2.out.2).mono ?_;rintro e w5 ⟨b5, h5⟩;obtain ⟨_, q5, F5, rfl, n5, f5⟩ | ⟨h5, _⟩ := h5;rotate_left 1
  ·exact absurd HOK h5
  have HB5 := ae (HB4.out.trans (b5.mono HB4.out.size));have HQ5 := ae (aC HQ4 b5);have HG5 := ae (aC HG4 b5);have HS5 := ae (aq HS4 b5.size);have HN5 := ae (C.R.toBen.below HN4 b5);have HD5 := ae n5;clear b5 n5 f5;refine aR ?_;refine runs 3 ?_;refine aF 2 ?_;go_upto_region 10 with fail;refine af ?_;refine akj (dm (c := neR i 6) rfl akt (aQ HG5)) ?_;refine ay rfl (aB call16 rfl (evc akt evn)) ?_;refine (ahR (x := neR i 6) (w := w5) HNW.out.1 HNW.out.2).mono ?_;rintro e w6 ⟨rfl, b6⟩;have HB6 := ae (HB5.out.trans (b6.mono HB5.out.size));have HQ6 := ae (aC HQ5 b6);have HG6 := ae (aC HG5 b6);have HS6 := ae (aq HS5 b6.size);have HN6 := ae (C.R.toBen.below HN5 b6);have HD6 := ae (dJ.below HD5 b6);clear b6;refine aR ?_;refine runs 3 ?_;refine akj (cT rfl) ?_;refine aG rfl (lA rfl (ev rfl) (ev rfl)) ?_;simp only [aa];have hx := (Below.refl w6.heap.size w6).alloc aj (.cells (aZ (neR i 6)).toArray 58);have HB7 := ae (HB6.out.trans (hx.mono HB6.out.size));have HQ7 := ae (aC HQ6 hx);have HG7 := ae (aC HG6 hx);have HS7 := ae (aq HS6 hx.size);have HN7 := ae (C.R.toBen.below HN6 hx);have HD7 := ae (dJ.below HD6 hx);have HX7 := ae (bJ.new w6 (neR i 6));clear hx;obtain ⟨qx, hqx⟩ : ∃ qx, w6.heap.size = qx := ⟨_, rfl⟩;rw [hqx] at HX7 ⊢;clear hqx;generalize w6.alloc (.cells (aZ (neR i 6)).toArray 58) = w7 at *;refine aF 1 ?_;go_upto_region 11 with fail;refine aI 1 ?_;refine akj (aK false rfl akt evk rfl) ?_;refine runs 2 ?_;refine akq (aK false rfl akt evk rfl) ?_;refine runs 3 ?_;refine akq (aK false rfl akt evk rfl) ?_;refine aF 1 ?_;go_upto_region 13 with fail;refine aI 1 ?_;refine akj (bi rfl akt HX7.out.range) ?_;refine ay rfl (aB call17 rfl (evc akt (evc evk (evc evk (evc akt evn))))) ?_;refine (C.new_ 9 0 (neR i 6) (by omega) (by omega) HN7).mono ?_;rintro e w8 ⟨b8, h8⟩;obtain ⟨_, p, G, rfl, j8, g8⟩ | ⟨h8, _⟩ := h8;rotate_left 1
  ·exact absurd (HH.out.symm.trans h8) (by decide)
  have HB8 := ae (HB7.out.trans (b8.mono HB7.out.size));have HQ8 := ae (aC HQ7 b8);have HG8 := ae (aC HG7 b8);have HS8 := ae (aq HS7 b8.size);have HX8 := ae (HX7.out.below (aU HX7) b8);have HD8 := ae (dJ.below HD7 b8);have HJ8 := ae j8;have HGG : Hid (∀ b, G b -> w3.heap.size <= b /\ b < w8.heap.size) := ae fun b hb => by
   refine ⟨?_, C.lt j8 b hb⟩;rcases g8 b hb with e | e
   ·exact HF4.out b e
   ·exact aq HS7 e
  clear b8 j8 g8;refine aR ?_;refine runs 3 ?_;refine aF 2 ?_;go_upto_region 14 with fail;refine aI 1 ?_;refine akj (bi rfl akt HX8.out.range) ?_;refine ay rfl (aB call18 rfl (evc akt (evc evk (evc evk (evc akt evn))))) ?_;refine (aiJ 9 0 (neR i 6) w8 HD8).mono ?_;rintro e w9 ⟨b9, h9⟩;obtain ⟨_, p2, rfl, j9, g9⟩ | ⟨h9, _⟩ := h9;rotate_left 1
  ·exact absurd (HH.out.symm.trans h9) (by decide)
  have HB9 := ae (HB8.out.trans (b9.mono HB8.out.size));have HQ9 := ae (aC HQ8 b9);have HG9 := ae (aC HG8 b9);have HS9 := ae (aq HS8 b9.size);have HJ9 := ae (C.below HJ8 b9);have HS89 := ae b9.size;clear b9 j9 g9;refine aR ?_;refine runs 3 ?_;refine aF 2 ?_;go_upto_region 15 with fail;refine af ?_;refine akj (dm (c := neR i 6) rfl akt (aQ HG9)) ?_;refine ay rfl (aB call19 rfl (evc akt (evc evk evn))) ?_;refine (D.new_ok (N := i) (T := 6) (room := 6) (r := 40) w9 HGB (by omega) (by omega)).mono ?_;rintro e w10 ⟨t, S, rfl, p10, b10, s10⟩;have HB10 := ae (HB9.out.trans (b10.mono HB9.out.size));have HQ10 := ae (aC HQ9 b10);have HG10 := ae (aC HG9 b10);have HS10 := ae (aq HS9 b10.size);have HJ10 := ae (C.below HJ9 b10);have HP10 := ae p10;have HSS := ae s10;clear p10 b10 s10;refine aR ?_;refine runs 3 ?_;refine aF 2 ?_;go_upto_region 16 with fail;refine af ?_;refine akj (dm (c := neR i 6) rfl akt (aQ HG10)) ?_;refine ay rfl (aB call20 rfl (evc akt (evc evk evn))) ?_;refine (zG (N := i) (T := 6) (room := 6) (r := 40) w10 HGB (by omega) (by omega)).mono ?_;rintro e w11 ⟨r, S2, rfl, _, b11, _⟩;have HB11 := ae (HB10.out.trans (b11.mono HB10.out.size));have HQ11 := ae (aC HQ10 b11);have HG11 := ae (aC HG10 b11);have HS11 := ae (aq HS10 b11.size);have HJ11 := ae (C.below HJ10 b11);have HP11 := ae (D.below HP10 b11);clear b11;refine aR ?_;refine runs 3 ?_;refine aF 2 ?_;have ha := SAt.start (O := fun b => b = bp) HT HJ11 HP11 (fun b hb => aq HB3.out.size (HGG.out b hb).1) (fun b hb => aq HB9.out.size (HSS.out b hb)) (fun b hb hs => by have h1 := (HGG.out b hb).2; have h2 := HSS.out b hs; have h3 := HS89.out; omega) HB11 (fun b hb => by
   subst hb;have h1 := HPL.out;exact ⟨fun hg => by have := (HGG.out b hg).1; omega, fun hs => by have h2 := HSS.out b hs; have h3 := aU HQ9; omega, aU HQ11⟩)
  have hth := dY HQ11 (o := 0) (n := 5) (by decide);have HSA := ae (ha.mine (g := bp) rfl HGP ((Only.refl (fun b => b = bp) w11).setCells (b := bp) (.inl rfl) (fm t p q r p2) 0));have HRG := ae (World.rangeAt_setCells_same w11 bp 0 (fm t p q r p2) hth);have HTH := ae hth;clear ha hth;go_upto_region 17 with fail;refine aI 3 ?_;refine runs 2 ?_;refine akj (vP rfl akt akt akt akt akt) ?_;refine runs 1 ?_;refine akj (aH true rfl akt evk rfl) ?_;refine runs 2 ?_;refine akq (aH true rfl akt evk rfl) ?_;refine runs 3 ?_;refine akq (aH true rfl akt evk rfl) ?_;refine runs 3 ?_;refine akq (aH true rfl akt evk rfl) ?_;refine runs 1 ?_;refine aG rfl (f6 (cs := fm t p q r p2) (by kernel_rfl) mE rfl (ev rfl) (ev rfl) HTH.out) ?_;simp only [aa];generalize w11.setCells bp 0 (fm t p q r p2) = w12 at *;refine aF 1 ?_;go_wp2_with fail;exact bodyPost_ret (agY rfl _ _ _ rfl HRG underlying29 rfl (by kernel_rfl)) rfl ⟨t, p, q, r, p2, rfl, HSA.out.guard ak fun b e => e.elim⟩
def mZ (h : HuS) (m : Nat) : Int := if eI h.M m = 9 then (if nG h m 7 = 8 then 8 else 0) else (if eI h.M m = 8 then 8 else 0)
def iw (h : HuS) (m : Nat) : HuS := if eI h.M m = 9 then mB h m else { h with M := fL h.M m }
def mt : Nat -> Nat -> HuS -> Int × HuS
 |0, _, h => (0, h)
 |k + 1, m, h => if sta h.R m = 1 then mt k (m + 1) h else if mZ h m = 0 then mt k (m + 1) (iw h m) else (mZ h m, iw h m)
def kW (h : HuS) : Int × HuS := mt h.R.m.toNat 0 h
def oY (h : HuS) : Int := if eH h.R = true then 16 else if (kW h).1 = 0 then (if eH (kW h).2.R = true then 16 else 0) else (kW h).1
def iX (h : HuS) : HuS := if eH h.R = true then h else (kW h).2
def afo (h : HuS) (m : Nat) : Prop := eI h.M m = 9 -> fT (kE h m) = 0
def qh : Nat -> Nat -> HuS -> Prop
 |0, _, _ => True
 |k + 1, m, h => (sta h.R m = 1 -> qh k (m + 1) h) /\ (sta h.R m ≠ 1 -> HRm h /\ afo h m /\ (mZ h m = 0 -> qh k (m + 1) (iw h m)))
section
variable {h : HuS} {k m : Nat}
theorem HR.fls (h' : HR (k + 1) h) (hm : m < h.R.m.toNat) : HR k (iw h m) /\ fq h.R (iw h m).R /\ (iw h m).id = h.id := by
 unfold iw
 split
 ·exact h'.ded m
 ·exact ⟨⟨yT (cM h'.rm (by omega)) _, by have := h'.ev; show h.ev + _ <= _; omega, h'.fine, h'.lit.keep (yf h'.lit.left h'.lit.cq (by have := h'.lit.len; omega)) rfl⟩, fq.refl h'.fine, rfl⟩
theorem HR.ajz (h' : HR k h) (m : Nat) : afo h m := fun _ => (qm (h := kE h m) (fq.los h'.fine (m : Int)).fine (h'.lit.keep (ii.refl _) (fq.los h'.fine (m : Int)).m)).1
theorem oJ : ∀ (n m : Nat) (h : HuS), m + n = h.R.m.toNat -> HR (k + n) h -> qh n m h /\ HR k (mt n m h).2 /\ fq h.R (mt n m h).2.R /\ (mt n m h).2.id = h.id
 |0, m, h, _, h' => ⟨trivial, h', fq.refl h'.fine, rfl⟩
 |n + 1, m, h, hn, h' => by
  rw [mt, qh];by_cases e : sta h.R m = 1
  ·rw [if_pos e];obtain ⟨j1, j2⟩ := oJ n (m + 1) h (by omega) (h'.less (by omega));exact ⟨⟨fun _ => j1, fun x => absurd e x⟩, j2⟩
  ·rw [if_neg e];obtain ⟨k1, k2, k3⟩ := HR.fls (k := k + n) h' (m := m) (by omega);by_cases e2 : mZ h m = 0
   ·rw [if_pos e2];obtain ⟨j1, j2, j3, j4⟩ := oJ n (m + 1) (iw h m) (by rw [k2.m]; omega) k1;exact ⟨⟨fun x => absurd x e, fun _ => ⟨HR.hrm (k := k + n) h', HR.ajz h' m, fun _ => j1⟩⟩, j2, k2.trans j3, j4.trans k3⟩
   ·rw [if_neg e2];exact ⟨⟨fun x => absurd x e, fun _ => ⟨HR.hrm (k := k + n) h', HR.ajz h' m, fun x => absurd x e2⟩⟩, k1.less (by omega), k2, k3⟩
theorem HR.hfl (h' : HR (k + 16) h) : qh h.R.m.toNat 0 h /\ HR k (iX h) /\ fq h.R (iX h).R /\ (iX h).id = h.id := by
 have hm := lD h'.fine;obtain ⟨j1, j2⟩ := oJ (k := k) h.R.m.toNat 0 h (by omega) (h'.less (by omega));refine ⟨j1, ?_⟩;unfold iX
 split
 ·exact ⟨h'.less (by omega), fq.refl h'.fine, rfl⟩
 ·exact j2
end
def aka (x : jf) (n : Nat) : Blk := gD x.L (n : Int) (x.S.getD n aJ)
def vwM (M : aV) (j n : Nat) : Blk := aka (M.ds.getD j bF) n
def suM (M : aV) (j n : Nat) : Blk := (M.ds.getD j bF).S.getD n aJ
theorem tP : ∀ (L : List (Int × Blk)) (S : List Blk) (n : Nat), (∀ q ∈ L, 0 <= q.1) -> n < S.length -> (flS S L).getD n aJ = gD L (n : Int) (S.getD n aJ)
 |[], S, n, _, _ => rfl
 |q :: L, S, n, hq, hn => by
  have h0 := hq q (List.mem_cons_self ..);have e : flS S (q :: L) = flS (S.set q.1.toNat q.2) L := rfl;have e2 : gD (q :: L) (n : Int) (S.getD n aJ) = gD L (n : Int) (if q.1 = (n : Int) then q.2 else S.getD n aJ) := rfl;rw [e, e2, tP L _ n (fun x hx => hq x (List.mem_cons_of_mem _ hx)) (by rw [List.length_set]; exact hn)]
  congr 1
  by_cases hk : q.1.toNat < S.length
  ·rw [xF _ _ _ _ _ hk];by_cases e3 : n = q.1.toNat
   ·rw [if_pos e3, if_pos (by omega)]
   ·rw [if_neg e3, if_neg (by omega)]
  ·rw [List.set_eq_of_length_le (by omega), if_neg (by omega)]
theorem wJ (L : List (Int × Blk)) (q : Int × Blk) (n : Int) (b : Blk) : gD (L ++ [q]) n b = if q.1 = n then q.2 else gD L n b := by
 unfold gD;rw [List.foldl_append]
 rfl
structure Alv (M : aV) (m : Nat) : Prop where
 cq : M.cq = false
 left : M.left = 0
 lt : m < M.ds.length
 g : (M.ds.getD m bF).g = false
 lo : ∀ q ∈ (M.ds.getD m bF).L, 0 <= q.1
structure Kp (M M' : aV) : Prop where
 cq : M'.cq = M.cq
 left : M.left = 0 -> M'.left = 0
 len : M'.ds.length = M.ds.length
 sl : ∀ j, (M'.ds.getD j bF).S.length = (M.ds.getD j bF).S.length
 gs : ∀ j, (M'.ds.getD j bF).g = (M.ds.getD j bF).g
 lo : ∀ j, (∀ q ∈ (M.ds.getD j bF).L, 0 <= q.1) -> ∀ q ∈ (M'.ds.getD j bF).L, 0 <= q.1
 tel : ∀ j n, 2 <= n -> n < (M.ds.getD j bF).S.length -> (∀ q ∈ (M.ds.getD j bF).L, 0 <= q.1) -> vwM M' j n = vwM M j n /\ (suM M j n = vwM M j n -> suM M' j n = vwM M j n)
section
variable {M M' M3 : aV} {m j n id ev : Nat} {R : Ros} {b : Blk} {h : HuS} {d : Nat}
theorem Kp.refl (M : aV) : Kp M M := ⟨rfl, fun e => e, rfl, fun _ => rfl, fun _ => rfl, fun _ e => e, fun _ _ _ _ _ => ⟨rfl, fun e => e⟩⟩
theorem Kp.trans (h : Kp M M') (g : Kp M' M3) : Kp M M3 := by
 refine ⟨g.cq.trans h.cq, fun e => g.left (h.left e), g.len.trans h.len, fun j => (g.sl j).trans (h.sl j), fun j => (g.gs j).trans (h.gs j), fun j e => g.lo j (h.lo j e), fun j n h2 hn hl => ?_⟩;obtain ⟨a1, a2⟩ := h.tel j n h2 hn hl;obtain ⟨b1, b2⟩ := g.tel j n h2 (by rw [h.sl j]; exact hn) (h.lo j hl);refine ⟨b1.trans a1, fun e => ?_⟩;rw [<- a1];exact b2 (by rw [a1]; exact a2 e)
theorem Alv.keep (a : Alv M m) (k : Kp M M') : Alv M' m := ⟨k.cq.trans a.cq, k.left a.left, by rw [k.len]; exact a.lt, (k.gs m).trans a.g, k.lo m a.lo⟩
theorem Alv.rd (a : Alv M m) (hn : n < (M.ds.getD m bF).S.length) : dr M m n = 0 := by
 rw [mJ a.cq a.lt hn, a.g]
 rfl
theorem eJ (M : aV) (x : jf) (hm : m < M.ds.length) (j : Nat) : (M.done.put m x).ds.getD j bF = if j = m then x else M.ds.getD j bF := xF _ _ _ _ _ hm
theorem Alv.wr (a : Alv M m) (hn : n < (M.ds.getD m bF).S.length) (b : Blk) : eG M m n = 0 /\ dW M m n b = M.done.put m ⟨(M.ds.getD m bF).S, (M.ds.getD m bF).L ++ [((n : Int), b)], false⟩ := by
 have r := a.rd hn;have hs : M.fo = 0 := by unfold aV.fo; rw [a.left]; rfl
 constructor
 ·unfold eG; rw [if_pos r, hs]
 ·unfold dW;rw [if_pos r, if_neg (by rw [a.left]; omega)]
  show M.done.put m ⟨(M.ds.getD m bF).S, wrL (M.ds.getD m bF).S (M.ds.getD m bF).L (M.ds.getD m bF).g (n : Int) b, (M.ds.getD m bF).g⟩ = _
  rw [a.g];unfold wrL;rw [if_pos (mm ⟨by omega, by omega⟩)]
theorem Alv.fl (a : Alv M m) : eI M m = 0 /\ fL M m = M.done.put m ⟨flS (M.ds.getD m bF).S (M.ds.getD m bF).L, [], false⟩ := by
 have r : iT M m = 0 := by
  unfold iT;rw [if_pos (lZ a.cq a.lt)]
  show (if (M.ds.getD m bF).g = true then (9 : Int) else 0) = 0
  rw [a.g]
  rfl
 have hs : M.fo = 0 := by unfold aV.fo; rw [a.left]; rfl
 constructor
 ·unfold eI; rw [if_pos r, hs]
 ·unfold fL;rw [if_pos r, if_neg (by rw [a.left]; omega)]
  show M.done.put m ⟨flS (M.ds.getD m bF).S (M.ds.getD m bF).L, [], (M.ds.getD m bF).g⟩ = _
  rw [a.g]
theorem Alv.agd (a : Alv M m) (hn : n < (M.ds.getD m bF).S.length) (b : Blk) (j k : Nat) : vwM (dW M m n b) j k = if j = m /\ k = n then b else vwM M j k := by
 unfold vwM;rw [(a.wr hn b).2, eJ M _ a.lt j];by_cases e : j = m
 ·subst e;rw [if_pos rfl]
  show gD (_ ++ [((n : Int), b)]) (k : Int) _ = _
  rw [wJ];by_cases e2 : k = n
  ·subst e2; rw [if_pos rfl, if_pos ⟨rfl, rfl⟩]
  ·rw [if_neg (by show ¬ (n : Int) = k; omega), if_neg fun x => e2 x.2]; rfl
 ·rw [if_neg e, if_neg fun x => e x.1]
theorem Alv.ai7 (a : Alv M m) (hn : n < (M.ds.getD m bF).S.length) (h2 : n < 2) (b : Blk) : Kp M (dW M m n b) := by
 have e := (a.wr hn b).2;refine ⟨?_, fun _ => ?_, ?_, fun j => ?_, fun j => ?_, fun j hl => ?_, fun j k hk _ _ => ?_⟩
 ·rw [e]; rfl
 ·rw [e]; show M.left - 1 = 0; rw [a.left]
 ·rw [e]; exact List.length_set
 ·rw [e, eJ M _ a.lt j]; split
  ·rename_i x; subst x; rfl
  ·rfl
 ·rw [e, eJ M _ a.lt j]; split
  ·rename_i x; subst x; exact a.g.symm
  ·rfl
 ·rw [e, eJ M _ a.lt j]; split
  ·rename_i x; subst x
   intro q hq;rcases List.mem_append.1 hq with y | y
   ·exact hl q y
   ·rw [List.mem_singleton.1 y]; show (0 : Int) <= (n : Int); omega
  ·exact hl
 ·refine ⟨?_, fun x => ?_⟩
  ·rw [a.agd hn b j k, if_neg fun x => by omega]
  ·rw [<- x]; unfold suM; rw [e, eJ M _ a.lt j]; split
   ·rename_i y; subst y; rfl
   ·rfl
theorem Alv.agv (a : Alv M m) : Kp M (fL M m) /\ ∀ k, k < (M.ds.getD m bF).S.length -> suM (fL M m) m k = vwM M m k := by
 have e := a.fl.2;have hv : ∀ k, k < (M.ds.getD m bF).S.length -> suM (fL M m) m k = vwM M m k := fun k hk => by
  unfold suM;rw [e, eJ M _ a.lt m, if_pos rfl];exact tP _ _ k a.lo hk
 refine ⟨⟨?_, fun _ => ?_, ?_, fun j => ?_, fun j => ?_, fun j hl => ?_, fun j k hk hn hl => ?_⟩, hv⟩
 ·rw [e]; rfl
 ·rw [e]; show M.left - 1 = 0; rw [a.left]
 ·rw [e]; exact List.length_set
 ·rw [e, eJ M _ a.lt j]; split
  ·rename_i x; subst x; exact nW _ _
  ·rfl
 ·rw [e, eJ M _ a.lt j]; split
  ·rename_i x; subst x; exact a.g.symm
  ·rfl
 ·rw [e, eJ M _ a.lt j]; split
  ·intro q hq; cases hq
  ·exact hl
 ·by_cases x : j = m
  ·subst x;refine ⟨?_, fun _ => hv k hn⟩;rw [<- hv k hn];unfold vwM suM;rw [e, eJ M _ a.lt j, if_pos rfl]
   rfl
  ·have e3 : (fL M m).ds.getD j bF = M.ds.getD j bF := by rw [e, eJ M _ a.lt j, if_neg x]
   unfold vwM suM;rw [e3];exact ⟨rfl, fun y => y⟩
theorem Alv.put (a : Alv M m) (h2 : 2 <= (M.ds.getD m bF).S.length) : dF id ev R M m = 0 /\ Kp M (eg id ev R M m) := by
 have r0 : dr M m 0 = 0 := a.rd (n := 0) (by omega);have r1 : dr M m 1 = 0 := a.rd (n := 1) (by omega);have hl := acB (gF M m 0) (gF M m 1);obtain ⟨n, hn⟩ : ∃ n, mD (gF M m 0) (gF M m 1) = n := ⟨_, rfl⟩;rw [hn] at hl;have hT : sY id ev R M m = [.wr (n : Int) (gC ev ⟨id, m, R⟩), .fl] := by unfold sY; rw [hn]
 have k1 := a.ai7 (n := n) (by omega) hl (gC ev ⟨id, m, R⟩);have a1 := a.keep k1;have e1 : rU m M (.wr (n : Int) (gC ev ⟨id, m, R⟩)) = 0 := (a.wr (n := n) (by omega) aJ).1;have e2 : rU m (sP m M (.wr (n : Int) (gC ev ⟨id, m, R⟩))) .fl = 0 := a1.fl.1
 constructor
 ·unfold dF;rw [if_pos r0, if_pos r1, hT, (go_ok e1).1, (go_ok e2).1]
  rfl
 ·unfold eg;rw [if_pos ⟨r0, r1⟩, hT, (go_ok e1).2, (go_ok e2).2];exact k1.trans a1.agv.1
theorem rW : ∀ (k m : Nat) (M : aV), (∀ j, m <= j -> j < m + k -> sta R j ≠ 1 -> Alv M j /\ 2 <= (M.ds.getD j bF).S.length) -> ∃ M', dn id ev R k m M = (none, 0, M') /\ Kp M M'
 |0, m, M, _ => ⟨M, rfl, Kp.refl M⟩
 |k + 1, m, M, h => by
  by_cases e : sta R m = 1
  ·obtain ⟨M', h1, h2⟩ := rW k (m + 1) M fun j a b => h j (by omega) (by omega)
   exact ⟨M', by rw [pa e]; exact h1, h2⟩
  ·obtain ⟨a, l⟩ := h m aj (by omega) e;obtain ⟨p1, p2⟩ := a.put (id := id) (ev := ev) (R := R) l;obtain ⟨M', h1, h2⟩ := rW k (m + 1) (eg id ev R M m) fun j x y z => by
    obtain ⟨b1, b2⟩ := h j (by omega) (by omega) z;exact ⟨b1.keep p2, by rw [p2.sl j]; exact b2⟩
   exact ⟨M', by rw [ox e p1]; exact h1, p2.trans h2⟩
theorem aec (h : HuS) (hl : ∀ j, j < h.R.m.toNat -> sta h.R j ≠ 1 -> Alv h.M j /\ 2 <= (h.M.ds.getD j bF).S.length) : fT h = 0 /\ ∃ M', fk h = ⟨M', h.id, h.ev + 1, h.R⟩ /\ Kp h.M M' := by
 obtain ⟨M', h1, h2⟩ := rW (id := h.id) (ev := h.ev + 1) (R := h.R) h.R.m.toNat 0 h.M fun j _ b => hl j (by omega)
 unfold fT fk;rw [fe];simp only [h1];exact ⟨trivial, M', rfl, h2⟩
end
structure Lif (d N T : Nat) (h : HuS) : Prop where
 fine : aW h.R = true
 m : h.R.m = (N : Int)
 s : h.R.s = (T : Int)
 cq : h.M.cq = false
 left : h.M.left = 0
 len : N < h.M.ds.length
 sec : ∀ j, j < N -> (h.M.ds.getD j bF).S.length = 2 + T
 lo : ∀ j, j < N -> ∀ q ∈ (h.M.ds.getD j bF).L, 0 <= q.1
 g : ∀ j, j < N -> j ≠ d -> (h.M.ds.getD j bF).g = false
 st : ∀ j, j < N -> j ≠ d -> sta h.R j = 0
 sd : d < N -> sta h.R d = 0 \/ sta h.R d = 1
 gone : h.R.gone = false
theorem vd {l : List UInt8} {d : Nat} : ∀ {k : Nat}, (∀ j, j < k -> j ≠ d -> (bt l j : Int) = 0) -> sJ l k <= if d < k then 1 else 0
 |0, _ => by rw [if_neg (by omega)]; exact Nat.le_refl 0
 |k + 1, h => by
  rw [mx];have ih := vd (k := k) fun j hj hd => h j (by omega) hd
  by_cases e : k = d
  ·subst e;rw [if_neg (by omega)] at ih;rw [if_pos (show k < k + 1 by omega)]
   split <;> omega
  ·rw [if_pos (show bt l k = 0 from by have := h k (by omega) e; omega)]
   split at ih
   ·rw [if_pos (show d < k + 1 by omega)]; omega
   ·split <;> omega
theorem abu (R : Ros) (j : Int) : (dM R j).gone = R.gone := by unfold dM; split <;> (try split) <;> rfl
section
variable {d N T j n s m : Nat} {h h' : HuS} {b : Blk} {M' : aV}
theorem Lif.mN (a : Lif d N T h) : h.R.m.toNat = N := by rw [a.m]; rfl
theorem Lif.fai (a : Lif d N T h) : eH h.R = false := by
 have ho : outs h.R <= 1 := by
  rw [<- ace a.fine, a.mN];refine aq (vd (d := d) fun j hj hd => a.st j hj hd) ?_
  split <;> omega
 unfold eH;rw [decide_eq_false_iff_not];intro e;unfold stN at e;rw [if_pos a.fine, if_neg (by rw [a.gone]; rintro (x | ⟨_, x⟩); omega; cases x)] at e
 split at e
 ·omega
 ·split at e
  ·omega
  ·split at e <;> omega
theorem Lif.alv (a : Lif d N T h) (hj : j < N) (hg : (h.M.ds.getD j bF).g = false) : Alv h.M j := ⟨a.cq, a.left, Nat.lt_trans hj a.len, hg, a.lo j hj⟩
theorem Lif.keep (a : Lif d N T h) (k : Kp h.M M') : Lif d N T { h with M := M' } :=
 ⟨a.fine, a.m, a.s, k.cq.trans a.cq, k.left a.left, by show N < M'.ds.length; rw [k.len]; exact a.len, fun j hj => (k.sl j).trans (a.sec j hj), fun j hj => k.lo j (a.lo j hj), fun j hj hd => (k.gs j).trans (a.g j hj hd), a.st, a.sd, a.gone⟩
theorem Lif.ded (a : Lif d N T h) (hd : d < N) (h0 : sta h.R d = 0) : fT (kE h d) = 0 /\ Lif d N T (mB h d) /\ Kp h.M (mB h d).M /\ sta (mB h d).R d = 1 := by
 obtain ⟨l1, l2⟩ := sV a.fine (d := d) (by rw [a.mN]; exact hd) (by omega);have lk := fq.los a.fine (d : Int);have ls := lk.s;obtain ⟨e, M', h1, h2⟩ := aec (kE h d) fun j hj hs => by
  have hj' : j < N := by
   have : (dM h.R d).m.toNat = N := by rw [l1]; exact a.mN
   show j < N
   have hj2 : j < (dM h.R d).m.toNat := hj;omega
  have hjd : j ≠ d := fun x => hs (by show sta (dM h.R d) j = 1; rw [l2 j, if_pos x])
  exact ⟨a.alv hj' (a.g j hj' hjd), by show 2 <= (h.M.ds.getD j bF).S.length; rw [a.sec j hj']; omega⟩
 have e2 : mB h d = ⟨M', h.id, h.ev + 1, dM h.R d⟩ := h1;have a1 : Lif d N T ⟨h.M, h.id, h.ev + 1, dM h.R d⟩ :=
  ⟨lk.fine, l1.trans a.m, ls.trans a.s, a.cq, a.left, a.len, a.sec, a.lo, a.g, fun j hj hd => by show sta (dM h.R d) j = 0; rw [l2 j, if_neg hd]; exact a.st j hj hd, fun _ => .inr (by show sta (dM h.R d) d = 1; rw [l2 d, if_pos rfl]), (abu _ _).trans a.gone⟩
 rw [e2];exact ⟨e, a1.keep h2, h2, by show sta (dM h.R d) d = 1; rw [l2 d, if_pos rfl]⟩
theorem Lif.ajo (a : Lif d N T h) (hd : d < N) (h0 : sta h.R d = 0) (t : Int) : nG h d t = t := by
 obtain ⟨e, l, _⟩ := a.ded hd h0;unfold nG;rw [if_pos e, if_neg (by have := l.fai; show ¬ eH (mB h d).R = true; rw [this]; decide)]
theorem Lif.hwr (a : Lif d N T h) (hs : s < T) (hm : m < N) (b : Blk) : jZ h s m b = 0 /\ Lif d N T (fU h s m b) /\ ∀ j n, j < N -> j ≠ d -> n < T -> vwM (fU h s m b).M j (2 + n) = if j = m /\ n = s then b else vwM h.M j (2 + n) := by
 have hp : nJ h.R s m = true := ao ⟨by omega, by rw [a.s]; omega, by omega, by rw [a.m]; omega⟩;have hf := a.fai;have hq : eQ h.R m = true := ao ⟨by omega, by rw [a.m]; omega⟩;have hc : kS h.R s = true := ao ⟨by omega, by rw [a.s]; omega⟩;by_cases h0 : sta h.R m = 0
 ·have hB : hasB h.R m s = true := by
   unfold hasB;rw [a.fine, hq, hc, Int.toNat_natCast, ao h0]
   rfl
  cases hg : (h.M.ds.getD m bF).g
  ·have v := a.alv hm hg;have hl : 2 + s < (h.M.ds.getD m bF).S.length := by rw [a.sec m hm]; omega
   obtain ⟨w1, w2⟩ := v.wr hl b;have ec : ((2 + s : Nat) : Int) = 2 + (s : Int) := by omega
   rw [ec] at w1 w2;have e1 : jZ h s m b = 0 := by
    unfold jZ;rw [if_pos hp, hf, if_neg (by decide), if_pos hB, if_neg (by rw [w1]; decide), w1]
   have e2 : fU h s m b = { h with M := dW h.M m (2 + s) b } := by
    unfold fU;rw [if_pos ⟨hp, hf, hB⟩, if_neg (by rw [w1]; decide)]
   have hv := v.agd hl b;rw [ec] at hv;refine ⟨e1, ?_, fun j n hj hd hn => ?_⟩
   ·rw [e2, w2];refine ⟨a.fine, a.m, a.s, a.cq, ?_, ?_, fun j hj => ?_, fun j hj => ?_, fun j hj hd => ?_, a.st, a.sd, a.gone⟩
    ·show h.M.left - 1 = 0; rw [a.left]
    ·show N < (h.M.ds.set m _).length; rw [List.length_set]; exact a.len
    ·show ((h.M.done.put m _).ds.getD j bF).S.length = _
     rw [eJ _ _ v.lt j]; split
     ·rename_i x; subst x; exact a.sec j hj
     ·exact a.sec j hj
    ·show ∀ q ∈ ((h.M.done.put m _).ds.getD j bF).L, _
     rw [eJ _ _ v.lt j]; split
     ·rename_i x; subst x
      intro q hq;rcases List.mem_append.1 hq with y | y
      ·exact a.lo j hj q y
      ·rw [List.mem_singleton.1 y]; show (0 : Int) <= ((2 + s : Nat) : Int); omega
     ·exact a.lo j hj
    ·show ((h.M.done.put m _).ds.getD j bF).g = _
     rw [eJ _ _ v.lt j]; split
     ·rfl
     ·exact a.g j hj hd
   ·rw [e2]
    show vwM (dW h.M m (2 + s) b) j (2 + n) = _
    rw [hv j (2 + n)];by_cases x : j = m /\ n = s
    ·rw [if_pos x, if_pos ⟨x.1, by omega⟩]
    ·rw [if_neg x, if_neg fun y => x ⟨y.1, by omega⟩]
  ·have hmd : m = d := Decidable.byContradiction fun x => by have := a.g m hm x; rw [hg] at this; cases this
   subst hmd;have h9 : eG h.M m (2 + (s : Int)) = 9 := by
    have r9 : dr h.M m ((2 + s : Nat) : Int) = 9 := by
     rw [mJ a.cq (Nat.lt_trans hm a.len) (by rw [a.sec m hm]; omega), hg]
     rfl
    have ec : ((2 + s : Nat) : Int) = 2 + (s : Int) := by omega
    rw [ec] at r9;unfold eG;rw [if_neg (by rw [r9]; decide), r9]
   obtain ⟨_, l, k, _⟩ := a.ded hm h0;have e1 : jZ h s m b = 0 := by
    unfold jZ;rw [if_pos hp, hf, if_neg (by decide), if_pos hB, if_pos h9, Int.toNat_natCast, a.ajo hm h0]
   have e2 : fU h s m b = mB h m := by
    unfold fU;rw [if_pos ⟨hp, hf, hB⟩, if_pos h9, Int.toNat_natCast]
   rw [e2];refine ⟨e1, l, fun j n hj hd hn => ?_⟩;rw [if_neg fun x => hd x.1];exact (k.tel j (2 + n) (by omega) (by rw [a.sec j hj]; omega) (a.lo j hj)).1
 ·have hmd : m = d := Decidable.byContradiction fun x => h0 (a.st m hm x)
  subst hmd;have h1 : sta h.R m = 1 := (a.sd hm).resolve_left h0;have hB : hasB h.R m s = false := by
   unfold hasB;rw [a.fine, hq, hc, Int.toNat_natCast, am h0, am (by omega)]
   rfl
  have e1 : jZ h s m b = 0 := by
   unfold jZ;rw [if_pos hp, hf, if_neg (by decide), if_neg (by rw [hB]; decide)]
  have e2 : fU h s m b = h := by
   unfold fU;rw [if_neg fun x => by rw [hB] at x; exact absurd x.2.2 (by decide)]
  rw [e2];exact ⟨e1, a, fun j n hj hd hn => by rw [if_neg fun x => hd x.1]⟩
theorem Lif.fls (a : Lif d N T h) (hm : m < N) (hs : sta h.R m ≠ 1) : mZ h m = 0 /\ Lif d N T (iw h m) /\ Kp h.M (iw h m).M /\ (m ≠ d -> ∀ n, n < T -> suM (iw h m).M m (2 + n) = vwM h.M m (2 + n)) := by
 cases hg : (h.M.ds.getD m bF).g
 ·have v := a.alv hm hg;obtain ⟨f1, f2⟩ := v.agv;have f0 := v.fl.1;unfold mZ iw;rw [if_neg (by rw [f0]; decide), if_neg (by rw [f0]; decide), if_neg (by rw [f0]; decide)];exact ⟨rfl, a.keep f1, f1, fun _ n hn => f2 (2 + n) (by rw [a.sec m hm]; omega)⟩
 ·have hmd : m = d := Decidable.byContradiction fun x => by have := a.g m hm x; rw [hg] at this; cases this
  subst hmd;have h0 : sta h.R m = 0 := (a.sd hm).resolve_right hs;have h9 : eI h.M m = 9 := by
   have r9 : iT h.M m = 9 := by
    unfold iT;rw [if_pos (lZ a.cq (Nat.lt_trans hm a.len))]
    show (if (h.M.ds.getD m bF).g = true then (9 : Int) else 0) = 9
    rw [hg]
    rfl
   unfold eI;rw [if_neg (by rw [r9]; decide), r9]
  obtain ⟨_, l, k, _⟩ := a.ded hm h0;unfold mZ iw;rw [if_pos h9, if_pos h9, a.ajo hm h0, if_neg (by decide)];exact ⟨rfl, l, k, fun x => absurd rfl x⟩
theorem Lif.hfl : ∀ (k m : Nat) (h : HuS), Lif d N T h -> m + k = N -> ∃ h', mt k m h = (0, h') /\ Lif d N T h' /\ Kp h.M h'.M /\ (∀ j n, m <= j -> j < N -> j ≠ d -> n < T -> suM h'.M j (2 + n) = vwM h.M j (2 + n))
 |0, m, h, a, _ => ⟨h, rfl, a, Kp.refl _, fun j n h1 h2 => absurd h1 (by omega)⟩
 |k + 1, m, h, a, hk => by
  rw [mt];by_cases e : sta h.R m = 1
  ·rw [if_pos e];obtain ⟨h', k1, k2, k3, k4⟩ := Lif.hfl k (m + 1) h a (by omega);refine ⟨h', k1, k2, k3, fun j n h1 h2 h3 h4 => ?_⟩;by_cases x : j = m
   ·subst x;have := a.st j h2 h3;omega
   ·exact k4 j n (by omega) h2 h3 h4
  ·rw [if_neg e];obtain ⟨f1, f2, f3, f4⟩ := a.fls (m := m) (by omega) e;rw [if_pos f1];obtain ⟨h', k1, k2, k3, k4⟩ := Lif.hfl k (m + 1) (iw h m) f2 (by omega);refine ⟨h', k1, k2, f3.trans k3, fun j n h1 h2 h3 h4 => ?_⟩;have t1 := f3.tel j (2 + n) (by omega) (by rw [a.sec j h2]; omega) (a.lo j h2);by_cases x : j = m
   ·subst x;have t2 := k3.tel j (2 + n) (by omega) (by rw [f2.sec j h2]; omega) (f2.lo j h2);rw [<- t1.1];exact t2.2 (by rw [t1.1]; exact f4 h3 n h4)
   ·rw [k4 j n (by omega) h2 h3 h4];exact t1.1
theorem Lif.flush (a : Lif d N T h) : oY h = 0 /\ Lif d N T (iX h) /\ ∀ j n, j < N -> j ≠ d -> n < T -> suM (iX h).M j (2 + n) = vwM h.M j (2 + n) := by
 obtain ⟨h', k1, k2, k3, k4⟩ := Lif.hfl N 0 h a (by omega);have e : kW h = (0, h') := by unfold kW; rw [a.mN]; exact k1
 have hf := a.fai;have e1 : oY h = 0 := by
  unfold oY;rw [hf, if_neg (show ¬ (false = true) by decide), e]
  show (if (0 : Int) = 0 then (if eH h'.R = true then (16 : Int) else 0) else 0) = 0
  rw [if_pos rfl, k2.fai]
  rfl
 have e2 : iX h = h' := by
  unfold iX;rw [hf, if_neg (show ¬ (false = true) by decide), e]
 rw [e1, e2];exact ⟨rfl, k2, fun j n hj hd hn => k4 j n (by omega) hj hd hn⟩
end
def fK : List c8 -> HuS -> Int × HuS
 |[], h => (0, h)
 |c :: l, h => if jZ h c.n c.m c.b = 0 then fK l (fU h c.n c.m c.b) else (jZ h c.n c.m c.b, fU h c.n c.m c.b)
def ir (h : HuS) (s : ShS) (n : Int) : Int × HuS × ShS :=
 if s.str n = true then (if (fK (dj s n) h).1 = 0 then (0, (fK (dj s n) h).2, dL s n) else ((fK (dj s n) h).1, (fK (dj s n) h).2, s)) else (2, h, s)
def oI : List Int -> HuS -> ShS -> Int × HuS × ShS
 |[], h, s => (oY h, iX h, s)
 |n :: l, h, s => if (ir h s n).1 = 0 then oI l (ir h s n).2.1 (ir h s n).2.2 else ir h s n
def zf (h : HuS) (s : ShS) : Int × HuS × ShS := oI s.cX h s
theorem uC : ∀ (l l2 : List c8) (h : HuS), fK (l ++ l2) h = if (fK l h).1 = 0 then fK l2 (fK l h).2 else fK l h
 |[], l2, h => by rw [fK, if_pos rfl]; rfl
 |c :: l, l2, h => by
  rw [List.cons_append, fK, fK];by_cases e : jZ h c.n c.m c.b = 0
  ·rw [if_pos e, if_pos e]; exact uC l l2 _
  ·rw [if_neg e, if_neg e, if_neg e]
section
variable {d N T n : Nat} {h h' : HuS} {s s0 : ShS} {x : LnS}
theorem Lif.cells (a : Lif d N T h) (hn : n < T) : ∀ k, k <= N -> ∃ h', fK (nC (n : Int) x k) h = (0, h') /\ Lif d N T h' /\ ∀ j n', j < N -> j ≠ d -> n' < T -> vwM h'.M j (2 + n') = if n' = n /\ j < k /\ (da x j).dt = true then (da x j).b else vwM h.M j (2 + n')
 |0, _ => ⟨h, rfl, a, fun j n' _ _ _ => by rw [if_neg fun e => by omega]⟩
 |k + 1, hk => by
  obtain ⟨h1, e1, a1, v1⟩ := Lif.cells a hn k (by omega);rw [nC, uC, e1, if_pos rfl];by_cases hd : (da x k).dt = true
  ·rw [if_pos hd];obtain ⟨w1, w2, w3⟩ := a1.hwr hn (show k < N by omega) (da x k).b;refine ⟨fU h1 n k (da x k).b, ?_, w2, fun j n' hj hjd hn' => ?_⟩
   ·show fK [⟨(n : Int), (k : Int), (da x k).b⟩] h1 = _
    rw [fK, if_pos w1]
    rfl
   ·rw [w3 j n' hj hjd hn', v1 j n' hj hjd hn'];by_cases c : j = k /\ n' = n
    ·obtain ⟨rfl, rfl⟩ := c;rw [if_pos ⟨rfl, rfl⟩, if_pos ⟨rfl, by omega, hd⟩]
    ·rw [if_neg c];by_cases c2 : n' = n /\ j < k /\ (da x j).dt = true
     ·rw [if_pos c2, if_pos ⟨c2.1, by omega, c2.2.2⟩]
     ·rw [if_neg c2, if_neg fun y => c2 ⟨y.1, by have := y.2.1; rcases Nat.lt_or_ge j k with z | z; exact z; exact absurd ⟨by omega, y.1⟩ c, y.2.2⟩]
  ·rw [if_neg hd];refine ⟨h1, rfl, a1, fun j n' hj hjd hn' => ?_⟩;rw [v1 j n' hj hjd hn'];by_cases c2 : n' = n /\ j < k /\ (da x j).dt = true
   ·rw [if_pos c2, if_pos ⟨c2.1, by omega, c2.2.2⟩]
   ·rw [if_neg c2, if_neg fun y => c2 ⟨y.1, by have := y.2.1; rcases Nat.lt_or_ge j k with z | z; exact z; exact absurd (show j = k by omega) fun q => hd (by rw [<- q]; exact y.2.2), y.2.2⟩]
theorem ah1 (s : ShS) (n j : Nat) (hn : n < s.T) : (dL s (n : Int)).dty j = (if j = n then false else s.dty j) /\ (j ≠ n -> (dL s (n : Int)).ln j = s.ln j) /\ (dL s (n : Int)).T = s.T /\ (dL s (n : Int)).N = s.N := by
 have hs : s.str (n : Int) = true := ao ⟨by omega, by omega⟩;unfold dL;by_cases e : s.str (n : Int) = true /\ (s.ln (n : Int).toNat).isSome = true
 ·rw [if_pos e, Int.toNat_natCast];refine ⟨?_, fun hj => if_neg hj, rfl, rfl⟩;by_cases c : j = n
  ·subst c;rw [if_pos rfl];rw [jt (x := fV (s.ch j)) (if_pos rfl)];unfold kv;rw [x7]
   rfl
  ·rw [if_neg c];exact lv (if_neg c)
 ·rw [if_neg e];refine ⟨?_, fun _ => rfl, rfl, rfl⟩;by_cases c : j = n
  ·subst c;rw [if_pos rfl];refine lT ?_;cases hl : s.ln j with
   |none => rfl
   |some y => exact absurd ⟨hs, by rw [Int.toNat_natCast, hl]; rfl⟩ e
  ·rw [if_neg c]
theorem x9 (q : Nat -> Bool) : ∀ k, (mY q k).Nodup
 |0 => List.nodup_nil
 |k + 1 => by
  have ih := x9 q k;rw [mY]
  split
  ·refine List.nodup_append.2 ⟨ih, by simp, fun a ha b hb e => ?_⟩;obtain ⟨j, rfl, hj, _⟩ := gp.1 ha;simp at hb;omega
  ·rw [List.append_nil]; exact ih
theorem Lif.oE (a : Lif d N T h) (hN : s.N = N) (hT : s.T = T) (hn : n < T) : ∃ h', ir h s n = (0, h', dL s n) /\ Lif d N T h' /\ ∀ j n', j < N -> j ≠ d -> n' < T -> vwM h'.M j (2 + n') = if n' = n /\ (da (s.ch n) j).dt = true then (da (s.ch n) j).b else vwM h.M j (2 + n') := by
 have hs : s.str (n : Int) = true := ao ⟨by omega, by omega⟩;obtain ⟨h', e, l, v⟩ := a.cells (x := s.ch n) hn N aj;have ec : dj s n = nC n (s.ch n) N := by unfold dj; rw [if_pos hs, hN]; rfl
 refine ⟨h', ?_, l, fun j n' hj hd hn' => ?_⟩
 ·unfold ir;rw [if_pos hs, ec, e, if_pos rfl]
 ·rw [v j n' hj hd hn'];by_cases c : n' = n /\ (da (s.ch n) j).dt = true
  ·rw [if_pos c, if_pos ⟨c.1, hj, c.2⟩]
  ·rw [if_neg c, if_neg fun y => c ⟨y.1, y.2.2⟩]
theorem Lif.all : ∀ (l : List Int) (h : HuS) (s : ShS), Lif d N T h -> s.N = N -> s.T = T -> l.Nodup -> (∀ n ∈ l, ∃ k : Nat, n = (k : Int) /\ k < T) -> (∀ k : Nat, (k : Int) ∈ l -> s.ch k = s0.ch k) ->
  ∃ h' s', oI l h s = (0, h', s') /\ Lif d N T h' /\ s'.T = s.T /\ (∀ k : Nat, s'.dty k = if (k : Int) ∈ l then false else s.dty k) /\ ∀ j n', j < N -> j ≠ d -> n' < T -> suM h'.M j (2 + n') = if (n' : Int) ∈ l /\ (da (s0.ch n') j).dt = true then (da (s0.ch n') j).b else vwM h.M j (2 + n')
 |[], h, s, a, hN, hT, _, _, _ => by
  obtain ⟨f1, f2, f3⟩ := a.flush;refine ⟨iX h, s, by rw [oI, f1], f2, rfl, fun k => by rw [if_neg (by simp)], fun j n' hj hd hn => ?_⟩;rw [if_neg (by simp)];exact f3 j n' hj hd hn
 |n :: l, h, s, a, hN, hT, hnd, hl, hs => by
  obtain ⟨k, rfl, hk⟩ := hl n (List.mem_cons_self ..);obtain ⟨h1, e1, a1, v1⟩ := a.oE (s := s) hN hT hk;obtain ⟨hnl, hnd2⟩ := List.nodup_cons.1 hnd;have c := fun j => ah1 s k j (by omega)
  obtain ⟨h', s', r1, r2, r3, r4, r5⟩ := Lif.all l h1 (dL s k) a1 ((c 0).2.2.2.trans hN) ((c 0).2.2.1.trans hT) hnd2 (fun n hn => hl n (List.mem_cons_of_mem _ hn)) fun j hj => by
   have hjk : j ≠ k := fun x => hnl (by rw [<- x]; exact hj)
   rw [<- hs j (List.mem_cons_of_mem _ hj)];unfold ShS.ch;rw [(c j).2.1 hjk, (c j).2.2.2]
  refine ⟨h', s', ?_, r2, r3.trans (c 0).2.2.1, fun j => ?_, fun j n' hj hd hn => ?_⟩
  ·rw [oI, e1, if_pos rfl];exact r1
  ·rw [r4 j, (c j).1];by_cases x : j = k
   ·subst x;rw [if_pos rfl, if_pos (List.mem_cons_self ..)]
    split <;> rfl
   ·rw [if_neg x];by_cases y : (j : Int) ∈ l
    ·rw [if_pos y, if_pos (List.mem_cons_of_mem _ y)]
    ·rw [if_neg y, if_neg fun z => by rcases List.mem_cons.1 z with z | z; omega; exact y z]
  ·rw [r5 j n' hj hd hn, v1 j n' hj hd hn];by_cases y : (n' : Int) ∈ l /\ (da (s0.ch n') j).dt = true
   ·rw [if_pos y, if_pos ⟨List.mem_cons_of_mem _ y.1, y.2⟩]
   ·rw [if_neg y];by_cases z : n' = k
    ·subst z;have e3 := hs n' (List.mem_cons_self ..);rw [e3];by_cases w : (da (s0.ch n') j).dt = true
     ·rw [if_pos ⟨rfl, w⟩, if_pos ⟨List.mem_cons_self .., w⟩]
     ·rw [if_neg fun q => w q.2, if_neg fun q => w q.2]
    ·rw [if_neg fun q => z q.1, if_neg fun q => by rcases List.mem_cons.1 q.1 with u | u; omega; exact y ⟨u, q.2⟩]
theorem uY {c : c8} : ∀ {k : Nat}, c ∈ nC (n : Int) x k -> c.n = (n : Int) /\ ∃ i : Nat, i < k /\ c.m = (i : Int) /\ (da x i).dt = true /\ c.b = (da x i).b
 |0, h => by cases h
 |k + 1, h => by
  rw [nC] at h;rcases List.mem_append.1 h with e | e
  ·obtain ⟨e1, i, e2, e3⟩ := uY e;exact ⟨e1, i, by omega, e3⟩
  ·split at e
   ·rename_i hd
    rw [List.mem_singleton.1 e];exact ⟨rfl, k, by omega, rfl, hd, rfl⟩
   ·cases e
theorem Lif.home (a : Lif d N T h) (hok : bW s) (hN : s.N = N) (hT : s.T = T) : ∃ h' s', zf h s = (0, h', s') /\ Lif d N T h' /\ s'.cX = [] /\ ∀ n, n < T -> ∀ c ∈ dj s n, ∃ i : Nat, c.n = (n : Int) /\ c.m = (i : Int) /\ i < N /\ (i ≠ d -> suM h'.M i (2 + n) = c.b) := by
 obtain ⟨h', s', r1, r2, r3, r4, r5⟩ := Lif.all (s0 := s) s.cX h s a hN hT (x9 _ _) (fun n hn => by
  obtain ⟨j, e, hj, _⟩ := gp.1 hn;exact ⟨j, e, by omega⟩) fun _ _ => rfl
 refine ⟨h', s', r1, r2, ?_, fun n hn c hc => ?_⟩
 ·refine List.eq_nil_iff_forall_not_mem.2 fun y hy => ?_
  obtain ⟨j, e, hj, hd⟩ := gp.1 hy;rw [r4 j] at hd;by_cases x : (j : Int) ∈ s.cX
  ·rw [if_pos x] at hd; cases hd
  ·rw [if_neg x] at hd;exact x (ShS.kN.2 ⟨by omega, hd⟩)
 ·have hs : s.str (n : Int) = true := ao ⟨by omega, by omega⟩;have ec : dj s n = nC n (s.ch n) N := by unfold dj; rw [if_pos hs, hN]; rfl
  rw [ec] at hc;obtain ⟨e1, i, hi, e2, hd, e3⟩ := uY hc;refine ⟨i, e1, e2, hi, fun hne => ?_⟩;have hl := (hok.line n).2;have hdt : kv (s.ch n) = true := pm hd (by rw [hl, hN]; exact hi);rw [r5 i n hi hne hn, if_pos ⟨ShS.kN.2 ⟨by omega, by rw [<- qc]; exact hdt⟩, hd⟩, e3]
end
section
variable {k N T d : Nat} {h : HuS} {s : ShS}
theorem HR.wrs : ∀ (l : List c8) (h : HuS), HR (k + l.length) h -> HR k (fK l h).2
 |[], h, h' => h'
 |c :: l, h, h' => by
  have g := (HR.hwr (k := k + l.length) h' c.n c.m c.b).1;rw [fK]
  split
  ·exact HR.wrs l _ g
  ·exact g.less (by omega)
theorem n9 (n : Int) (x : LnS) : ∀ i, (nC n x i).length <= i
 |0 => Nat.le_refl 0
 |i + 1 => by
  have := n9 n x i;rw [nC, List.length_append]
  split <;> simp <;> omega
theorem HR.bks (h' : HR (k + 16) h) (hok : bW s) (n : Int) : HR k (ir h s n).2.1 := by
 have hl : (dj s n).length <= 16 := by
  unfold dj
  split
  ·have := n9 n (s.ch n.toNat) s.N;have := hok.n16;omega
  ·exact Nat.zero_le _
 have g := HR.wrs (k := k) (dj s n) h (h'.less (by omega));unfold ir
 split
 ·split <;> exact g
 ·exact h'.less (by omega)
theorem xT (N : Nat) (s : Int) (j : Nat) : sta (neR N s) j = 0 := by
 have e : (neR N s).st.toList = List.replicate 16 0 := rfl;unfold sta;rw [e];unfold bt;by_cases h : j < 16
 ·obtain ⟨i, rfl⟩ : ∃ i : Fin 16, i.val = j := ⟨⟨j, h⟩, rfl⟩
  revert i
  decide
 ·simp [List.getD, h]
theorem Lif.new (h1 : 3 <= N) (h2 : N <= 16) (h3 : 1 <= T) (h4 : T <= 64) (d id : Nat) : Lif d N T ⟨fg (szK N T), id, 0, neR N T⟩ where
 fine := ka h1 h2 (by omega) (by omega)
 m := rfl
 s := rfl
 cq := rfl
 left := rfl
 len := by show N < (fg (szK N T)).ds.length; rw [lQ]; omega
 sec := fun j hj => by show ((fg (szK N T)).ds.getD j bF).S.length = _; rw [lI hj]; simp; omega
 lo := fun j hj => by show ∀ q ∈ ((fg (szK N T)).ds.getD j bF).L, 0 <= q.1; rw [lI hj]; intro q hq; cases hq
 g := fun j hj _ => by show ((fg (szK N T)).ds.getD j bF).g = false; rw [lI hj]
 st := fun j _ _ => xT N T j
 sd := fun _ => .inl (xT N T d)
 gone := rfl
theorem Lif.fail (a : Lif d N T h) : Lif d N T { h with M := js h.M d } := by
 have hk := ym h.M d;have he : (js h.M d = h.M \/ (d < h.M.ds.length /\ js h.M d = h.M.put d ⟨(h.M.ds.getD d bF).S, [], true⟩)) := by
  unfold js
  split
  ·rename_i e
   rcases jH h.M d with ⟨e', _⟩ | ⟨_, j, ej, hj⟩
   ·omega
   ·exact .inr ⟨by omega, rfl⟩
  ·exact .inl rfl
 have at_ : ∀ j, j ≠ d -> (js h.M d).ds.getD j bF = h.M.ds.getD j bF := fun j hj => by
  rcases he with e | ⟨hl, e⟩
  ·rw [e]
  ·rw [e]
   show (h.M.ds.set d _).getD j bF = _
   rw [xF _ _ _ _ _ hl, if_neg hj]
 refine ⟨a.fine, a.m, a.s, hk.cq.trans a.cq, hk.left a.left, by show N < (js h.M d).ds.length; rw [hk.len]; exact a.len, fun j hj => (hk.sl j).trans (a.sec j hj), fun j hj => ?_, fun j hj hd => by show ((js h.M d).ds.getD j bF).g = _; rw [at_ j hd]; exact a.g j hj hd, a.st, a.sd, a.gone⟩
 show ∀ q ∈ ((js h.M d).ds.getD j bF).L, 0 <= q.1
 by_cases x : j = d
 ·subst x;rcases he with e | ⟨hl, e⟩
  ·rw [e]; exact a.lo j hj
  ·rw [e]
   show ∀ q ∈ ((h.M.ds.set j _).getD j bF).L, 0 <= q.1
   rw [xF _ _ _ _ _ hl, if_pos rfl];intro q hq;cases hq
 ·rw [at_ j x]; exact a.lo j hj
theorem Lif.sure {j n : Nat} (a : Lif d N T h) (hj : j < N) (hd : j ≠ d) (hn : n < T) : qE h.M j (2 + (n : Int)) = 0 /\ qD h.M j (2 + (n : Int)) = suM h.M j (2 + n) := by
 have ec : 2 + (n : Int) = ((2 + n : Nat) : Int) := by omega
 have hl : j < h.M.ds.length := Nat.lt_trans hj a.len;have hE : dN (h.M.ds.getD j bF).S (h.M.ds.getD j bF).g ((2 + n : Nat) : Int) = 0 := by rw [a.g j hj hd]; exact mm ⟨by omega, by rw [a.sec j hj]; omega⟩
 rw [ec];unfold qE qD;rw [if_pos (nM hl), if_pos (nM hl)];exact ⟨hE, tX hE⟩
end
structure abg (C : eN) (D : ShI C) : Prop where
 oE : ∀ {w G S q p t K h s} (n : Int), C.J w G q p h -> D.P w S t K s -> CrG w G -> ¬ S 0 -> (∀ b, G b -> ¬ S b) -> HR 17 h -> Calls prog 13 #[.pointer (some ⟨t, 0, none⟩), .pointer (some ⟨p, 0, none⟩), .int .i64 n] w fun e w' => e = .returned (.int .i64 (ir h s n).1) /\
  ∃ G' S', C.J w' G' q p (ir h s n).2.1 /\ D.P w' S' t K (ir h s n).2.2 /\ (∀ b, G' b -> ¬ S' b) /\ Only (fun b => G b \/ S b) w w' /\ Grow w G G' /\ Grow w S S'
 all_ : ∀ {w G S q p t K h s}, C.J w G q p h -> D.P w S t K s -> CrG w G -> ¬ S 0 -> (∀ b, G b -> ¬ S b) -> HR (16 * s.T + 17) h -> Calls prog 11 #[.pointer (some ⟨t, 0, none⟩), .pointer (some ⟨p, 0, none⟩)] w fun e w' => e = .returned (.int .i64 (zf h s).1) /\
  ∃ G' S', C.J w' G' q p (zf h s).2.1 /\ D.P w' S' t K (zf h s).2.2 /\ (∀ b, G' b -> ¬ S' b) /\ Only (fun b => G b \/ S b) w w' /\ Grow w G G' /\ Grow w S S'
 no_stripe : ∀ {w G q p h} (v : Value) (n : Int), D.No w v -> C.J w G q p h -> Calls prog 13 #[v, .pointer (some ⟨p, 0, none⟩), .int .i64 n] w fun e w' => e = .returned (.int .i64 1) /\ Below w.heap.size w w'
 no_all : ∀ {w G q p h} (v : Value), D.No w v -> C.J w G q p h -> Calls prog 11 #[v, .pointer (some ⟨p, 0, none⟩)] w fun e w' => e = .returned (.int .i64 1) /\ Below w.heap.size w w'
 nh_stripe : ∀ {w S t K s} (v : Value) (n : Int), D.P w S t K s -> C.No w v -> Calls prog 13 #[.pointer (some ⟨t, 0, none⟩), v, .int .i64 n] w fun e w' => e = .returned (.int .i64 1) /\ Below w.heap.size w w'
 nh_all : ∀ {w S t K s} (v : Value), D.P w S t K s -> C.No w v -> Calls prog 11 #[.pointer (some ⟨t, 0, none⟩), v] w fun e w' => e = .returned (.int .i64 1) /\ Below w.heap.size w w'
section
variable {C : eN} {D : ShI C} {w0 w w' : World} {B q p t K : Nat} {O : Nat -> Prop} {h : HuS} {s : ShS}
theorem SAt.agb (I : abg C D) (n : Int) (a : SAt C D w0 B O w q p t K h s) (hr : HR 17 h) {x : Int × HuS × ShS} (hx : ir h s n = x) : Calls prog 13 #[.pointer (some ⟨t, 0, none⟩), .pointer (some ⟨p, 0, none⟩), .int .i64 n] w fun e w' => e = .returned (.int .i64 x.1) /\ SAt C D w0 B O w' q p t K x.2.1 x.2.2 /\ cj O w w' := by
 subst hx;obtain ⟨G, S, h1, h2, h3, h4, h5, h6, h7⟩ := a;exact (I.oE n h1 h2 (h6.crg h5 fun b e => h4 b (.inl e)) (fun e => by have := h6.lo; have := h4 _ (.inr e); omega) h3 hr).mono fun e w' ⟨k0, G', S', k1, k2, kd, k3, k4, k5⟩ => ⟨k0, SAt.turn h4 h5 h6 h7 k1 k2 kd k3 k4 k5⟩
theorem SAt.home (I : abg C D) (a : SAt C D w0 B O w q p t K h s) (hr : HR (16 * s.T + 17) h) {x : Int × HuS × ShS} (hx : zf h s = x) : Calls prog 11 #[.pointer (some ⟨t, 0, none⟩), .pointer (some ⟨p, 0, none⟩)] w fun e w' => e = .returned (.int .i64 x.1) /\ SAt C D w0 B O w' q p t K x.2.1 x.2.2 /\ cj O w w' := by
 subst hx;obtain ⟨G, S, h1, h2, h3, h4, h5, h6, h7⟩ := a;exact (I.all_ h1 h2 (h6.crg h5 fun b e => h4 b (.inl e)) (fun e => by have := h6.lo; have := h4 _ (.inr e); omega) h3 hr).mono fun e w' ⟨k0, G', S', k1, k2, kd, k3, k4, k5⟩ => ⟨k0, SAt.turn h4 h5 h6 h7 k1 k2 kd k3 k4 k5⟩
theorem SAt.acs {I : FuncId} {vs : Array Value} {Q : Ending -> World -> Prop} (a : SAt C D w0 B O w q p t K h s) (hc : ∀ F, C.R.Bn w F q h.M -> Calls prog I vs w Q) : Calls prog I vs w Q := by
 obtain ⟨G, S, h1, h2, _⟩ := a;obtain ⟨Gb, b1, _⟩ := C.ben h1;exact hc Gb b1
end
def hb1 : Blk := aJ.set 0 1
def hb2 : Blk := aJ.set 0 2
def kc1 : c8 := ⟨0, 0, hb1⟩
def kc2 : c8 := ⟨1, 2, hb2⟩
def bs0 : ShS := kZ 3 6 6
def bs1 : ShS := j7 bs0 1 [kc1, kc2]
theorem bq1 : iV bs0 1 [kc1, kc2] = 0 := by decide +kernel
theorem bd1 : (dL bs1 0).cX = [1] := by decide +kernel
theorem bdc : dj (dL bs1 0) 1 = [kc2] := by kernel_rfl
theorem aiQ (w : World) : (Instr.build 44 #[(0, .int .u8 1)]).run prog w = .ok (blk hb1) w := by kernel_rfl
theorem agc (w : World) : (Instr.build 44 #[(0, .int .u8 2)]).run prog w = .ok (blk hb2) w := by kernel_rfl
theorem ajc (w : World) : (Instr.build 46 #[(1, blk hb1)]).run prog w = .ok (clV (bS kc1)) w := by kernel_rfl
theorem aiO (w : World) : (Instr.build 42 #[(0, .int .i64 1), (1, .int .i64 2)]).run prog w = .ok (.agg #[.int .i64 1, .int .i64 2]) w := by kernel_rfl
theorem aiF (w : World) : (Instr.build 46 #[(0, .agg #[.int .i64 1, .int .i64 2]), (1, blk hb2)]).run prog w = .ok (clV (bS kc2)) w := by kernel_rfl
theorem aiI (w : World) : (Instr.buildSlice 22 2 #[(0, clV (bS kc1)), (1, clV (bS kc2))]).run prog w = .ok (.slice (some ⟨w.heap.size, 0, none⟩) 2 2) (w.alloc (.cells (cW (bS kc1) ++ cW (bS kc2)).toArray 46)) := by kernel_rfl
section
variable {ρ : Operand -> Value} {o : Oper} {x y : Operand} {w : World}
theorem ae7 (ho : o.op = .build 46 #[(1, x)]) (hx : ρ x = blk hb1) : (execOp ρ o).run prog w = .ok (.value (clV (bS kc1))) w := by
 unfold execOp;simp [ho, hx, ajc, Result.andThen]
theorem afs (ho : o.op = .build 42 #[(0, x), (1, y)]) (hx : ρ x = .int .i64 1) (hy : ρ y = .int .i64 2) : (execOp ρ o).run prog w = .ok (.value (.agg #[.int .i64 1, .int .i64 2])) w := by
 unfold execOp;simp [ho, hx, hy, aiO, Result.andThen]
theorem afM (ho : o.op = .build 46 #[(0, x), (1, y)]) (hx : ρ x = .agg #[.int .i64 1, .int .i64 2]) (hy : ρ y = blk hb2) : (execOp ρ o).run prog w = .ok (.value (clV (bS kc2))) w := by
 unfold execOp;simp [ho, hx, hy, aiF, Result.andThen]
theorem aet (ho : o.op = .buildSlice 22 2 #[(0, x), (1, y)]) (hx : ρ x = clV (bS kc1)) (hy : ρ y = clV (bS kc2)) : (execOp ρ o).run prog w = .ok (.value (.slice (some ⟨w.heap.size, 0, none⟩) 2 2)) (w.alloc (.cells (cW (bS kc1) ++ cW (bS kc2)).toArray 46)) := by
 unfold execOp;simp only [ho, hx, hy, List.map_toArray, List.map_cons, List.map_nil, Sem.run_bind, aiI, Result.andThen_ok, Sem.run_pure]
theorem jT {b : Nat} : (Instr.fieldAt 29 (.pointer (some ⟨b, 0, none⟩)) 0).run prog w = .ok (.pointer (some ⟨b, 0, none⟩)) w := by kernel_rfl
theorem yZ {b : Nat} : (Instr.fieldAt 29 (.pointer (some ⟨b, 0, none⟩)) 1).run prog w = .ok (.pointer (some ⟨b, 1, none⟩)) w := by kernel_rfl
theorem acg {b : Nat} : (Instr.fieldAt 29 (.pointer (some ⟨b, 0, none⟩)) 2).run prog w = .ok (.pointer (some ⟨b, 2, none⟩)) w := by kernel_rfl
theorem jS {ad : Addr} {a : Option Addr} (h : w.cell? ad = some (.pointer a)) : (Instr.loadAt 23 (.pointer (some ad))).run prog w = .ok (.pointer a) w := by simp [go_sem, h]
theorem y7 {ad : Addr} {a : Option Addr} (h : w.cell? ad = some (.pointer a)) : (Instr.loadAt 24 (.pointer (some ad))).run prog w = .ok (.pointer a) w := by simp [go_sem, h]
theorem acQ {ad : Addr} {a : Option Addr} (h : w.cell? ad = some (.pointer a)) : (Instr.loadAt 25 (.pointer (some ad))).run prog w = .ok (.pointer a) w := by simp [go_sem, h]
end
section
variable {C : eN} {D : ShI C} {w0 w w' : World} {B q p t K : Nat} {O : Nat -> Prop} {h : HuS} {s : ShS}
theorem SAt.ajT {Q : Nat} (a : SAt C D w0 B O w q p t K h s) (c1 c2 : c8) (hQ : Q < 18446744073709551616) (hK : K + 2 <= 1000000) : Calls prog 6 #[.pointer (some ⟨t, 0, none⟩), .int .u64 (Q : Int), .slice (some ⟨w.heap.size, 0, none⟩) 2 2] (w.alloc (.cells (cW (bS c1) ++ cW (bS c2)).toArray 46)) fun e w' => e = .returned (.int .i64 (iV s Q [c1, c2])) /\ SAt C D w0 B O w' q p t (K + 2) h (j7 s Q [c1, c2]) /\ cj O w w' := by
 have hb := (Below.refl w.heap.size w).alloc aj (.cells (cW (bS c1) ++ cW (bS c2)).toArray 46);have hsz : (w.alloc (.cells (cW (bS c1) ++ cW (bS c2)).toArray 46)).heap.size = w.heap.size + 1 := al;have hr : RdE cH (w.alloc (.cells (cW (bS c1) ++ cW (bS c2)).toArray 46)) (w.alloc (.cells (cW (bS c1) ++ cW (bS c2)).toArray 46)).heap.size (some ⟨w.heap.size, 0, none⟩) 2 ([c1, c2].map bS) := by rw [hsz]; exact fS (E := cH) (l := [bS c1, bS c2]) w (cW (bS c1) ++ cW (bS c2)).toArray 46 (by simp [cE]; rfl)
 have hkb : cj O w (w.alloc (.cells (cW (bS c1) ++ cW (bS c2)).toArray 46)) := fun b e => hb.block b (a.lt e)
 have ag : SAt C D w0 B (fun b => O b \/ b = w.heap.size) (w.alloc (.cells (cW (bS c1) ++ cW (bS c2)).toArray 46)) q p t K h s := a.guard hb fun b e => by
  rcases e with e | e
  ·exact .inl e
  ·subst e; exact .inr ⟨aj, by omega⟩
 refine (ag.shelf (K' := K + 2) (s' := j7 s Q [c1, c2]) (v := .int .i64 (iV s Q [c1, c2])) fun S hS hO => D.put (c := [c1, c2]) hS hQ hK hr rfl aj (by unfold maxLen; decide) fun x e _ hs => by
  injection e with e;subst e;exact hO _ (.inr rfl) hs).mono ?_
 rintro e w' ⟨k0, k1, k2⟩;exact ⟨k0, k1.guard ak (fun b e => .inl (.inl e)), cj.trans hkb (k2.less fun b e => .inl e)⟩
end
theorem yM (C : eN) (D : ShI C) (I : abg C D) (w : World) (T : Tab w) : Calls prog 8 #[] w fun e w' => e = .returned (.bool true) /\ Below w.heap.size w w' := by
 have HT := ae T;obtain ⟨z0, hz0⟩ : ∃ z0 : HuS, (⟨fg (szK 3 6), 9, 0, neR 3 6⟩ : HuS) = z0 := ⟨_, rfl⟩;have hl0 : Lif 3 3 6 z0 := by rw [<- hz0]; exact Lif.new (by omega) (by omega) (by omega) (by omega) 3 9
 have hr0 : HR 600 z0 := by rw [<- hz0]; exact HR.new (by omega) (by omega) (by omega) (by omega) (by omega) 9
 have hok : bW bs1 := bW.put (bW.new (by omega) (by omega) (by omega) (by omega) (by omega) (by omega)) (by omega) _;have hN1 : bs1.N = 3 /\ bs1.T = 6 := ⟨by decide +kernel, by decide +kernel⟩;have e6 : ir z0 bs1 6 = (2, z0, bs1) := by unfold ir; rw [if_neg (by decide +kernel)]
 obtain ⟨z1, e0, hl1, _⟩ := hl0.oE (s := bs1) (n := 0) hN1.1 hN1.2 (by omega);have hr1 : HR 500 z1 := by
  have := HR.bks (k := 500) (h := z0) (s := bs1) (hr0.less (by omega)) hok ((0 : Nat) : Int);rw [e0] at this;exact this
 have hok2 := hok.cln ((0 : Nat) : Int);obtain ⟨z2, s2, ea, hl2, hd2, hs2⟩ := hl1.home (s := dL bs1 ((0 : Nat) : Int)) hok2 (by decide +kernel) (by decide +kernel);obtain ⟨i, _, hm, _, hsu⟩ := hs2 1 (by omega) kc2 (by rw [show ((1 : Nat) : Int) = 1 from rfl, show dj (dL bs1 ((0 : Nat) : Int)) 1 = [kc2] from bdc]; exact List.mem_cons_self ..);have hi : i = 2 := by
  have h2 : (2 : Int) = (i : Int) := hm;omega
 subst hi;have hSU := hl2.sure (j := 2) (n := 1) (by omega) (by omega) (by omega);have hsb : qD z2.M 2 3 = hb2 /\ qE z2.M 2 3 = 0 := ⟨hSU.2.trans (hsu (by omega)), hSU.1⟩;have HZ0 := ae hz0;have HR0 := ae hr0;have HR1 := ae hr1;have HE6 := ae e6;have HE0 := ae e0;have HEA := ae ea;have HD2 := ae hd2;have HSB := ae hsb;have HT6 : Hid ((dL bs1 ((0 : Nat) : Int)).T = 6) := ae (by decide +kernel);clear T hz0 hl0 hr0 hok hN1 e6 e0 hl1 hr1 hok2 ea hl2 hd2 hs2 hm hsu hSU hsb;go_enter func8, ntmps8;go_upto_region 0 with fail;refine cf 1 ?_;go_upto_region 1 with fail;refine af ?_;refine ay rfl (aB call5 rfl (evc evk evn)) ?_;refine (tf C D 0 3 w HT (by omega) rfl).mono ?_;rintro e w1 ⟨t, p, q, r, y, rfl, a1⟩;rw [HZ0.out] at a1;have HA1 : Hid (SAt C D w w.heap.size (fun _ => False) w1 q p t 0 z0 bs0) := ae a1;clear a1;refine aR ?_;refine runs 3 ?_;refine akj (di (cs := jU) xc rfl) ?_;refine aG rfl (fG (cs := fm t p q r y) (ds := jU) (by kernel_rfl) rfl mE rfl (ev rfl) (ev rfl)) ?_;simp only [aa];have hx := (Below.refl w1.heap.size w1).alloc aj (.cells (fm t p q r y).toArray 29);have HP2 := ae (heap_alloc_new w1 (.cells (fm t p q r y).toArray 29));have hsz : (w1.alloc (.cells (fm t p q r y).toArray 29)).heap.size = w1.heap.size + 1 := al;have HA2 := ae (HA1.out.guard (O' := fun b => b = w1.heap.size) hx fun b e => .inr ⟨by omega, by omega⟩);obtain ⟨bp, hbp⟩ : ∃ bp, w1.heap.size = bp := ⟨_, rfl⟩;rw [hbp] at HP2 HA2 ⊢;clear hbp hx hsz;generalize w1.alloc (.cells (fm t p q r y).toArray 29) = w2 at *;refine aF 1 ?_;go_upto_region 2 with fail;refine aI 3 ?_;refine akq (ax rfl akt jT) ?_;refine akq (aD rfl akt (jS ((aQ HP2) 0 _ rfl))) ?_;refine akq (jn rfl evk (aiQ _)) ?_;refine akq (ae7 rfl akt) ?_;refine akq (afs rfl evk evk) ?_;refine akq (jn rfl evk (agc _)) ?_;refine akq (afM rfl akt akt) ?_;refine akq (aet rfl akt akt) ?_;refine ay ake (aB call6 rfl (evc akt (evc evk (evc akt evn)))) ?_;refine (HA2.out.ajT (Q := 1) kc1 kc2 (by omega) (by omega)).mono ?_;rintro e w3 ⟨rfl, a_, k_⟩;rw [show iV bs0 1 [kc1, kc2] = 0 from bq1];have HA3 := ae a_;have HP3 := ae ((k_ bp rfl).trans HP2);clear a_ k_;refine aR ?_;refine akq (aK false rfl akt evk rfl) ?_;refine aF 1 ?_;go_upto_region 4 with fail;refine af ?_;refine akj (ax rfl akt jT) ?_;refine akj (aD rfl akt (jS ((aQ HP3) 0 _ rfl))) ?_;refine akj (ax rfl akt yZ) ?_;refine akj (aD rfl akt (y7 ((aQ HP3) 1 _ rfl))) ?_;refine ay rfl (aB call13 rfl (evc akt (evc akt (evc evk evn)))) ?_;refine (SAt.agb I 6 HA3 (HR0.out.less (by omega)) HE6).mono ?_;rintro e w4 ⟨rfl, a_, k_⟩;have HA4 := ae a_;have HP4 := ae ((k_ bp rfl).trans HP3);clear a_ k_;refine aR ?_;refine aF 1 ?_;go_upto_region 5 with fail;refine af ?_;refine akj (ax rfl akt jT) ?_;refine akj (aD rfl akt (jS ((aQ HP4) 0 _ rfl))) ?_;refine akj (ax rfl akt yZ) ?_;refine akj (aD rfl akt (y7 ((aQ HP4) 1 _ rfl))) ?_;refine ay rfl (aB call13 rfl (evc akt (evc akt (evc evk evn)))) ?_;refine (SAt.agb I ((0 : Nat) : Int) HA4 (HR0.out.less (by omega)) HE0).mono ?_;rintro e w5 ⟨rfl, a_, k_⟩;have HA5 := ae a_;have HP5 := ae ((k_ bp rfl).trans HP4);clear a_ k_;refine aR ?_;refine aF 1 ?_;go_upto_region 6 with fail;refine af ?_;refine akj (ax rfl akt jT) ?_;refine akj (aD rfl akt (jS ((aQ HP5) 0 _ rfl))) ?_;refine ay rfl (aB call7 rfl (evc akt evn)) ?_;refine (SAt.look HA5 fun S hS => D.cX hS).mono ?_;rintro e w6 ⟨v6, rfl, hm6, b6⟩;rw [show (dL bs1 ((0 : Nat) : Int)).cX = [1] from bd1] at hm6;obtain ⟨A6, c6, rfl, h61, h62⟩ := hm6.form;have HR6 := ae hm6.rd;have HA6 := ae (HA5.out.below b6);have HP6 := ae (aC HP5 b6);clear hm6 b6 h61 h62;refine aR ?_;refine akj (eA (E := bP) (a := 1) rfl evk rfl (by decide)) ?_;refine ay rfl (aB call27 rfl (evc akt (evc akt evn))) ?_;refine (abo _ _ _ _ _ _ (w6.heap.size + 1) [1] [1] _ (HR6.out.up _) (fS (E := bP) (l := [1]) w6 #[.int .i64 1] 3 rfl) (by rw [World.size_alloc]; exact aj) (by unfold maxLen; decide)).mono ?_;rintro e w7 ⟨rfl, b7⟩;have hb7 := ((Below.refl w6.heap.size w6).alloc aj (.cells #[.int .i64 1] 3)).trans (b7.mono (by rw [World.size_alloc]; omega));have HA7 := ae (HA6.out.below hb7);have HP7 := ae (aC HP6 hb7);clear b7 hb7;rw [show nv [1] [1] = true from rfl];refine aR ?_;refine aF 1 ?_;go_upto_region 7 with fail;refine af ?_;refine akj (ax rfl akt jT) ?_;refine akj (aD rfl akt (jS ((aQ HP7) 0 _ rfl))) ?_;refine akj (ax rfl akt yZ) ?_;refine akj (aD rfl akt (y7 ((aQ HP7) 1 _ rfl))) ?_;refine ay rfl (aB call11 rfl (evc akt (evc akt evn))) ?_;refine (SAt.home I HA7 (HR1.out.less (by rw [HT6.out]; omega)) HEA).mono ?_;rintro e w8 ⟨rfl, a_, k_⟩;have HA8 := ae a_;have HP8 := ae ((k_ bp rfl).trans HP7);clear a_ k_;refine aR ?_;refine aF 1 ?_;go_upto_region 8 with fail;refine af ?_;refine akj (ax rfl akt acg) ?_;refine akj (aD rfl akt (acQ ((aQ HP8) 2 _ rfl))) ?_;refine ay rfl (aB call12 rfl (evc akt (evc evk (evc evk evn)))) ?_;refine (SAt.acs HA8 fun F hF => C.R.sure 2 3 hF).mono ?_;rintro e w9 ⟨rfl, b9⟩;rw [HSB.out.1, HSB.out.2];have HA9 := ae (HA8.out.below b9);have HP9 := ae (aC HP8 b9);clear b9;refine aR ?_;refine runs 3 ?_;refine akj (bU rfl) ?_;refine aG rfl (ip (c := hb2) rfl (ev rfl) (ev rfl)) ?_;simp only [aa];have hx := (Below.refl w9.heap.size w9).alloc aj (.cells (cel hb2).toArray 44);have HQ10 := ae (heap_alloc_new w9 (.cells (cel hb2).toArray 44));have HA10 := ae (HA9.out.below hx);have HP10 := ae (aC HP9 hx);clear hx;generalize w9.alloc (.cells (cel hb2).toArray 44) = w10 at *;refine aF 1 ?_;go_upto_region 9 with fail;refine aI 1 ?_;refine akj (aH true rfl akt evk rfl) ?_;refine runs 2 ?_;refine akq (aH true rfl akt evk rfl) ?_;refine runs 3 ?_;refine runs 3 ?_;refine akq (aH true rfl akt evk rfl) ?_;refine runs 2 ?_;refine akq (ax rfl akt jT) ?_;refine akq (aD rfl akt (jS ((aQ HP10) 0 _ rfl))) ?_;refine ay ake (aB call7 rfl (evc akt evn)) ?_;refine (SAt.look HA10 fun S hS => D.cX hS).mono ?_;rintro e w11 ⟨v11, rfl, hm11, b11⟩;rw [HD2.out] at hm11;obtain ⟨A11, c11, rfl, h111, h112⟩ := hm11.form;have HA11 := ae (HA10.out.below b11);have HQ11 := ae (aC HQ10 b11);clear hm11 b11 h111 h112;refine aR ?_;refine akq (fE underlying35 rfl akt) ?_;refine akq (aH true rfl akt evk rfl) ?_;refine runs 2 ?_;refine akq (bI (c := hb2) rfl akt (aQ HQ11)) ?_;refine akq (jn rfl evk (agc _)) ?_;refine akq (aao true rfl akt akt (ao rfl)) ?_;refine runs 3 ?_;refine akq (aH true rfl akt evk rfl) ?_;refine aF 2 ?_;go_wp2_with fail;go_ret;exact ⟨rfl, HA11.out.bel⟩
theorem afw (a b : Blk) (k : Nat) (w : World) (T : Tab w) (h : mD a b = k) : Calls prog 143 #[blk a, blk b] w fun e w' => e = .returned (.int .i64 (k : Nat)) /\ Below w.heap.size w w' := by
 subst h;exact aiH a b w T
structure HpS where
 id : Nat
 ev : Nat
 us : Nat
 R : Ros
def phC (qa : Option Addr) (x : HpS) : List Value := .pointer qa :: .int .u64 (x.id : Int) :: .int .u64 (x.ev : Int) :: (aZ x.R ++ [.int .u64 (x.us : Int)])
theorem afW (qa : Option Addr) (x : HpS) : (phC qa x).length = 25 := by simp [phC, br]
def PHo (w : World) (p : Nat) (qa : Option Addr) (x : HpS) : Prop := w.heap[p]? = some (.cells (phC qa x).toArray 60 (0, 0))
abbrev PHu (w : World) (p q : Nat) (x : HpS) : Prop := PHo w p (some ⟨q, 0, none⟩) x
section
variable {w w' : World} {p : Nat} {qa : Option Addr} {x : HpS} {G : Nat -> Prop}
theorem PHo.only (h : PHo w p qa x) (ho : Only G w w') (hn : ¬ G p) : PHo w' p qa x := ho.keep h hn
theorem PHo.below (h : PHo w p qa x) (hb : Below w.heap.size w w') : PHo w' p qa x := aC h hb
theorem PHo.lt (h : PHo w p qa x) : p < w.heap.size := aU h
theorem PHo.c0 (h : PHo w p qa x) : w.cell? ⟨p, 0, none⟩ = some (.pointer qa) := (aQ h) 0 _ rfl
theorem PHo.c1 (h : PHo w p qa x) : w.cell? ⟨p, 1, none⟩ = some (.int .u64 (x.id : Int)) := (aQ h) 1 _ rfl
theorem PHo.c2 (h : PHo w p qa x) : w.cell? ⟨p, 2, none⟩ = some (.int .u64 (x.ev : Int)) := (aQ h) 2 _ rfl
theorem PHo.c24 (h : PHo w p qa x) : w.cell? ⟨p, 24, none⟩ = some (.int .u64 (x.us : Int)) := (aQ h) 24 _ (by
 show (aZ x.R ++ [_])[21]? = _
 rw [List.getElem?_append_right (by rw [br]; exact aj), br]; rfl)
theorem PHo.ros (h : PHo w p qa x) : w.rangeAt p 3 (aZ x.R) := by
 have := fc (k := 3) (ds := [.pointer qa, .int .u64 (x.id : Int), .int .u64 (x.ev : Int)]) (es := aZ x.R) (fs := [.int .u64 (x.us : Int)]) (aQ h) (by simp [phC]) rfl;rwa [Nat.zero_add] at this
theorem PHo.geo (h : PHo w p qa x) : w.rangeAt p 3 (dZ x.R) := fc (cs := aZ x.R) (ds := []) (k := 0) h.ros rfl rfl
theorem PHo.acC (h : PHo w p qa x) (j : Nat) : w.frozen? ⟨p, j, none⟩ = false := frozen_of_row w p j _ _ h
theorem PHo.there (h : PHo w p qa x) {o n : Nat} (hn : o + n <= 25) : w.there p o n := dY h (by rw [afW]; exact hn)
theorem oZ : (Instr.fieldAt 60 (.pointer (some ⟨p, 0, none⟩)) 0).run prog w = .ok (.pointer (some ⟨p, 0, none⟩)) w := by kernel_rfl
theorem agi : (Instr.fieldAt 60 (.pointer (some ⟨p, 0, none⟩)) 1).run prog w = .ok (.pointer (some ⟨p, 1, none⟩)) w := by kernel_rfl
theorem ajj : (Instr.fieldAt 60 (.pointer (some ⟨p, 0, none⟩)) 2).run prog w = .ok (.pointer (some ⟨p, 2, none⟩)) w := by kernel_rfl
theorem pW : (Instr.fieldAt 60 (.pointer (some ⟨p, 0, none⟩)) 3).run prog w = .ok (.pointer (some ⟨p, 3, none⟩)) w := by kernel_rfl
theorem acT : (Instr.fieldAt 60 (.pointer (some ⟨p, 0, none⟩)) 4).run prog w = .ok (.pointer (some ⟨p, 24, none⟩)) w := by kernel_rfl
theorem aiY : (Instr.fieldAt 58 (.pointer (some ⟨p, 3, none⟩)) 0).run prog w = .ok (.pointer (some ⟨p, 3, none⟩)) w := by kernel_rfl
theorem vD {ad : Addr} {a : Option Addr} (h : w.cell? ad = some (.pointer a)) : (Instr.loadAt 25 (.pointer (some ad))).run prog w = .ok (.pointer a) w := by simp [go_sem, h]
theorem lz {ad : Addr} {a : Option Addr} (h : w.cell? ad = some (.pointer a)) : (Instr.loadAt 24 (.pointer (some ad))).run prog w = .ok (.pointer a) w := by simp [go_sem, h]
theorem PHo.set {y : HpS} (h : PHo w p qa x) {j : Nat} {u : Value} (hy : (phC qa x).set j u = phC qa y) : PHo (w.setCell ⟨p, j, none⟩ u) p qa y := by
 have := heap_setCell_same w p j _ 60 u h;rw [List.setIfInBounds_toArray, hy] at this;exact this
theorem PHo.put (h : PHo w p qa x) (y : Ros) : PHo (w.setCells p 3 (aZ y)) p qa { x with R := y } :=
 heap_put p 60 [.int .u64 (x.us : Int)] (aZ y) (aZ x.R) [.pointer qa, .int .u64 (x.id : Int), .int .u64 (x.ev : Int)] w (by rw [br, br]) h
theorem ahO (qa : Option Addr) (x : HpS) (e : Nat) : (phC qa x).set 2 (.int .u64 (e : Int)) = phC qa { x with ev := e } := rfl
theorem acp (qa : Option Addr) (x : HpS) (e : Nat) : (phC qa x).set 24 (.int .u64 (e : Int)) = phC qa { x with us := e } := by
 show _ :: _ :: _ :: (aZ x.R ++ [_]).set 21 _ = _
 rw [List.set_append_right _ _ (by rw [br]; exact aj), br]
 rfl
end
def HJ (w0 : World) (H K : Nat -> Prop) (w : World) (p q : Nat) (M : aV) (x : HpS) : Prop :=
 ∃ G, bw.Bn w G q M /\ PHu w p q x /\ ¬ G p /\ Only H w0 w /\ Grow w0 H (fun b => G b \/ b = p) /\ (∀ b, K b -> ¬ G b /\ b ≠ p /\ b < w.heap.size) /\ CrG w0 H
section
variable {w0 w w' : World} {H K K' : Nat -> Prop} {p q : Nat} {M : aV} {x y : HpS}
theorem HJ.hul (h : HJ w0 H K w p q M x) : PHu w p q x := by obtain ⟨_, _, h, _⟩ := h; exact h
theorem HJ.tab (h : HJ w0 H K w p q M x) : Tab w := by
 obtain ⟨_, _, _, _, h, _, _, hT⟩ := h;intro i hi;have := hT.t i hi;exact (h.cell (p := ⟨0, i, none⟩) (gv this) hT.off).trans this
theorem HJ.lt (h : HJ w0 H K w p q M x) {b : Nat} (hb : K b) : b < w.heap.size := by obtain ⟨_, _, _, _, _, _, h, _⟩ := h; exact (h b hb).2.2
theorem HJ.ne (h : HJ w0 H K w p q M x) {b : Nat} (hb : K b) : b ≠ p := by obtain ⟨_, _, _, _, _, _, h, _⟩ := h; exact (h b hb).2.1
theorem HJ.size (h : HJ w0 H K w p q M x) : w0.heap.size <= w.heap.size := by obtain ⟨_, _, _, _, h, _⟩ := h; exact h.size
theorem HJ.guard (h : HJ w0 H K w p q M x) (hb : Below w.heap.size w w') (hK : ∀ b, K' b -> K b \/ (w.heap.size <= b /\ b < w'.heap.size)) : HJ w0 H K' w' p q M x := by
 obtain ⟨G, h1, h2, h3, h4, h5, h6, h7⟩ := h;have hlt := bw.lt h1;have hp := h2.lt;have hs := hb.size;refine ⟨G, bw.below h1 hb, h2.below hb, h3, h4.jz hb, h5, fun b e => ?_, h7⟩;rcases hK b e with e | ⟨e1, e2⟩
 ·obtain ⟨g1, g2, g3⟩ := h6 b e;exact ⟨g1, g2, by omega⟩
 ·exact ⟨fun hg => by have := hlt b hg; omega, by omega, e2⟩
theorem HJ.below (h : HJ w0 H K w p q M x) (hb : Below w.heap.size w w') : HJ w0 H K w' p q M x := h.guard hb fun b e => .inl e
theorem HJ.drew (h : HJ w0 H K w p q M x) : HJ w0 H K w.drew p q M x := h.below (bd ak)
theorem HJ.less (h : HJ w0 H K w p q M x) (hK : ∀ b, K' b -> K b) : HJ w0 H K' w p q M x := h.guard ak fun b e => .inl (hK b e)
def up (K : Nat -> Prop) (n m : Nat) : Nat -> Prop := fun b => K b \/ (n <= b /\ b < m)
theorem HJ.up (h : HJ w0 H K w p q M x) (hb : Below w.heap.size w w') : HJ w0 H (Proofs.YtlmdklakcmnaiaaGreatDoor.up K w.heap.size w'.heap.size) w' p q M x := h.guard hb fun b e => e
theorem HJ.kept (h : HJ w0 H K w p q M x) (hb : Below w.heap.size w w') : cj K w w' := fun b e => hb.block b (h.lt e)
theorem HJ.turn {G G' : Nat -> Prop} {M' : aV} (h1 : bw.Bn w G q M) (h2 : PHu w p q x) (h3 : ¬ G p) (h4 : Only H w0 w) (h5 : Grow w0 H (fun b => G b \/ b = p)) (h6 : ∀ b, K b -> ¬ G b /\ b ≠ p /\ b < w.heap.size) (h7 : CrG w0 H)
  (k1 : bw.Bn w' G' q M') (k2 : Only G w w') (k3 : Grow w G G') : HJ w0 H K w' p q M' x /\ cj K w w' := by
 have hs := k2.size;have hs0 := h4.size;have hp := h2.lt;refine ⟨⟨G', k1, h2.only k2 h3, fun e => ?_, h4.trans k2 fun b e => h5 b (.inl e), fun b e => ?_, fun b e => ?_, h7⟩, fun b e => k2.block b (h6 b e).2.2 (h6 b e).1⟩
 ·rcases k3 p e with e | e
  ·exact h3 e
  ·omega
 ·rcases e with e | e
  ·rcases k3 b e with e | e
   ·exact h5 b (.inl e)
   ·exact .inr (by omega)
  ·exact h5 b (.inr e)
 ·obtain ⟨g1, g2, g3⟩ := h6 b e;refine ⟨fun hg => ?_, g2, by omega⟩;rcases k3 b hg with e | e
  ·exact g1 e
  ·omega
theorem HJ.write (d n : Int) (b : Blk) (hr : Room M 1) (h : HJ w0 H K w p q M x) : Calls prog 76 #[.pointer (some ⟨q, 0, none⟩), .int .i64 d, .int .i64 n, blk b] w fun e w' => e = .returned (.int .i64 (eG M d n)) /\ HJ w0 H K w' p q (dW M d n b) x /\ cj K w w' := by
 obtain ⟨G, h1, h2, h3, h4, h5, h6, h7⟩ := h;exact (bw.write d n b hr h1).mono fun e w' ⟨k0, G', k1, k2, k3⟩ => ⟨k0, HJ.turn h1 h2 h3 h4 h5 h6 h7 k1 k2 k3⟩
theorem HJ.flush (d : Int) (hr : Room M 1) (h : HJ w0 H K w p q M x) : Calls prog 72 #[.pointer (some ⟨q, 0, none⟩), .int .i64 d] w fun e w' => e = .returned (.int .i64 (eI M d)) /\ HJ w0 H K w' p q (fL M d) x /\ cj K w w' := by
 obtain ⟨G, h1, h2, h3, h4, h5, h6, h7⟩ := h;exact (bw.flush d hr h1).mono fun e w' ⟨k0, G', k1, k2, k3⟩ => ⟨k0, HJ.turn h1 h2 h3 h4 h5 h6 h7 k1 k2 k3⟩
theorem HJ.read (d n : Int) (h : HJ w0 H K w p q M x) : Calls prog 141 #[.pointer (some ⟨q, 0, none⟩), .int .i64 d, .int .i64 n] w fun e w' => e = .returned (.tuple #[blk (gF M d n), .int .i64 (dr M d n)]) /\ Below w.heap.size w w' := by
 obtain ⟨G, h1, _⟩ := h;exact bw.read d n h1
theorem HJ.obj (h : HJ w0 H K w p q M x) (ho : Only (fun b => b = p) w w') (hp : PHu w' p q y) : HJ w0 H K w' p q M y /\ cj K w w' := by
 obtain ⟨G, h1, h2, h3, h4, h5, h6, h7⟩ := h;have hs := ho.size;refine ⟨⟨G, bw.only h1 ho fun b hb e => h3 (e ▸ hb), hp, h3, h4.trans ho fun b e => h5 b (.inr e), h5, fun b e => ?_, h7⟩, fun b e => ho.block b (h6 b e).2.2 (h6 b e).2.1⟩;obtain ⟨g1, g2, g3⟩ := h6 b e;exact ⟨g1, g2, by omega⟩
theorem HJ.mine {g : Nat} (h : HJ w0 H K w p q M x) (hg : K g) (hg0 : w0.heap.size <= g) (ho : Only (fun b => b = g) w w') : HJ w0 H K w' p q M x := by
 obtain ⟨G, h1, h2, h3, h4, h5, h6, h7⟩ := h;have hs := ho.size;obtain ⟨g1, g2, g3⟩ := h6 g hg;refine ⟨G, bw.only h1 ho fun b hb e => g1 (e ▸ hb), h2.only ho fun e => g2 e.symm, h3, h4.trans ho fun b e => .inr (by omega), h5, fun b e => ?_, h7⟩;obtain ⟨g1, g2, g3⟩ := h6 b e;exact ⟨g1, g2, by omega⟩
end
structure Fu where
 f : FuncId
 cap : List Value
 ok : ∀ (args : Array Value) (w : World), (callFunc f args).run prog w = .ok (.enter f args) w
def Fu.val (s : Fu) : Value := .func (.func s.f) #[] s.cap.toArray
section
variable {ρ : Operand -> Value} {o : Oper} {x y : Operand} {w : World} {s : Fu} {v : Value}
theorem ai4 {ad : Addr} (h : w.cell? ad = some s.val) : (Instr.loadAt 38 (.pointer (some ad))).run prog w = .ok s.val w := by unfold Fu.val at *; simp [go_sem, h]
theorem ux {a : Act} {ats : Array TypeId} (ho : o.op = .call { callee := .value x, args := #[], argTypes := ats }) (hx : a.eval x = s.val) : (execOp a.eval o).run prog w = .ok (.enter s.f s.cap.toArray) w := by
 unfold Fu.val at hx;unfold execOp;simp [ho, resolve, Deferred.ofValue, invoke, hx, s.ok]
theorem nj {a : Act} {ats : Array TypeId} (ho : o.op = .call { callee := .value x, args := #[y], argTypes := ats }) (hx : a.eval x = s.val) (hy : a.eval y = v) : (execOp a.eval o).run prog w = .ok (.enter s.f (v :: s.cap).toArray) w := by
 unfold Fu.val at hx;unfold execOp;simp [ho, resolve, Deferred.ofValue, invoke, hx, hy, s.ok]
end
end Go.Proofs.YtlmdklakcmnaiaaGreatDoor
