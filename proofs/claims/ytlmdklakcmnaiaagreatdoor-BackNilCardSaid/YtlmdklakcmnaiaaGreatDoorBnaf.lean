import Derived.Test.YtlmdklakcmnaiaaGreatDoorBnae
namespace Go.Proofs.YtlmdklakcmnaiaaGreatDoor
set_option maxHeartbeats 8000000
open Go.Proofs.Tryz
open Go.RowKit
set_option linter.unusedVariables false
set_option linter.unusedSimpArgs false
set_option maxRecDepth 100000
def w3_ (w : World) (a b : Blk) : World := ((w.alloc (.cells (cel a).toArray 44)).alloc (.cells (cel b).toArray 44)).alloc (.cells (bz cv).toArray 198)
theorem qH (w : World) (a b : Blk) : (w3_ w a b).rangeAt w.heap.size 0 (cel a) /\ (w3_ w a b).rangeAt (w.heap.size + 1) 0 (cel b) /\ (w3_ w a b).there (w.heap.size + 1 + 1) 0 23 /\ Below w.heap.size w (w3_ w a b) /\ w.heap.size + 1 + 1 < (w3_ w a b).heap.size := by
 unfold w3_;have e1 := World.size_alloc (w := w) (o := Obj.cells (cel a).toArray 44);have e2 := World.size_alloc (w := (w.alloc (.cells (cel a).toArray 44))) (o := Obj.cells (cel b).toArray 44);have h3 := cR.new ((w.alloc (.cells (cel a).toArray 44)).alloc (.cells (cel b).toArray 44)) cv;rw [e2, e1] at h3;refine ⟨World.rangeAt_alloc (World.rangeAt_alloc (dK w (cel a) _) _) _, ?_, dQ (o := 0) (n := 23) h3 (by rw [a7]; exact aj), ?_, aT h3⟩
 ·rw [<- e1]; exact World.rangeAt_alloc (dK _ (cel b) _) _
 ·exact (((Below.refl _ w).alloc aj _).alloc (by omega) _).alloc (by omega) _
theorem ua {fn : Func} {p q u : Tmp} {t : TypeId} {cs : List Value} {d : TypeDesc} (h : fn.results = #[.tmp p, .tmp u, .cell q t]) (tmps : Array Value) (w : World) (b : Nat) (hq : tmps.getD q undef = .pointer (some ⟨b, 0, none⟩)) (hr : w.rangeAt b 0 cs) (hu : prog.underlying t = some d) (hd : d.isRow = true) (hz : (prog.info? t).map (·.size) = some cs.length) :
  (results fn tmps).run prog w = .ok (.tuple #[tmps.getD p undef, tmps.getD u undef, .agg cs.toArray]) w := by
 have hl : (loadVar t ⟨b, 0, none⟩).run prog w = .ok (.agg cs.toArray) w := run_loadVar_mid (P := prog) w b 0 t cs d hr hu hd hz;have hq' : tmps[q]?.getD undef = .pointer (some ⟨b, 0, none⟩) := by simpa using hq
 simp [results, h, hq', asAddr, hl]
theorem nP {w : World} {b : Nat} (c : Sup) (h : w.there b 0 23) : (w.setCells b 0 (bz c)).rangeAt b 0 (bz c) := World.rangeAt_setCells_same _ _ _ _ (by rw [a7]; exact h)
def nwW (a b : Blk) : Nat := if gsN a < gsN b then 1 else 0
theorem zy (a b : Blk) (w : World) (T : Tab w) (hlt : gsN a < gsN b) : Calls prog 149 #[blk a, blk b] w fun e w' => e = .returned (.tuple #[.int .i64 1, .int .u64 (gsN b : Nat), sup (gsS b)]) /\ Below w.heap.size w w' := by
 obtain ⟨h1, h2, h3, h4, h5⟩ := qH w a b;unfold w3_ at h1 h2 h3 h4 h5;obtain ⟨x, hx⟩ : ∃ x, gsN a = x := ⟨_, rfl⟩;obtain ⟨y, hy⟩ : ∃ y, gsN b = y := ⟨_, rfl⟩;rw [hx, hy] at hlt;obtain ⟨p, hp⟩ : ∃ p, gsS a = p := ⟨_, rfl⟩;obtain ⟨q, hq⟩ : ∃ q, gsS b = q := ⟨_, rfl⟩;have HX := ae hx;have HY := ae hy;have HP := ae hp;have HQ := ae hq;have HA := ae h1;have HBK := ae h2;have HR := ae h3;have HB := ae h4;have HZ := ae h5;have HT := ae T;clear h1 h2 h3 h4 h5 T hx hy hp hq;go_enter func149, ntmps149;go_wp2_with (first | (refine av rfl (cP rfl rfl) ?_) | (refine av rfl (cg rfl) ?_) | (refine av rfl (bJ (c := a) rfl rfl ?_) ?_; (with_reducible exact HA.out)) | fail)
 try simp only [World.size_alloc]
 generalize ((w.alloc (.cells (cel a).toArray 44)).alloc (.cells (cel b).toArray 44)).alloc (.cells (bz cv).toArray 198) = w0 at *;refine (xr a w0 (HT.out.below HB)).mono ?_;rintro e w1 ⟨rfl, hb⟩;have HBK1 := ae (World.rangeAt_setCells_apart (gp HBK (by have := HZ.out; omega) hb) (w.heap.size + 1 + 1) 0 (bz (gsS a)) (.inl (by omega)));have HR1 := ae (cd HR HZ hb);have hb1 := HB.out.trans (hb.mono HB.out.size);have HB1 := ae (below_setCells (b := w.heap.size + 1 + 1) (o := 0) hb1 (by omega) (bz (gsS a)));have HPR := ae (nP (gsS a) HR1);have HR2 := ae (World.there_setCells HR1 (w.heap.size + 1 + 1) 0 (bz (gsS a)));have HZ1 : Hid (w.heap.size + 1 + 1 < (w1.setCells (w.heap.size + 1 + 1) 0 (bz (gsS a))).heap.size) := ae (by rw [size_setCells]; exact ar HZ hb.size);rw [HP.out] at HBK1 HB1 HPR HR2 HZ1;rw [HX.out, HP.out];clear hb hb1 HBK HR HB HA HZ;go_upto_region 2 with (first | (refine aG rfl (eh (c := p) rfl rfl rfl ?_) ?_; (with_reducible exact HR1.out)) | fail);generalize w1.setCells (w.heap.size + 1 + 1) 0 (bz p) = w2 at *;go_wp2_with (first | (refine av rfl (bJ (c := b) rfl rfl ?_) ?_; (with_reducible exact HBK1.out)) | fail);refine (xr b w2 (HT.out.below HB1)).mono ?_;rintro e w3 ⟨rfl, hb⟩;have hb3 := hb.alloc hb.size (.cells (bz (gsS b)).toArray 198);have HPR3 := ae (gp HPR HZ1 hb3);have HR3 := ae (cd HR2 HZ1 hb3);have HB3 := ae (HB1.out.trans (hb3.mono HB1.out.size));have HQR3 := ae (cR.new w3 (gsS b)).range;rw [HQ.out] at HPR3 HR3 HB3 HQR3;rw [HY.out, HQ.out];clear hb hb3 HBK1 HPR HR2 HB1 HR1 HZ1;have hd : decide ((x : Int) < (y : Int)) = true := by simp; omega
 have hd2 : decide (x < y) = true := by simp; omega
 clear hlt;go_upto_region 4 with (first | (refine av rfl (cg rfl) ?_) | (refine aG rfl (dX rfl rfl rfl) ?_) | fail);generalize w3.alloc (.cells (bz q).toArray 198) = w4 at *;go_wp2_with fail;refine wp_region_still_tail 4 (by kernel_rfl) (by kernel_rfl) ?_;simp only [ac];refine aN rfl (aL rfl ajL) ?_;simp only [aa];refine aN rfl (dp (c := q) rfl ajL HQR3) ?_;simp only [aa];refine aN rfl (eA rfl evk) ?_;simp only [aa];refine aN rfl (eA rfl ajL) ?_;simp only [aa];refine wpStill_nil ?_;change wpList _ _ _ _ _ (World.drew _);refine bK rfl (eh (c := q) rfl (ev rfl) (ev rfl) HR3.out) ?_;simp only [aa];refine ah ?_;go_wp2_with fail;refine bodyPost_ret (ua (t := 198) (cs := bz q) rfl _ _ _ rfl ?h1 underlying198 rfl ?h2) rfl ⟨by rw [HY.out, HQ.out]; rfl, ?h3⟩
 case h1 => exact World.rangeAt_setCells_same _ _ _ _ (by rw [a7]; exact HR3)
 case h2 => rw [a7]; exact jV
 case h3 => exact below_setCells (bd HB3) (by omega) _
theorem zH (a b : Blk) (w : World) (T : Tab w) (hlt : ¬ gsN a < gsN b) : Calls prog 149 #[blk a, blk b] w fun e w' => e = .returned (.tuple #[.int .i64 0, .int .u64 (gsN a : Nat), sup (gsS a)]) /\ Below w.heap.size w w' := by
 obtain ⟨h1, h2, h3, h4, h5⟩ := qH w a b;unfold w3_ at h1 h2 h3 h4 h5;obtain ⟨x, hx⟩ : ∃ x, gsN a = x := ⟨_, rfl⟩;obtain ⟨y, hy⟩ : ∃ y, gsN b = y := ⟨_, rfl⟩;rw [hx, hy] at hlt;obtain ⟨p, hp⟩ : ∃ p, gsS a = p := ⟨_, rfl⟩;obtain ⟨q, hq⟩ : ∃ q, gsS b = q := ⟨_, rfl⟩;have HX := ae hx;have HY := ae hy;have HP := ae hp;have HQ := ae hq;have HA := ae h1;have HBK := ae h2;have HR := ae h3;have HB := ae h4;have HZ := ae h5;have HT := ae T;clear h1 h2 h3 h4 h5 T hx hy hp hq;go_enter func149, ntmps149;go_wp2_with (first | (refine av rfl (cP rfl rfl) ?_) | (refine av rfl (cg rfl) ?_) | (refine av rfl (bJ (c := a) rfl rfl ?_) ?_; (with_reducible exact HA.out)) | fail)
 try simp only [World.size_alloc]
 generalize ((w.alloc (.cells (cel a).toArray 44)).alloc (.cells (cel b).toArray 44)).alloc (.cells (bz cv).toArray 198) = w0 at *;refine (xr a w0 (HT.out.below HB)).mono ?_;rintro e w1 ⟨rfl, hb⟩;have HBK1 := ae (World.rangeAt_setCells_apart (gp HBK (by have := HZ.out; omega) hb) (w.heap.size + 1 + 1) 0 (bz (gsS a)) (.inl (by omega)));have HR1 := ae (cd HR HZ hb);have hb1 := HB.out.trans (hb.mono HB.out.size);have HB1 := ae (below_setCells (b := w.heap.size + 1 + 1) (o := 0) hb1 (by omega) (bz (gsS a)));have HPR := ae (nP (gsS a) HR1);have HR2 := ae (World.there_setCells HR1 (w.heap.size + 1 + 1) 0 (bz (gsS a)));have HZ1 : Hid (w.heap.size + 1 + 1 < (w1.setCells (w.heap.size + 1 + 1) 0 (bz (gsS a))).heap.size) := ae (by rw [size_setCells]; exact ar HZ hb.size);rw [HP.out] at HBK1 HB1 HPR HR2 HZ1;rw [HX.out, HP.out];clear hb hb1 HBK HR HB HA HZ;go_upto_region 2 with (first | (refine aG rfl (eh (c := p) rfl rfl rfl ?_) ?_; (with_reducible exact HR1.out)) | fail);generalize w1.setCells (w.heap.size + 1 + 1) 0 (bz p) = w2 at *;go_wp2_with (first | (refine av rfl (bJ (c := b) rfl rfl ?_) ?_; (with_reducible exact HBK1.out)) | fail);refine (xr b w2 (HT.out.below HB1)).mono ?_;rintro e w3 ⟨rfl, hb⟩;have hb3 := hb.alloc hb.size (.cells (bz (gsS b)).toArray 198);have HPR3 := ae (gp HPR HZ1 hb3);have HR3 := ae (cd HR2 HZ1 hb3);have HB3 := ae (HB1.out.trans (hb3.mono HB1.out.size));have HQR3 := ae (cR.new w3 (gsS b)).range;rw [HQ.out] at HPR3 HR3 HB3 HQR3;rw [HY.out, HQ.out];clear hb hb3 HBK1 HPR HR2 HB1 HR1 HZ1;have hd : decide ((x : Int) < (y : Int)) = false := by simp; omega
 have hd2 : decide (x < y) = false := by simp; omega
 clear hlt;go_upto_region 5 with (first | (refine av rfl (cg rfl) ?_) | (refine aG rfl (dX rfl rfl rfl) ?_) | fail);generalize w3.alloc (.cells (bz q).toArray 198) = w4 at *;go_wp2_with fail;refine wp_region_still_tail 4 (by kernel_rfl) (by kernel_rfl) ?_;simp only [ac];refine aN rfl (aL rfl ajL) ?_;simp only [aa];refine aN rfl (dp (c := p) rfl ajL HPR3) ?_;simp only [aa];refine aN rfl (eA rfl evk) ?_;simp only [aa];refine aN rfl (eA rfl ajL) ?_;simp only [aa];refine wpStill_nil ?_;change wpList _ _ _ _ _ (World.drew _);refine bK rfl (eh (c := p) rfl (ev rfl) (ev rfl) HR3.out) ?_;simp only [aa];refine ah ?_;go_wp2_with fail;refine bodyPost_ret (ua (t := 198) (cs := bz p) rfl _ _ _ rfl ?h1 underlying198 rfl ?h2) rfl ⟨by rw [HX.out, HP.out]; rfl, ?h3⟩
 case h1 => exact World.rangeAt_setCells_same _ _ _ _ (by rw [a7]; exact HR3)
 case h2 => rw [a7]; exact jV
 case h3 => exact below_setCells (bd HB3) (by omega) _
theorem afa (a b : Blk) (w : World) (T : Tab w) : Calls prog 149 #[blk a, blk b] w fun e w' => e = .returned (.tuple #[.int .i64 (nwW a b : Nat), .int .u64 (nwN a b : Nat), sup (nwS a b)]) /\ Below w.heap.size w w' := by
 unfold nwW nwN nwS;by_cases hlt : gsN a < gsN b
 ·rw [if_pos hlt, if_pos hlt, if_pos hlt];exact zy a b w T hlt
 ·rw [if_neg hlt, if_neg hlt, if_neg hlt];exact zH a b w T hlt
theorem afp (w : World) (a b : Blk) : ((w.alloc (.cells (cel a).toArray 44)).alloc (.cells (cel b).toArray 44)).rangeAt w.heap.size 0 (cel a) /\ ((w.alloc (.cells (cel a).toArray 44)).alloc (.cells (cel b).toArray 44)).rangeAt (w.heap.size + 1) 0 (cel b) /\ Below w.heap.size w ((w.alloc (.cells (cel a).toArray 44)).alloc (.cells (cel b).toArray 44)) /\ w.heap.size + 1 < ((w.alloc (.cells (cel a).toArray 44)).alloc (.cells (cel b).toArray 44)).heap.size := by
 have e1 := World.size_alloc (w := w) (o := Obj.cells (cel a).toArray 44);refine ⟨World.rangeAt_alloc (dK w (cel a) _) _, ?_, ?_, by simp only [World.size_alloc]; omega⟩
 ·rw [<- e1]; exact dK _ (cel b) _
 ·exact ((Below.refl _ w).alloc aj _).alloc (by omega) _
theorem adp (a b : Blk) : mo a b = if nwN a b ≠ 0 /\ nwW a b = 0 then 1 else 0 := by
 unfold mo nwN nwW;by_cases h : gsN a < gsN b
 ·rw [if_pos h, if_pos h, if_neg (by omega), if_neg (by omega)]
 ·rw [if_neg h, if_neg h];by_cases h0 : gsN a ≠ 0
  ·rw [if_pos ⟨h0, h⟩, if_pos ⟨h0, rfl⟩]
  ·rw [if_neg (by omega), if_neg (by omega)]
theorem adA (a b : Blk) : nwW a b = 0 \/ nwW a b = 1 := by unfold nwW; split <;> omega
theorem ahX (a b : Blk) (w : World) (T : Tab w) : Calls prog 143 #[blk a, blk b] w fun e w' => e = .returned (.int .i64 (mo a b : Nat)) /\ Below w.heap.size w w' := by
 obtain ⟨h1, h2, h4, h5⟩ := afp w a b;have HSL := ae (adp a b);have h2w := adA a b;obtain ⟨n, hn⟩ : ∃ n, nwN a b = n := ⟨_, rfl⟩;obtain ⟨k, hk⟩ : ∃ k, nwW a b = k := ⟨_, rfl⟩;obtain ⟨p, hp⟩ : ∃ p, nwS a b = p := ⟨_, rfl⟩;rw [hn, hk] at HSL;rw [hk] at h2w;have HA := ae h1;have HBK := ae h2;have HB := ae h4;have HT := ae (T.below h4);have HN := ae hn;have HK := ae hk;have HP := ae hp;clear h1 h2 h4 h5 T hn hk hp;go_enter func143, ntmps143;go_wp2_with (first | (refine av rfl (cP rfl rfl) ?_) | (refine av rfl (bJ (c := a) rfl rfl ?_) ?_; (with_reducible exact HA.out)) | (refine av rfl (bJ (c := b) rfl rfl ?_) ?_; (with_reducible exact HBK.out)) | fail);refine (afa a b _ HT).mono ?_;rintro e w1 ⟨rfl, hb⟩;rw [HN.out, HK.out, HP.out];have hb1 := HB.out.trans (hb.mono HB.out.size);have HB1 := ae (hb1.alloc hb1.size (.cells (bz p).toArray 198));clear hb hb1 HA HBK HB HT;by_cases hn0 : n = 0
 ·subst hn0;rw [if_neg (by omega)] at HSL;go_wp2_with (first | (refine av rfl (cg rfl) ?_) | (refine aG rfl (dX rfl rfl rfl) ?_) | fail);go_ret;exact ⟨by rw [HSL.out]; rfl, HB1⟩
 ·have hne : ((n : Int) != 0) = true := by simp; omega
  rcases h2w with rfl | rfl
  ·rw [if_pos ⟨hn0, rfl⟩] at HSL;clear hn0;go_wp2_with (first | (refine av rfl (cg rfl) ?_) | (refine aG rfl (dX rfl rfl rfl) ?_) | fail);go_ret;exact ⟨by rw [HSL.out]; rfl, HB1⟩
  ·rw [if_neg (by omega)] at HSL;clear hn0;go_wp2_with (first | (refine av rfl (cg rfl) ?_) | (refine aG rfl (dX rfl rfl rfl) ?_) | fail);go_ret;exact ⟨by rw [HSL.out]; rfl, HB1⟩
def same (a b : List UInt8) : Bool := a == b
theorem rB (x : Ros) (m : Int) (w : World) : Calls prog 115 #[ros x, .int .i64 m] w fun e w' => e = .returned (.bool (eI x m)) /\ Below w.heap.size w w' := by
 obtain ⟨h1, h2, h3⟩ := cX w x;have HR := ae h1;have HB := ae h2;have HC := ae h1.cells.1;clear h1 h2 h3;have HF : Hid (eI x m = decide (0 <= m /\ m < x.m)) := ae rfl;go_enter func115, ntmps115;go_upto_region 1 with (first | (refine av rfl (aY rfl rfl) ?_) | fail);generalize w.alloc (.cells (aX x).toArray 58) = w1 at *;generalize x.m = k at *;by_cases h0 : 0 <= m
 ·have H0 : Hid (decide ((0 : Int) <= m) = true) := ae (ao h0);refine aH 1 ?_;refine ajB (dv true rfl ajL evk H0) ?_;refine runs 2 ?_;refine ajI (ax rfl ajL o6) ?_;refine ajI (ax rfl ajL ov) ?_;refine ajI (aC rfl ajL (bY HC)) ?_;by_cases h1 : m < k
  ·have H1 : Hid (decide (m < k) = true) := ae (ao h1);have HE : Hid (eI x m = true) := ae (by rw [HF.out, ao ⟨h0, h1⟩]);clear h0 h1;refine ajI (aZ true rfl ajL ajL H1) ?_;refine aF 2 ?_;go_wp2_with fail;go_ret;exact ⟨a8 (by rw [HE.out]), HB⟩
  ·have H1 : Hid (decide (m < k) = false) := ae (am h1);have HE : Hid (eI x m = false) := ae (by rw [HF.out, am (fun e => h1 e.2)]);clear h0 h1;refine ajI (aZ false rfl ajL ajL H1) ?_;refine aF 2 ?_;go_wp2_with fail;go_ret;exact ⟨a8 (by rw [HE.out]), HB⟩
 ·have H0 : Hid (decide ((0 : Int) <= m) = false) := ae (am h0);have HE : Hid (eI x m = false) := ae (by rw [HF.out, am (fun e => h0 e.1)]);clear h0;refine aH 1 ?_;refine ajB (dv false rfl ajL evk H0) ?_;refine a6 5 rfl (aL rfl ajL) (by kernel_rfl) ?_;simp only [bH, ac, aa];refine aF 2 ?_;go_wp2_with fail;go_ret;exact ⟨a8 (by rw [HE.out]), HB⟩
theorem x9 (x : Ros) (m : Int) (w : World) : Calls prog 117 #[ros x, .int .i64 m] w fun e w' => e = .returned (.bool (kF x m)) /\ Below w.heap.size w w' := by
 obtain ⟨h1, h2, h3⟩ := cX w x;have HR := ae h1;have HB := ae h2;have HC := ae h1.cells.2.1;clear h1 h2 h3;have HF : Hid (kF x m = decide (0 <= m /\ m < x.s)) := ae rfl;go_enter func117, ntmps117;go_upto_region 1 with (first | (refine av rfl (aY rfl rfl) ?_) | fail);generalize w.alloc (.cells (aX x).toArray 58) = w1 at *;generalize x.s = k at *;by_cases h0 : 0 <= m
 ·have H0 : Hid (decide ((0 : Int) <= m) = true) := ae (ao h0);refine aH 1 ?_;refine ajB (dv true rfl ajL evk H0) ?_;refine runs 2 ?_;refine ajI (ax rfl ajL o6) ?_;refine ajI (ax rfl ajL abH) ?_;refine ajI (aC rfl ajL (bY HC)) ?_;by_cases h1 : m < k
  ·have H1 : Hid (decide (m < k) = true) := ae (ao h1);have HE : Hid (kF x m = true) := ae (by rw [HF.out, ao ⟨h0, h1⟩]);clear h0 h1;refine ajI (aZ true rfl ajL ajL H1) ?_;refine aF 2 ?_;go_wp2_with fail;go_ret;exact ⟨a8 (by rw [HE.out]), HB⟩
  ·have H1 : Hid (decide (m < k) = false) := ae (am h1);have HE : Hid (kF x m = false) := ae (by rw [HF.out, am (fun e => h1 e.2)]);clear h0 h1;refine ajI (aZ false rfl ajL ajL H1) ?_;refine aF 2 ?_;go_wp2_with fail;go_ret;exact ⟨a8 (by rw [HE.out]), HB⟩
 ·have H0 : Hid (decide ((0 : Int) <= m) = false) := ae (am h0);have HE : Hid (kF x m = false) := ae (by rw [HF.out, am (fun e => h0 e.1)]);clear h0;refine aH 1 ?_;refine ajB (dv false rfl ajL evk H0) ?_;refine a6 5 rfl (aL rfl ajL) (by kernel_rfl) ?_;simp only [bH, ac, aa];refine aF 2 ?_;go_wp2_with fail;go_ret;exact ⟨a8 (by rw [HE.out]), HB⟩
theorem abh (x : Ros) (c : Int) (w : World) : Calls prog 116 #[ros x, .int .u8 c] w fun e w' => e = .returned (.int .i64 (many x c : Nat)) /\ Below w.heap.size w w' := by
 obtain ⟨h1, h2, h3⟩ := cX w x;have HR := ae h1;have HB := ae h2;clear h1 h2 h3;have HL := ae (jB x.st);have HH := ae (adj x c);go_enter func116, ntmps116;go_wp2_with (first | (refine av rfl (aY rfl rfl) ?_) | (refine av rfl (dW HL.out rfl rfl ?_) ?_; (with_reducible exact HR.out.sts)) | fail);generalize w.alloc (.cells (aX x).toArray 58) = w1 at *;generalize x.st.toList = l at *
 go_loop [5, 10] (fun n i => ∃ j : Nat, j <= 16 /\ i = .int .i64 j /\ n = .int .i64 (my l c j : Nat)) (fun _ i => 16 - (intOf i).toNat)
 case atStart => exact ⟨0, Nat.zero_le _, rfl, rfl⟩
 case round =>
  obtain ⟨j, hj, rfl, rfl⟩ := hrel;by_cases hlt : j < 16
  ·have hs := ae (fS l c j);have hle := xC l c j;generalize my l c j = n at *;by_cases h2 : bt l j = c
   ·rw [if_pos h2] at hs;have hd : (bt l j == c) = true := by simpa using h2
    clear h2;go_wp2_with (first | (refine av rfl (ew (l := l) (j := j) HL hlt rfl rfl rfl) ?_) | fail)
    go_round
    case rel => exact ⟨j + 1, by omega, by go_num, by rw [hs.out]; go_num⟩
    case measure => simp [intOf]; omega
   ·rw [if_neg h2] at hs;have hd : (bt l j == c) = false := by simpa using h2
    clear h2;go_wp2_with (first | (refine av rfl (ew (l := l) (j := j) HL hlt rfl rfl rfl) ?_) | fail)
    go_round
    case rel => exact ⟨j + 1, by omega, by go_num, by rw [hs.out, Nat.add_zero]⟩
    case measure => simp [intOf]; omega
  ·have e : j = 16 := by omega
   subst e;go_wp2;go_ret;exact ⟨by rw [HH.out]; rfl, HB⟩
theorem aez (x : Ros) (w : World) : Calls prog 79 #[ros x] w fun e w' => e = .returned (.bool (uo x)) /\ Below w.heap.size w w' := by
 obtain ⟨h1, h2, h3⟩ := cX w x;have HR := ae h1;have HB := ae h2;have HZ := ae h3;clear h1 h2 h3;have HC : Hid (uo x = if many x 2 = 0 then decide (x.cur = 0) else kF x x.cur) := ae (by rw [<- gU]; rfl);go_enter func79, ntmps79;go_wp2_with (first | (refine av rfl (aY rfl rfl) ?_) | (refine av rfl (bf (c := x) rfl rfl ?_) ?_; (with_reducible exact HR.out.range)) | fail);generalize w.alloc (.cells (aX x).toArray 58) = w1 at *;refine (abh x 2 w1).mono ?_;rintro e w2 ⟨rfl, hb⟩;have HR2 := ae (HR.out.below HZ hb);obtain ⟨c0, c1, c2, c3, c4⟩ := HR2.out.cells;have HB2 := ae (HB.out.trans (hb.mono (Nat.le_of_lt HZ)));have HZ2 := ae (aT HR2);clear hb;by_cases h0 : many x 2 = 0
 ·rw [if_pos h0] at HC;rw [h0];go_wp2;go_ret;exact ⟨a8 (by rw [HC.out, Bool.eq_iff_iff]; simp), HB2⟩
 ·rw [if_neg h0] at HC;have hd : ((many x 2 : Int) == 0) = false := by simp; omega
  clear h0;generalize many x 2 = n at *;go_wp2_with (first | (refine av rfl (bf (c := x) rfl rfl ?_) ?_; (with_reducible exact HR2.out.range)) | fail);refine (x9 x x.cur w2).mono ?_;rintro e w3 ⟨rfl, hb⟩;have HB3 := ae (HB2.out.trans (hb.mono (Nat.le_of_lt HZ2)));clear hb;go_wp2_with fail;go_ret;exact ⟨a8 (by rw [HC.out]), HB3⟩
theorem ahK {x : Ros} (h1 : ∀ k, k < 16 -> sta x k <= 2) (h2 : ∀ k : Nat, k < 16 -> sta x k ≠ 0 -> eI x (k : Int) = true) : fE x = true :=
 jg.2 ⟨h1, fun k hk hm => Classical.byContradiction fun h0 => by have := nC (h2 k hk h0); omega⟩
theorem ae0 {x : Ros} {k : Nat} (hk : k < 16) (h : 2 < sta x k) : fE x = false := Bool.eq_false_iff.2 fun hs => by have := (iy hs).1 k hk; omega
theorem ae1 {x : Ros} {k : Nat} (hk : k < 16) (h0 : sta x k ≠ 0) (h : eI x (k : Int) = false) : fE x = false := Bool.eq_false_iff.2 fun hs => by
 have h1 := of_decide_eq_false h;exact h0 ((iy hs).2 k hk (by omega))
theorem ada (x : Ros) (w : World) : Calls prog 78 #[ros x] w fun e w' => e = .returned (.bool (fE x && decide (dz x <= 1))) /\ Below w.heap.size w w' := by
 obtain ⟨h1, h2, h3⟩ := cX w x;have HR := ae h1;have HB := ae h2;have HZ := ae h3;clear h1 h2 h3;have HL := ae (jB x.st);have HOK : Hid ((∀ k, k < 16 -> bt x.st.toList k <= 2) -> (∀ k : Nat, k < 16 -> bt x.st.toList k ≠ 0 -> eI x (k : Int) = true) -> fE x = true) := ae ahK;have HBIG : Hid (∀ k, k < 16 -> 2 < bt x.st.toList k -> fE x = false) := ae fun k => ae0
 have HFAR : Hid (∀ k : Nat, k < 16 -> bt x.st.toList k ≠ 0 -> eI x (k : Int) = false -> fE x = false) := ae fun k => ae1
 go_enter func78, ntmps78;go_wp2_with (first | (refine av rfl (aY rfl rfl) ?_) | (refine av rfl (dW HL.out rfl rfl ?_) ?_; (with_reducible exact HR.out.sts)) | fail);generalize w.alloc (.cells (aX x).toArray 58) = w1 at *;have hb0 := HB.out;have hr0 := HR.out;clear HB HR HZ
 go_loopw [7] (fun i wr => ∃ j : Nat, j <= 16 /\ i = .int .i64 j /\ Below w.heap.size w wr /\ bD wr w.heap.size x /\ (∀ k, k < j -> bt x.st.toList k <= 2) /\ (∀ k : Nat, k < j -> bt x.st.toList k ≠ 0 -> eI x (k : Int) = true)) (fun i _ => 16 - (intOf i).toNat)
 case atStart => exact ⟨0, Nat.zero_le _, rfl, hb0, hr0, fun k hk => absurd hk (by omega), fun k hk => absurd hk (by omega)⟩
 case round =>
  clear hb0 hr0;obtain ⟨j, hj, rfl, hb, hr, h1, h2⟩ := hrel;have HB := ae hb;have HR := ae hr;have HZ := ae (aT hr);have HA1 := ae h1;have HA2 := ae h2;clear hb hr h1 h2;by_cases hlt : j < 16
  ·have HS : Hid (bt x.st.toList j <= 2 -> ∀ k, k < j + 1 -> bt x.st.toList k <= 2) := ae fun hv k hk => by
    by_cases e : k = j
    ·rw [e]; exact hv
    ·exact HA1.out k (by omega)
   have HT : Hid ((bt x.st.toList j ≠ 0 -> eI x (j : Int) = true) -> ∀ k : Nat, k < j + 1 -> bt x.st.toList k ≠ 0 -> eI x (k : Int) = true) := ae fun hv k hk h0 => by
    by_cases e : k = j
    ·rw [e] at h0 ⊢; exact hv h0
    ·exact HA2.out k (by omega) h0
   have HLO := ae (kK x.st.toList j);have HG := ae (HBIG.out j hlt);have HFR := ae (HFAR.out j hlt);clear HOK HBIG HFAR HA1 HA2;obtain ⟨v, hv⟩ : ∃ v, bt x.st.toList j = v := ⟨_, rfl⟩;rw [hv] at HS HT HLO HG HFR;have HV := ae hv;clear hv;by_cases v0 : v = 0
   ·have HN1 := ae (HS.out (by omega));have HN2 := ae (HT.out (fun h => absurd v0 h));have d0 : (v == 0) = true := by simpa using v0
    clear v0;go_wp2_with (first | (refine av rfl (ew (l := x.st.toList) (j := j) HL hlt rfl rfl rfl) ?_; rw [HV.out]) | fail);go_roundw
    case rel => exact ⟨j + 1, by omega, by go_num, HB, HR, HN1, HN2⟩
    case measure => simp [intOf]; omega
   ·by_cases vb : 2 < v
    ·have HF := ae (HG.out vb);have d0 : (v == 0) = false := by simp; omega
     have d1 : (v == 1) = false := by simp; omega
     have d2 : (v == 2) = false := by simp; omega
     clear v0 vb;go_wp2_with (first | (refine av rfl (ew (l := x.st.toList) (j := j) HL hlt rfl rfl rfl) ?_; rw [HV.out]) | fail);go_ret;exact ⟨a8 (by rw [HF.out]; rfl), HB⟩
    ·have HN1 := ae (HS.out (by omega));have HV0 := ae v0;have d0 : (v == 0) = false := by simpa using v0
     obtain ⟨q, hq⟩ : ∃ q, eI x (j : Int) = q := ⟨_, rfl⟩;have HQ := ae hq;rw [hq] at HT HFR;clear hq;have hv2 : v = 1 \/ v = 2 := by have := HLO.out; omega
     rcases hv2 with e | e
     ·have d1 : (v == 1) = true := by simpa using e
      clear e v0 vb;go_wp2_with (first | (refine av rfl (ew (l := x.st.toList) (j := j) HL.out hlt rfl rfl rfl) ?_; rw [HV.out]) | (refine av rfl (bf (c := x) rfl rfl ?_) ?_; (with_reducible exact HR.out.range)) | fail);refine (rB x (j : Int) wr).mono ?_;rintro e w3 ⟨rfl, hb⟩;rw [HQ.out];have HB3 := ae (HB.out.trans (hb.mono (Nat.le_of_lt HZ)));have HR3 := ae (HR.out.below HZ hb);clear hb HR HB HZ;cases q
      ·have HF := ae (HFR.out HV0 rfl);go_wp2_with fail;go_ret;exact ⟨a8 (by rw [HF.out]; rfl), HB3⟩
      ·have HN2 := ae (HT.out (fun _ => rfl));go_wp2_with fail;go_roundw
       case rel => exact ⟨j + 1, by omega, by go_num, HB3, HR3, HN1, HN2⟩
       case measure => simp [intOf]; omega
     ·have d1 : (v == 1) = false := by simp; omega
      have d2 : (v == 2) = true := by simpa using e
      clear e v0 vb;go_wp2_with (first | (refine av rfl (ew (l := x.st.toList) (j := j) HL.out hlt rfl rfl rfl) ?_; rw [HV.out]) | (refine av rfl (bf (c := x) rfl rfl ?_) ?_; (with_reducible exact HR.out.range)) | fail);refine (rB x (j : Int) wr).mono ?_;rintro e w3 ⟨rfl, hb⟩;rw [HQ.out];have HB3 := ae (HB.out.trans (hb.mono (Nat.le_of_lt HZ)));have HR3 := ae (HR.out.below HZ hb);clear hb HR HB HZ;cases q
      ·have HF := ae (HFR.out HV0 rfl);go_wp2_with fail;go_ret;exact ⟨a8 (by rw [HF.out]; rfl), HB3⟩
      ·have HN2 := ae (HT.out (fun _ => rfl));go_wp2_with fail;go_roundw
       case rel => exact ⟨j + 1, by omega, by go_num, HB3, HR3, HN1, HN2⟩
       case measure => simp [intOf]; omega
  ·have e : j = 16 := by omega
   subst e;have HE := ae (HOK.out HA1 HA2);clear HOK HBIG HFAR HA1 HA2 hlt hj;go_wp2_with (first | (refine av rfl (bf (c := x) rfl rfl ?_) ?_; (with_reducible exact HR.out.range)) | fail);refine (abh x 2 wr).mono ?_;rintro e w3 ⟨rfl, hb⟩;have HB3 := ae (HB.out.trans (hb.mono (Nat.le_of_lt HZ)));clear hb;have hm := ae (gU x);generalize many x 2 = n at *;go_wp2;go_ret;exact ⟨a8 (by rw [HE.out, Bool.true_and, hm.out, decide_eq_decide]; omega), HB3⟩
theorem aji (x : Ros) (w : World) : Calls prog 42 #[ros x] w fun e w' => e = .returned (.bool (aU x)) /\ Below w.heap.size w w' := by
 have HF := ae (pO x);obtain ⟨h1, h2, h3⟩ := cX w x;have HR := ae h1;have HB := ae h2;have HZ := ae h3;clear h1 h2 h3;go_enter func42, ntmps42;go_wp2_with (first | (refine av rfl (aY rfl rfl) ?_) | (refine av rfl (dd (c := x) rfl rfl ?_) ?_; (with_reducible exact HR.out.geo)) | fail);generalize w.alloc (.cells (aX x).toArray 58) = w1 at *;refine (uO x w1).mono ?_;rintro e w2 ⟨rfl, hb⟩;have HR2 := ae (HR.out.below HZ hb);have HB2 := ae (HB.out.trans (hb.mono (Nat.le_of_lt HZ)));have HZ2 := ae (aT HR2);clear hb HR HB HZ;generalize dA x = g at *;cases g
 ·go_wp2_with fail;go_ret;exact ⟨a8 (by rw [HF.out]; rfl), HB2⟩
 ·go_wp2_with (first | (refine ay (by rfl) (bf (c := x) rfl rfl ?_) ?_; (with_reducible exact HR2.out.range)) | fail);refine (ada x w2).mono ?_;rintro e w3 ⟨rfl, hb⟩;have HR3 := ae (HR2.out.below HZ2 hb);have HB3 := ae (HB2.out.trans (hb.mono (Nat.le_of_lt HZ2)));have HZ3 := ae (aT HR3);clear hb HR2 HB2 HZ2;generalize (fE x && decide (dz x <= 1)) = p at *;cases p
  ·go_wp2_with fail;go_ret;exact ⟨a8 (by rw [HF.out]; rfl), HB3⟩
  ·go_wp2_with (first | (refine ay (by rfl) (bf (c := x) rfl rfl ?_) ?_; (with_reducible exact HR3.out.range)) | fail);refine (aez x w3).mono ?_;rintro e w4 ⟨rfl, hb⟩;have HB4 := ae (HB3.out.trans (hb.mono (Nat.le_of_lt HZ3)));clear hb;generalize uo x = q at *;go_wp2_with fail;go_ret;exact ⟨a8 (by rw [HF.out]; rfl), HB4⟩
theorem ai4 (x : Ros) (w : World) : Calls prog 44 #[ros x] w fun e w' => e = .returned (.bool (aU x)) /\ Below w.heap.size w w' := by
 obtain ⟨h1, h2, h3⟩ := cX w x;have HR := ae h1;have HB := ae h2;have HZ := ae h3;clear h1 h2 h3;go_enter func44, ntmps44;go_wp2_with (first | (refine av rfl (aY rfl rfl) ?_) | (refine av rfl (bf (c := x) rfl rfl ?_) ?_; (with_reducible exact HR.out.range)) | fail);generalize w.alloc (.cells (aX x).toArray 58) = w1 at *;refine (afH x w1).mono ?_;rintro e w2 ⟨rfl, hb⟩;have HB2 := ae (HB.out.trans (hb.mono (Nat.le_of_lt HZ)));clear hb;go_wp2_with fail;go_ret;exact ⟨rfl, HB2⟩
def setW (w : World) (b o : Nat) (v : Value) : World := w.setCell ⟨b, o, none⟩ v
def iQ (w : World) (b : Nat) (x : Ros) : World := w.setCells b 0 (aX x)
section
variable {w w0 : World} {b k o : Nat} {v : Value} {x y : Ros}
theorem vi {B : Nat} (h : Below B w0 w) (hb : B <= b) : Below B w0 (setW w b o v) := below_setCells h hb [v]
theorem aaZ (hne : k ≠ b) : (setW w b o v).heap[k]? = w.heap[k]? := heap_setCell_other w ⟨b, o, none⟩ k v hne
theorem qN : (iQ w b x).heap.size = w.heap.size := (fX b _ 0 w).1
theorem gO {B : Nat} (h : Below B w0 w) (hb : B <= b) : Below B w0 (iQ w b x) := below_setCells h hb _
theorem uI (hne : k ≠ b) : (iQ w b x).heap[k]? = w.heap[k]? := eP b _ 0 w k hne
theorem jC (h : bD w b y) : bD (iQ w b x) b x := by
 have h' : w.heap[b]? = some (.cells ([] ++ aX y ++ []).toArray 58 (0, 0)) := by rw [List.nil_append, List.append_nil]; exact h
 have := heap_put b 58 [] (aX x) (aX y) [] w (by rw [bq, bq]) h';rw [List.nil_append, List.append_nil] at this;exact this
theorem adm (x : Ros) {j : Nat} (hj : j < 16) (u : UInt8) : (aX x).set (3 + j) (.int .u8 (u.toNat : Int)) = aX (gR x j u) := by
 rw [jz x, jz (gR x j u), l9];have e1 : dR (gR x j u) = dR x := rfl;rw [e1, List.set_append_right _ _ (by simp [dR]), show 3 + j - (dR x).length = j from by simp [dR], List.set_append_left _ _ (by rw [bi]; simp; omega)];unfold vals;rw [List.map_set]
 rfl
theorem acj (x : Ros) (c : Int) : (aX x).set 19 (.int .i64 c) = aX (mC x c) := by
 rw [jz x, jz (mC x c)];have e1 : dR (mC x c) = dR x := rfl;rw [e1, List.set_append_right _ _ (by simp [dR]), show 19 - (dR x).length = 16 from rfl, List.set_append_right _ _ (by rw [bi]; simp), show 16 - (vals x.st.toList).length = 0 from by rw [bi]; simp]
 rfl
theorem bD.setW (h : bD w b x) (hy : (aX x).set o v = aX y) : bD (setW w b o v) b y := by
 have := heap_setCell_same w b o _ 58 v h;rw [List.setIfInBounds_toArray, hy] at this;exact this
theorem bD.there (h : bD w b x) {o n : Nat} (hn : o + n <= 21) : w.there b o n := dQ h (by rw [bq]; exact hn)
end
section
variable {ρ : Operand -> Value} {o : Oper} {x y : Operand} {w : World} {b off : Nat} {c d : Ros}
theorem dJ (ho : o.op = .store 58 x y) (hx : ρ x = .pointer (some ⟨b, 0, none⟩)) (hy : ρ y = ros c) (h : bD w b d) : (execOp ρ o).run prog w = .ok .skip (iQ w b c) :=
 fR (by rw [bq]; exact sQ) (lU c) ho hx hy (by rw [bq]; exact h.there (by omega))
theorem abg (h : w.there b off 1) : ∃ v, w.cell? ⟨b, off, none⟩ = some v /\ w.frozen? ⟨b, off, none⟩ = false := by
 have := h 0 (by omega);rw [Nat.add_zero] at this;obtain ⟨h1, h2⟩ := this;obtain ⟨v, hv⟩ := Option.isSome_iff_exists.1 h1;exact ⟨v, hv, h2⟩
theorem tP {u : Int} (ho : o.op = .store 5 x y) (hx : ρ x = .pointer (some ⟨b, off, none⟩)) (hy : ρ y = .int .u8 u) (h : w.there b off 1) : (execOp ρ o).run prog w = .ok .skip (setW w b off (.int .u8 u)) := by
 obtain ⟨v, hc, hf⟩ := abg h;exact c7 ho hx hy (by simp [go_sem, hc, hf, setW])
theorem abz {u : Int} (ho : o.op = .store 3 x y) (hx : ρ x = .pointer (some ⟨b, off, none⟩)) (hy : ρ y = .int .i64 u) (h : w.there b off 1) : (execOp ρ o).run prog w = .ok .skip (setW w b off (.int .i64 u)) := by
 obtain ⟨v, hc, hf⟩ := abg h;exact c7 ho hx hy (by simp [go_sem, hc, hf, setW])
theorem aW (ho : o.op = .load 58 x) (hx : ρ x = .pointer (some ⟨b, 0, none⟩)) (h : bD w b c) : (execOp ρ o).run prog w = .ok (.value (ros c)) w := bf ho hx h.range
theorem zw (w : World) : (Instr.build 58 #[]).run prog w = .ok (ros bF) w := by kernel_rfl
theorem pe (ho : o.op = .build 58 #[]) : (execOp ρ o).run prog w = .ok (.value (ros bF)) w := i4 ho (zw w)
theorem vA {ad : Addr} {n : Bool} (h : w.cell? ad = some (.bool n)) : (Instr.loadAt 4 (.pointer (some ad))).run prog w = .ok (.bool n) w := by simp [go_sem, h]
theorem vU {b : Nat} : (Instr.fieldAt 58 (.pointer (some ⟨b, 0, none⟩)) 3).run prog w = .ok (.pointer (some ⟨b, 20, none⟩)) w := by kernel_rfl
theorem kU {fn : Func} {p u : Tmp} (h : fn.results = #[.cell p 58, .tmp u]) (tmps : Array Value) (w : World) (b : Nat) (hp : tmps.getD p undef = .pointer (some ⟨b, 0, none⟩)) (hc : bD w b c) :
  (results fn tmps).run prog w = .ok (.tuple #[ros c, tmps.getD u undef]) w := by
 have hl : (loadVar 58 ⟨b, 0, none⟩).run prog w = .ok (ros c) w := run_loadVar_mid w b 0 58 (aX c) _ hc.range underlying58 rfl (by rw [bq]; exact sQ);have hp' : tmps[p]?.getD undef = .pointer (some ⟨b, 0, none⟩) := by simpa using hp
 simp [results, h, hp', asAddr, hl]
end
structure kG (w0 w : World) (x y : Ros) : Prop where
 bel : Below w0.heap.size w0 w
 at0 : bD w w0.heap.size x
 at1 : bD w (w0.heap.size + 1) y
theorem kG.new (w : World) (x : Ros) : kG w ((w.alloc (.cells (aX x).toArray 58)).alloc (.cells (aX bF).toArray 58)) x bF := by
 refine ⟨((Below.refl _ w).alloc aj _).alloc (by simp) _, (bD.new w x).past _, ?_⟩;have := bD.new (w.alloc (.cells (aX x).toArray 58)) bF;rwa [World.size_alloc] at this
section
variable {w0 w w' : World} {x y z : Ros}
theorem kG.call (h : kG w0 w x y) (hb : Below w.heap.size w w') : kG w0 w' x y :=
 ⟨h.bel.trans (hb.mono h.bel.size), h.at0.below (aT h.at0) hb, h.at1.below (aT h.at1) hb⟩
theorem kG.put (h : kG w0 w x y) (z : Ros) : kG w0 (iQ w (w0.heap.size + 1) z) x z :=
 ⟨gO h.bel (by omega), (uI (by omega)).trans h.at0, jC h.at1⟩
theorem kG.set (h : kG w0 w x y) {o : Nat} {v : Value} (hy : (aX x).set o v = aX z) : kG w0 (setW w w0.heap.size o v) z y :=
 ⟨vi h.bel aj, h.at0.setW hy, (aaZ (by omega)).trans h.at1⟩
end
structure iN (w0 w : World) (x : Ros) : Prop where
 bel : Below w0.heap.size w0 w
 at0 : bD w w0.heap.size x
theorem iN.new (w : World) (x : Ros) : iN w (w.alloc (.cells (aX x).toArray 58)) x := ⟨(cX w x).2.1, (cX w x).1⟩
theorem iN.call {w0 w w' : World} {x : Ros} (h : iN w0 w x) (hb : Below w.heap.size w w') : iN w0 w' x :=
 ⟨h.bel.trans (hb.mono h.bel.size), h.at0.below (aT h.at0) hb⟩
theorem iN.above {w0 w w' : World} {x : Ros} (h : iN w0 w x) (hb : Below w.heap.size w w') : bD w' w0.heap.size x := h.at0.below (aT h.at0) hb
section
variable {x : Ros} {m : Int} {c : Int} {b : Bool} (w : World)
theorem dI (h : aU x = b) : Calls prog 42 #[ros x] w fun e w' => e = .returned (.bool b) /\ Below w.heap.size w w' := by subst h; exact aji x w
theorem wW (h : aU x = b) : Calls prog 44 #[ros x] w fun e w' => e = .returned (.bool b) /\ Below w.heap.size w w' := by subst h; exact ai4 x w
theorem er (h : eI x m = b) : Calls prog 115 #[ros x, .int .i64 m] w fun e w' => e = .returned (.bool b) /\ Below w.heap.size w w' := by subst h; exact rB x m w
theorem iR (h : kF x m = b) : Calls prog 117 #[ros x, .int .i64 m] w fun e w' => e = .returned (.bool b) /\ Below w.heap.size w w' := by subst h; exact x9 x m w
theorem fh {n : Nat} (h : many x c = n) : Calls prog 116 #[ros x, .int .u8 c] w fun e w' => e = .returned (.int .i64 (n : Nat)) /\ Below w.heap.size w w' := by subst h; exact abh x c w
end
theorem agT {x : Ros} {m s : Int} (hf : aU x = false) (w : World) : Calls prog 111 #[ros x, .int .i64 m, .int .i64 s] w fun e w' => e = .returned (.bool false) /\ Below w.heap.size w w' := by
 have HT1 := ae (iN.new w x);have HF := ae hf;clear hf;go_enter func111, ntmps111;go_upto_region 1 with (first | (refine av rfl (aY rfl rfl) ?_) | fail);generalize w.alloc (.cells (aX x).toArray 58) = w1 at *;refine af ?_;refine ajB (aW rfl ajL (HT1.out.at0)) ?_;refine aw rfl (aA call42 rfl (evc ajL evn)) ?_;refine (dI w1 HF).mono ?_;rintro e w2 ⟨rfl, hb⟩;have HT2 := ae (HT1.out.call hb);clear hb HT1;refine aQ ?_;refine runs 1 ?_;refine a6 4 rfl (aL rfl ajL) (by kernel_rfl) ?_;simp only [bH, ac, aa];refine runs 1 ?_;refine a6 4 rfl (aL rfl ajL) (by kernel_rfl) ?_;simp only [bH, ac, aa];refine aF 1 ?_;go_upto_region 2 with fail;refine bU 1 ?_;go_wp2_with fail;go_ret;exact ⟨rfl, HT2.out.bel⟩
theorem ag4 {x : Ros} {m s : Int} (hf : aU x = true) (hq : eI x m = false) (w : World) : Calls prog 111 #[ros x, .int .i64 m, .int .i64 s] w fun e w' => e = .returned (.bool false) /\ Below w.heap.size w w' := by
 have HT1 := ae (iN.new w x);have HF := ae hf;have HQ := ae hq;clear hf hq;go_enter func111, ntmps111;go_upto_region 1 with (first | (refine av rfl (aY rfl rfl) ?_) | fail);generalize w.alloc (.cells (aX x).toArray 58) = w1 at *;refine af ?_;refine ajB (aW rfl ajL (HT1.out.at0)) ?_;refine aw rfl (aA call42 rfl (evc ajL evn)) ?_;refine (dI w1 HF).mono ?_;rintro e w2 ⟨rfl, hb⟩;have HT2 := ae (HT1.out.call hb);clear hb HT1;refine aQ ?_;refine runs 2 ?_;refine ajI (aW rfl ajL (HT2.out.at0)) ?_;refine runs 1 ?_;refine aw ajw (aA call115 rfl (evc ajL (evc ajL evn))) ?_;refine (er w2 HQ).mono ?_;rintro e w3 ⟨rfl, hb⟩;have HT3 := ae (HT2.out.call hb);clear hb HT2;refine aQ ?_;refine runs 2 ?_;refine a6 4 rfl (aL rfl ajL) (by kernel_rfl) ?_;simp only [bH, ac, aa];refine aF 1 ?_;go_upto_region 2 with fail;refine bU 1 ?_;go_wp2_with fail;go_ret;exact ⟨rfl, HT3.out.bel⟩
theorem ahs {x : Ros} {m s : Int} (hf : aU x = true) (hq : eI x m = true) (hc : kF x s = false) (w : World) : Calls prog 111 #[ros x, .int .i64 m, .int .i64 s] w fun e w' => e = .returned (.bool false) /\ Below w.heap.size w w' := by
 have HT1 := ae (iN.new w x);have HF := ae hf;have HQ := ae hq;have HC := ae hc;clear hf hq hc;go_enter func111, ntmps111;go_upto_region 1 with (first | (refine av rfl (aY rfl rfl) ?_) | fail);generalize w.alloc (.cells (aX x).toArray 58) = w1 at *;refine af ?_;refine ajB (aW rfl ajL (HT1.out.at0)) ?_;refine aw rfl (aA call42 rfl (evc ajL evn)) ?_;refine (dI w1 HF).mono ?_;rintro e w2 ⟨rfl, hb⟩;have HT2 := ae (HT1.out.call hb);clear hb HT1;refine aQ ?_;refine runs 2 ?_;refine ajI (aW rfl ajL (HT2.out.at0)) ?_;refine runs 1 ?_;refine aw ajw (aA call115 rfl (evc ajL (evc ajL evn))) ?_;refine (er w2 HQ).mono ?_;rintro e w3 ⟨rfl, hb⟩;have HT3 := ae (HT2.out.call hb);clear hb HT2;refine aQ ?_;refine runs 3 ?_;refine ajI (aW rfl ajL (HT3.out.at0)) ?_;refine runs 1 ?_;refine aw ajw (aA call117 rfl (evc ajL (evc ajL evn))) ?_;refine (iR w3 HC).mono ?_;rintro e w4 ⟨rfl, hb⟩;have HT4 := ae (HT3.out.call hb);clear hb HT3;refine aQ ?_;refine aF 2 ?_;go_upto_region 2 with fail;refine bU 1 ?_;go_wp2_with fail;go_ret;exact ⟨rfl, HT4.out.bel⟩
theorem af2 {x : Ros} {j : Nat} {s : Int} (hj : j < 16) (hf : aU x = true) (hq : eI x (j : Int) = true) (hc : kF x s = true) (h0 : (sta x j == 0) = true) (w : World) : Calls prog 111 #[ros x, .int .i64 (j : Int), .int .i64 s] w fun e w' => e = .returned (.bool true) /\ Below w.heap.size w w' := by
 have HT1 := ae (iN.new w x);have HF := ae hf;have HQ := ae hq;have HC := ae hc;have H0 := ae h0;clear hf hq hc h0;go_enter func111, ntmps111;go_upto_region 1 with (first | (refine av rfl (aY rfl rfl) ?_) | fail);generalize w.alloc (.cells (aX x).toArray 58) = w1 at *;refine af ?_;refine ajB (aW rfl ajL (HT1.out.at0)) ?_;refine aw rfl (aA call42 rfl (evc ajL evn)) ?_;refine (dI w1 HF).mono ?_;rintro e w2 ⟨rfl, hb⟩;have HT2 := ae (HT1.out.call hb);clear hb HT1;refine aQ ?_;refine runs 2 ?_;refine ajI (aW rfl ajL (HT2.out.at0)) ?_;refine runs 1 ?_;refine aw ajw (aA call115 rfl (evc ajL (evc ajL evn))) ?_;refine (er w2 HQ).mono ?_;rintro e w3 ⟨rfl, hb⟩;have HT3 := ae (HT2.out.call hb);clear hb HT2;refine aQ ?_;refine runs 3 ?_;refine ajI (aW rfl ajL (HT3.out.at0)) ?_;refine runs 1 ?_;refine aw ajw (aA call117 rfl (evc ajL (evc ajL evn))) ?_;refine (iR w3 HC).mono ?_;rintro e w4 ⟨rfl, hb⟩;have HT4 := ae (HT3.out.call hb);clear hb HT3;refine aQ ?_;refine aF 2 ?_;go_upto_region 3 with fail;refine aH 1 ?_;refine ajB (ax rfl ajL nj) ?_;refine ajB (cO rfl ajL ajL (pX hj)) ?_;refine ajB (aC rfl ajL (qg ((HT4.out.at0).sta hj))) ?_;refine ah ?_;go_upto_region 4 with fail;refine af ?_;refine ajB (aE true rfl ajL evk H0) ?_;refine aF 1 ?_;go_upto_region 5 with fail;refine bU 1 ?_;go_wp2_with fail;go_ret;exact ⟨rfl, HT4.out.bel⟩
theorem agr {x : Ros} {j : Nat} {s : Int} (hj : j < 16) (hf : aU x = true) (hq : eI x (j : Int) = true) (hc : kF x s = true) (h0 : (sta x j == 0) = false) (h2 : (sta x j == 2) = true) (hl : decide (s < x.cur) = true) (w : World) : Calls prog 111 #[ros x, .int .i64 (j : Int), .int .i64 s] w fun e w' => e = .returned (.bool true) /\ Below w.heap.size w w' := by
 have HT1 := ae (iN.new w x);have HF := ae hf;have HQ := ae hq;have HC := ae hc;have H0 := ae h0;have H2 := ae h2;have HL := ae hl;clear hf hq hc h0 h2 hl;go_enter func111, ntmps111;go_upto_region 1 with (first | (refine av rfl (aY rfl rfl) ?_) | fail);generalize w.alloc (.cells (aX x).toArray 58) = w1 at *;refine af ?_;refine ajB (aW rfl ajL (HT1.out.at0)) ?_;refine aw rfl (aA call42 rfl (evc ajL evn)) ?_;refine (dI w1 HF).mono ?_;rintro e w2 ⟨rfl, hb⟩;have HT2 := ae (HT1.out.call hb);clear hb HT1;refine aQ ?_;refine runs 2 ?_;refine ajI (aW rfl ajL (HT2.out.at0)) ?_;refine runs 1 ?_;refine aw ajw (aA call115 rfl (evc ajL (evc ajL evn))) ?_;refine (er w2 HQ).mono ?_;rintro e w3 ⟨rfl, hb⟩;have HT3 := ae (HT2.out.call hb);clear hb HT2;refine aQ ?_;refine runs 3 ?_;refine ajI (aW rfl ajL (HT3.out.at0)) ?_;refine runs 1 ?_;refine aw ajw (aA call117 rfl (evc ajL (evc ajL evn))) ?_;refine (iR w3 HC).mono ?_;rintro e w4 ⟨rfl, hb⟩;have HT4 := ae (HT3.out.call hb);clear hb HT3;refine aQ ?_;refine aF 2 ?_;go_upto_region 3 with fail;refine aH 1 ?_;refine ajB (ax rfl ajL nj) ?_;refine ajB (cO rfl ajL ajL (pX hj)) ?_;refine ajB (aC rfl ajL (qg ((HT4.out.at0).sta hj))) ?_;refine ah ?_;go_upto_region 4 with fail;refine af ?_;refine ajB (aE false rfl ajL evk H0) ?_;refine aF 1 ?_;go_upto_region 6 with fail;refine af ?_;refine ajB (aE true rfl ajL evk H2) ?_;refine aF 1 ?_;go_upto_region 7 with fail;refine aH 1 ?_;refine ajB (ax rfl ajL z8) ?_;refine ajB (aC rfl ajL (bY (HT4.out.at0).cells.2.2.2.1)) ?_;refine ajB (aZ true rfl ajL ajL HL) ?_;refine aF 1 ?_;go_wp2_with fail;go_ret;exact ⟨rfl, HT4.out.bel⟩
theorem ahb {x : Ros} {j : Nat} {s : Int} (hj : j < 16) (hf : aU x = true) (hq : eI x (j : Int) = true) (hc : kF x s = true) (h0 : (sta x j == 0) = false) (h2 : (sta x j == 2) = true) (hl : decide (s < x.cur) = false) (w : World) : Calls prog 111 #[ros x, .int .i64 (j : Int), .int .i64 s] w fun e w' => e = .returned (.bool false) /\ Below w.heap.size w w' := by
 have HT1 := ae (iN.new w x);have HF := ae hf;have HQ := ae hq;have HC := ae hc;have H0 := ae h0;have H2 := ae h2;have HL := ae hl;clear hf hq hc h0 h2 hl;go_enter func111, ntmps111;go_upto_region 1 with (first | (refine av rfl (aY rfl rfl) ?_) | fail);generalize w.alloc (.cells (aX x).toArray 58) = w1 at *;refine af ?_;refine ajB (aW rfl ajL (HT1.out.at0)) ?_;refine aw rfl (aA call42 rfl (evc ajL evn)) ?_;refine (dI w1 HF).mono ?_;rintro e w2 ⟨rfl, hb⟩;have HT2 := ae (HT1.out.call hb);clear hb HT1;refine aQ ?_;refine runs 2 ?_;refine ajI (aW rfl ajL (HT2.out.at0)) ?_;refine runs 1 ?_;refine aw ajw (aA call115 rfl (evc ajL (evc ajL evn))) ?_;refine (er w2 HQ).mono ?_;rintro e w3 ⟨rfl, hb⟩;have HT3 := ae (HT2.out.call hb);clear hb HT2;refine aQ ?_;refine runs 3 ?_;refine ajI (aW rfl ajL (HT3.out.at0)) ?_;refine runs 1 ?_;refine aw ajw (aA call117 rfl (evc ajL (evc ajL evn))) ?_;refine (iR w3 HC).mono ?_;rintro e w4 ⟨rfl, hb⟩;have HT4 := ae (HT3.out.call hb);clear hb HT3;refine aQ ?_;refine aF 2 ?_;go_upto_region 3 with fail;refine aH 1 ?_;refine ajB (ax rfl ajL nj) ?_;refine ajB (cO rfl ajL ajL (pX hj)) ?_;refine ajB (aC rfl ajL (qg ((HT4.out.at0).sta hj))) ?_;refine ah ?_;go_upto_region 4 with fail;refine af ?_;refine ajB (aE false rfl ajL evk H0) ?_;refine aF 1 ?_;go_upto_region 6 with fail;refine af ?_;refine ajB (aE true rfl ajL evk H2) ?_;refine aF 1 ?_;go_upto_region 7 with fail;refine aH 1 ?_;refine ajB (ax rfl ajL z8) ?_;refine ajB (aC rfl ajL (bY (HT4.out.at0).cells.2.2.2.1)) ?_;refine ajB (aZ false rfl ajL ajL HL) ?_;refine aF 1 ?_;go_wp2_with fail;go_ret;exact ⟨rfl, HT4.out.bel⟩
theorem agG {x : Ros} {j : Nat} {s : Int} (hj : j < 16) (hf : aU x = true) (hq : eI x (j : Int) = true) (hc : kF x s = true) (h0 : (sta x j == 0) = false) (h2 : (sta x j == 2) = false) (w : World) : Calls prog 111 #[ros x, .int .i64 (j : Int), .int .i64 s] w fun e w' => e = .returned (.bool false) /\ Below w.heap.size w w' := by
 have HT1 := ae (iN.new w x);have HF := ae hf;have HQ := ae hq;have HC := ae hc;have H0 := ae h0;have H2 := ae h2;clear hf hq hc h0 h2;go_enter func111, ntmps111;go_upto_region 1 with (first | (refine av rfl (aY rfl rfl) ?_) | fail);generalize w.alloc (.cells (aX x).toArray 58) = w1 at *;refine af ?_;refine ajB (aW rfl ajL (HT1.out.at0)) ?_;refine aw rfl (aA call42 rfl (evc ajL evn)) ?_;refine (dI w1 HF).mono ?_;rintro e w2 ⟨rfl, hb⟩;have HT2 := ae (HT1.out.call hb);clear hb HT1;refine aQ ?_;refine runs 2 ?_;refine ajI (aW rfl ajL (HT2.out.at0)) ?_;refine runs 1 ?_;refine aw ajw (aA call115 rfl (evc ajL (evc ajL evn))) ?_;refine (er w2 HQ).mono ?_;rintro e w3 ⟨rfl, hb⟩;have HT3 := ae (HT2.out.call hb);clear hb HT2;refine aQ ?_;refine runs 3 ?_;refine ajI (aW rfl ajL (HT3.out.at0)) ?_;refine runs 1 ?_;refine aw ajw (aA call117 rfl (evc ajL (evc ajL evn))) ?_;refine (iR w3 HC).mono ?_;rintro e w4 ⟨rfl, hb⟩;have HT4 := ae (HT3.out.call hb);clear hb HT3;refine aQ ?_;refine aF 2 ?_;go_upto_region 3 with fail;refine aH 1 ?_;refine ajB (ax rfl ajL nj) ?_;refine ajB (cO rfl ajL ajL (pX hj)) ?_;refine ajB (aC rfl ajL (qg ((HT4.out.at0).sta hj))) ?_;refine ah ?_;go_upto_region 4 with fail;refine af ?_;refine ajB (aE false rfl ajL evk H0) ?_;refine aF 1 ?_;go_upto_region 6 with fail;refine af ?_;refine ajB (aE false rfl ajL evk H2) ?_;refine aF 1 ?_;go_upto_region 8 with fail;refine bU 1 ?_;go_wp2_with fail;go_ret;exact ⟨rfl, HT4.out.bel⟩
theorem aiz {x : Ros} {j : Nat} {s : Int} (hf : aU x = true) (hq : eI x (j : Int) = true) (hc : kF x s = true) : hasB x (j : Int) s = (decide (sta x j = 0) || (decide (sta x j = 2) && decide (s < x.cur))) := by
 unfold hasB;rw [hf, hq, hc]
 rfl
theorem ai5 (x : Ros) (m s : Int) (w : World) : Calls prog 111 #[ros x, .int .i64 m, .int .i64 s] w fun e w' => e = .returned (.bool (hasB x m s)) /\ Below w.heap.size w w' := by
 cases hf : aU x
 ·rw [show hasB x m s = false from by unfold hasB; rw [hf]; rfl]; exact agT hf w
 cases hq : eI x m
 ·rw [show hasB x m s = false from by unfold hasB; rw [hf, hq]; rfl]; exact ag4 hf hq w
 cases hc : kF x s
 ·rw [show hasB x m s = false from by unfold hasB; rw [hf, hq, hc]; rfl]; exact ahs hf hq hc w
 have hm := nC hq;have hg := ed (ef hf).1;obtain ⟨j, rfl⟩ := Int.eq_ofNat_of_zero_le hm.1;have hj : j < 16 := by omega
 rw [aiz hf hq hc];by_cases h0 : sta x j = 0
 ·rw [ao h0]; exact af2 hj hf hq hc (by simpa using h0) w
 rw [am h0];by_cases h2 : sta x j = 2
 ·rw [ao h2];by_cases hl : s < x.cur
  ·rw [ao hl]; exact agr hj hf hq hc (by simpa using h0) (by simpa using h2) (ao hl) w
  ·rw [am hl]; exact ahb hj hf hq hc (by simpa using h0) (by simpa using h2) (am hl) w
 ·rw [am h2]; exact agG hj hf hq hc (by simpa using h0) (by simpa using h2) w
def lE (M : aV) (x : Ros) : Nat -> Bool
 |0 => true
 |k + 1 => lE M x k && !decide (ia M (k : Int) < 2 + x.s)
def f9 (M : aV) (id ev : Nat) (x : Ros) : Bool := !decide (id = 0) && (!decide (2305843009213693952 < ev) && (aU x && (decide ((M.ds.length : Int) = x.m + 1) && lE M x x.m.toNat)))
theorem sp {M : aV} {x : Ros} {i : Nat} (h : ia M (i : Int) < 2 + x.s) : ∀ {n : Nat}, i < n -> lE M x n = false
 |0, hi => absurd hi (by omega)
 |n + 1, hi => by
  rw [lE];by_cases e : i = n
  ·subst e; rw [ao h]; simp
  ·rw [sp h (n := n) (by omega)]; rfl
theorem mf {M : aV} {x : Ros} {i : Nat} (h : lE M x i = true) (h' : ¬ ia M (i : Int) < 2 + x.s) : lE M x (i + 1) = true := by rw [lE, h, am h']; rfl
def rhC (q id ev : Nat) (x : Ros) : List Value := .pointer (some ⟨q, 0, none⟩) :: .int .u64 (id : Int) :: .int .u64 (ev : Int) :: aX x
theorem ahy : (prog.info? 107).map (fun i => i.zero) = some (some (.agg (.pointer none :: .int .u64 0 :: .int .u64 0 :: aX bF).toArray)) := by kernel_rfl
section
variable {ρ : Operand -> Value} {o : Oper} {x1 x2 x3 x4 : Operand} {w : World} {q id ev : Nat} {x : Ros}
theorem zi (q id ev : Nat) (x : Ros) : (Instr.build 107 #[(0, .pointer (some ⟨q, 0, none⟩)), (1, .int .u64 (id : Int)), (2, .int .u64 (ev : Int)), (3, ros x)]).run prog w = .ok (.agg (rhC q id ev x).toArray) w := by
 have hz := fQ ahy w;have h0 := db (place := fun i => (#[(0, 1), (1, 1), (2, 1), (3, 21)] : Array (Nat × Nat))[i]?) (i := 0) (off := 0) (size := 1) (v := .pointer (some ⟨q, 0, none⟩)) (pre := []) (mid := [.pointer none]) (post := .int .u64 0 :: .int .u64 0 :: aX bF) (vs := [.pointer (some ⟨q, 0, none⟩)]) (rest := [(1, .int .u64 (id : Int)), (2, .int .u64 (ev : Int)), (3, ros x)]) rfl rfl rfl rfl rfl;have h1 := db (place := fun i => (#[(0, 1), (1, 1), (2, 1), (3, 21)] : Array (Nat × Nat))[i]?) (i := 1) (off := 1) (size := 1) (v := .int .u64 (id : Int)) (pre := [.pointer (some ⟨q, 0, none⟩)]) (mid := [.int .u64 0]) (post := .int .u64 0 :: aX bF) (vs := [.int .u64 (id : Int)]) (rest := [(2, .int .u64 (ev : Int)), (3, ros x)]) rfl rfl rfl rfl rfl;have h2 := db (place := fun i => (#[(0, 1), (1, 1), (2, 1), (3, 21)] : Array (Nat × Nat))[i]?) (i := 2) (off := 2) (size := 1) (v := .int .u64 (ev : Int)) (pre := [.pointer (some ⟨q, 0, none⟩), .int .u64 (id : Int)]) (mid := [.int .u64 0]) (post := aX bF) (vs := [.int .u64 (ev : Int)]) (rest := [(3, ros x)]) rfl rfl rfl rfl rfl;have h3 := db (place := fun i => (#[(0, 1), (1, 1), (2, 1), (3, 21)] : Array (Nat × Nat))[i]?) (i := 3) (off := 3) (size := 21) (v := ros x) (pre := [.pointer (some ⟨q, 0, none⟩), .int .u64 (id : Int), .int .u64 (ev : Int)]) (mid := aX bF) (post := []) (vs := aX x) (rest := []) rfl rfl (bq x) rfl (bq bF);simp only [List.nil_append, List.append_nil, List.cons_append] at h0 h1 h2 h3;have h4 := h0.trans (h1.trans (h2.trans h3));have hz' : (zeroValue 107).run prog w = .ok (.agg (.pointer none :: .int .u64 0 :: .int .u64 0 :: aX bF).toArray) w := hz;have hc : (Value.agg (.pointer none :: .int .u64 0 :: .int .u64 0 :: aX bF).toArray).cells = (.pointer none :: .int .u64 0 :: .int .u64 0 :: aX bF).toArray := rfl;simp only [Instr.build, Sem.run_bind, hz', run_underlying underlying107, Result.andThen_ok, hc];refine Eq.trans (congrArg (fun r => Result.andThen r _) (?h : _ = Result.ok #[(0, 1), (1, 1), (2, 1), (3, 21)] w)) ?_
 case h => kernel_rfl
 simp only [Result.andThen_ok];have h5 : Instr.fill (fun i => (#[(0, 1), (1, 1), (2, 1), (3, 21)] : Array (Nat × Nat))[i]?) (rhC q id ev x).toArray [] = some (rhC q id ev x).toArray := by rw [Instr.fill]
 rw [h4.trans h5]
 rfl
theorem vJ (ho : o.op = .build 107 #[(0, x1), (1, x2), (2, x3), (3, x4)]) (h1 : ρ x1 = .pointer (some ⟨q, 0, none⟩)) (h2 : ρ x2 = .int .u64 (id : Int)) (h3 : ρ x3 = .int .u64 (ev : Int)) (h4 : ρ x4 = ros x) : (execOp ρ o).run prog w = .ok (.value (.agg (rhC q id ev x).toArray)) w := by
 unfold execOp;simp only [ho, h1, h2, h3, h4, List.map_toArray, List.map_cons, List.map_nil, Sem.run_bind, zi, Result.andThen_ok, Sem.run_pure]
end
def RHu (w : World) (p q id ev : Nat) (x : Ros) : Prop := w.heap[p]? = some (.cells (rhC q id ev x).toArray 107 (0, 0))
section
variable {w : World} {F : Nat -> Prop} {q : Nat} {M : aV}
def ri (w : World) (q : Nat) (M : aV) (id en : Nat) (x : Ros) (e : Ending) (w' : World) : Prop :=
 Below w.heap.size w w' /\ ((f9 M id en x = true /\ ∃ p, e = .returned (.tuple #[.pointer (some ⟨p, 0, none⟩), .int .i64 0]) /\ RHu w' p q id en x /\ w.heap.size <= p) \/ (f9 M id en x = false /\ e = .returned (.tuple #[.pointer none, .int .i64 2])))
theorem afk (id en : Nat) (x : Ros) (w : World) (hb : dD.Bn w F q M) (h0 : id = 0) : Calls prog 18 #[.pointer (some ⟨q, 0, none⟩), .int .u64 (id : Int), .int .u64 (en : Int), ros x] w (ri w q M id en x) := by
 obtain ⟨w1, hw1⟩ : ∃ w1, w.alloc (.cells (aX x).toArray 58) = w1 := ⟨_, rfl⟩;obtain ⟨hx, hb1, hlt⟩ := cX w x;rw [hw1] at hx hb1 hlt;have HW1 := ae hw1;have HX := ae hx;have HB1 := ae hb1;have HLT := ae hlt;have HB := ae (dD.below hb hb1);clear hw1 hx hb1 hlt hb;have H0 : Hid (((id : Int) == 0) = true) := ae (by rw [h0]; rfl);have HNO : Hid (f9 M id en x = false) := ae (by unfold f9; rw [ao h0]; rfl);clear h0;go_enter func18, ntmps18;go_upto_region 0 with fail;refine af ?_;refine ajB (aY rfl ajL) ?_;rw [HW1.out];refine aF 2 ?_;go_upto_region 1 with fail;refine aR (B := w1.heap.size) (by kernel_rfl) ?_;refine cy 1 ?_;refine ajJ (fun _ hw => aE true rfl ajL evk H0) ?_;refine gA 2 rfl (fun _ hw => aL rfl ajL) (by kernel_rfl) ?_;simp only [bH, ac, aa];refine cy 1 ?_;refine gA 3 rfl (fun _ hw => aL rfl ajL) (by kernel_rfl) ?_;simp only [bH, ac, aa];refine cy 1 ?_;refine gA 7 rfl (fun _ hw => aL rfl ajL) (by kernel_rfl) ?_;simp only [bH, ac, aa];refine cy 1 ?_;refine wpQuiet_nil ?_;intro w2 hw;have HB2 := ae (HB1.out.trans (hw.mono HB1.out.size));go_wp2_with fail;go_ret2;exact ⟨HB2, .inr ⟨HNO, rfl⟩⟩
theorem aeN (id en : Nat) (x : Ros) (w : World) (hb : dD.Bn w F q M) (h0 : id ≠ 0) (h1 : 2305843009213693952 < en) : Calls prog 18 #[.pointer (some ⟨q, 0, none⟩), .int .u64 (id : Int), .int .u64 (en : Int), ros x] w (ri w q M id en x) := by
 obtain ⟨w1, hw1⟩ : ∃ w1, w.alloc (.cells (aX x).toArray 58) = w1 := ⟨_, rfl⟩;obtain ⟨hx, hb1, hlt⟩ := cX w x;rw [hw1] at hx hb1 hlt;have HW1 := ae hw1;have HX := ae hx;have HB1 := ae hb1;have HLT := ae hlt;have HB := ae (dD.below hb hb1);clear hw1 hx hb1 hlt hb;have H0 : Hid (((id : Int) == 0) = false) := ae (au (by omega));have H1 : Hid (decide ((2305843009213693952 : Int) < (en : Int)) = true) := ae (ao (by omega));have HNO : Hid (f9 M id en x = false) := ae (by unfold f9; rw [ao h1]; simp);clear h0 h1;go_enter func18, ntmps18;go_upto_region 0 with fail;refine af ?_;refine ajB (aY rfl ajL) ?_;rw [HW1.out];refine aF 2 ?_;go_upto_region 1 with fail;refine aR (B := w1.heap.size) (by kernel_rfl) ?_;refine cy 1 ?_;refine ajJ (fun _ hw => aE false rfl ajL evk H0) ?_;refine cy 2 ?_;refine ajK (fun _ hw => dC true rfl ajL evk H1) ?_;refine cy 1 ?_;refine gA 3 rfl (fun _ hw => aL rfl ajL) (by kernel_rfl) ?_;simp only [bH, ac, aa];refine cy 1 ?_;refine gA 7 rfl (fun _ hw => aL rfl ajL) (by kernel_rfl) ?_;simp only [bH, ac, aa];refine cy 1 ?_;refine wpQuiet_nil ?_;intro w2 hw;have HB2 := ae (HB1.out.trans (hw.mono HB1.out.size));go_wp2_with fail;go_ret2;exact ⟨HB2, .inr ⟨HNO, rfl⟩⟩
theorem adJ (id en : Nat) (x : Ros) (w : World) (hb : dD.Bn w F q M) (h0 : id ≠ 0) (h1 : ¬ 2305843009213693952 < en) (h2 : aU x = false) : Calls prog 18 #[.pointer (some ⟨q, 0, none⟩), .int .u64 (id : Int), .int .u64 (en : Int), ros x] w (ri w q M id en x) := by
 obtain ⟨w1, hw1⟩ : ∃ w1, w.alloc (.cells (aX x).toArray 58) = w1 := ⟨_, rfl⟩;obtain ⟨hx, hb1, hlt⟩ := cX w x;rw [hw1] at hx hb1 hlt;have HW1 := ae hw1;have HX := ae hx;have HB1 := ae hb1;have HLT := ae hlt;have HB := ae (dD.below hb hb1);clear hw1 hx hb1 hlt hb;have H0 : Hid (((id : Int) == 0) = false) := ae (au (by omega));have H1 : Hid (decide ((2305843009213693952 : Int) < (en : Int)) = false) := ae (am (by omega));have H2 := ae h2;have HNO : Hid (f9 M id en x = false) := ae (by unfold f9; rw [h2]; simp);clear h0 h1 h2;go_enter func18, ntmps18;go_upto_region 0 with fail;refine af ?_;refine ajB (aY rfl ajL) ?_;rw [HW1.out];refine aF 2 ?_;go_upto_region 1 with fail;refine aR (B := w1.heap.size) (by kernel_rfl) ?_;refine cy 1 ?_;refine ajJ (fun _ hw => aE false rfl ajL evk H0) ?_;refine cy 2 ?_;refine ajK (fun _ hw => dC false rfl ajL evk H1) ?_;refine cy 2 ?_;refine ajK (fun _ hw => bf rfl ajL ((HX.out.below HLT hw).range)) ?_;refine bO ajw (fun _ => aA call44 rfl (evc ajL evn)) (bw aj fun w' hw => wW w' H2) ?_;simp only [aa];refine cy 2 ?_;refine gA 7 rfl (fun _ hw => aL rfl ajL) (by kernel_rfl) ?_;simp only [bH, ac, aa];refine cy 1 ?_;refine wpQuiet_nil ?_;intro w2 hw;have HB2 := ae (HB1.out.trans (hw.mono HB1.out.size));go_wp2_with fail;go_ret2;exact ⟨HB2, .inr ⟨HNO, rfl⟩⟩
theorem adE (id en : Nat) (x : Ros) (w : World) (hb : dD.Bn w F q M) (h0 : id ≠ 0) (h1 : ¬ 2305843009213693952 < en) (h2 : aU x = true) (h3 : ¬ (M.ds.length : Int) = x.m + 1) : Calls prog 18 #[.pointer (some ⟨q, 0, none⟩), .int .u64 (id : Int), .int .u64 (en : Int), ros x] w (ri w q M id en x) := by
 obtain ⟨w1, hw1⟩ : ∃ w1, w.alloc (.cells (aX x).toArray 58) = w1 := ⟨_, rfl⟩;obtain ⟨hx, hb1, hlt⟩ := cX w x;rw [hw1] at hx hb1 hlt;have HW1 := ae hw1;have HX := ae hx;have HB1 := ae hb1;have HLT := ae hlt;have HB := ae (dD.below hb hb1);clear hw1 hx hb1 hlt hb;have H0 : Hid (((id : Int) == 0) = false) := ae (au (by omega));have H1 : Hid (decide ((2305843009213693952 : Int) < (en : Int)) = false) := ae (am (by omega));have H2 := ae h2;have HAD : Hid (IntKind.i64.wrap (x.m + 1) = x.m + 1) := ae (eW (by have := ed (ef h2).1; omega));have H3 : Hid (((M.ds.length : Int) != x.m + 1) = true) := ae (by simpa using h3);have HNO : Hid (f9 M id en x = false) := ae (by unfold f9; rw [am h3]; simp);clear h0 h1 h2 h3;go_enter func18, ntmps18;go_upto_region 0 with fail;refine af ?_;refine ajB (aY rfl ajL) ?_;rw [HW1.out];refine aF 2 ?_;go_upto_region 1 with fail;refine aR (B := w1.heap.size) (by kernel_rfl) ?_;refine cy 1 ?_;refine ajJ (fun _ hw => aE false rfl ajL evk H0) ?_;refine cy 2 ?_;refine ajK (fun _ hw => dC false rfl ajL evk H1) ?_;refine cy 2 ?_;refine ajK (fun _ hw => bf rfl ajL ((HX.out.below HLT hw).range)) ?_;refine bO ajw (fun _ => aA call44 rfl (evc ajL evn)) (bw aj fun w' hw => wW w' H2) ?_;simp only [aa];refine cy 3 ?_;refine cy 1 ?_;refine bO ajw (fun _ => aA call45 rfl (evc ajL evn)) (bw aj fun _ hw => dD.devices (dD.below HB hw)) ?_;simp only [aa];refine ajK (fun _ hw => ax rfl ajL o6) ?_;refine ajK (fun _ hw => ax rfl ajL ov) ?_;refine ajK (fun _ hw => aC rfl ajL (bY (HX.out.below HLT hw).cells.1)) ?_;refine ajK (fun _ hw => bL rfl ajL evk HAD) ?_;refine ajK (fun _ hw => aJ true rfl ajL ajL H3) ?_;refine cy 1 ?_;refine wpQuiet_nil ?_;intro w2 hw;have HB2 := ae (HB1.out.trans (hw.mono HB1.out.size));go_wp2_with fail;go_ret2;exact ⟨HB2, .inr ⟨HNO, rfl⟩⟩
theorem aeZ (id en : Nat) (x : Ros) (w : World) (hb : dD.Bn w F q M) (h0 : id ≠ 0) (h1 : ¬ 2305843009213693952 < en) (h2 : aU x = true) (h3 : (M.ds.length : Int) = x.m + 1) : Calls prog 18 #[.pointer (some ⟨q, 0, none⟩), .int .u64 (id : Int), .int .u64 (en : Int), ros x] w (ri w q M id en x) := by
 obtain ⟨w1, hw1⟩ : ∃ w1, w.alloc (.cells (aX x).toArray 58) = w1 := ⟨_, rfl⟩;obtain ⟨hx, hb1, hlt⟩ := cX w x;rw [hw1] at hx hb1 hlt;have HW1 := ae hw1;have HX := ae hx;have HB1 := ae hb1;have HLT := ae hlt;have HB := ae (dD.below hb hb1);clear hw1 hx hb1 hlt hb;have H0 : Hid (((id : Int) == 0) = false) := ae (au (by omega));have H1 : Hid (decide ((2305843009213693952 : Int) < (en : Int)) = false) := ae (am (by omega));have H2 := ae h2;have hge := ed (ef h2).1;have HGE := ae hge;have HAD : Hid (IntKind.i64.wrap (x.m + 1) = x.m + 1) := ae (eW (by omega));have HSD : Hid (IntKind.i64.wrap (x.s + 2) = x.s + 2) := ae (eW (by omega));have H3 : Hid (((M.ds.length : Int) != x.m + 1) = false) := ae (by rw [h3]; exact bne_self_eq_false _);have HK : Hid (f9 M id en x = lE M x x.m.toNat) := ae (by unfold f9; rw [am h0, am h1, h2, ao h3]; rfl);clear h0 h1 h2 h3 hge;go_enter func18, ntmps18;go_upto_region 0 with fail;refine af ?_;refine ajB (aY rfl ajL) ?_;rw [HW1.out];refine aF 2 ?_;go_upto_region 1 with fail;refine aR (B := w1.heap.size) (by kernel_rfl) ?_;refine cy 1 ?_;refine ajJ (fun _ hw => aE false rfl ajL evk H0) ?_;refine cy 2 ?_;refine ajK (fun _ hw => dC false rfl ajL evk H1) ?_;refine cy 2 ?_;refine ajK (fun _ hw => bf rfl ajL ((HX.out.below HLT hw).range)) ?_;refine bO ajw (fun _ => aA call44 rfl (evc ajL evn)) (bw aj fun w' hw => wW w' H2) ?_;simp only [aa];refine cy 3 ?_;refine cy 1 ?_;refine bO ajw (fun _ => aA call45 rfl (evc ajL evn)) (bw aj fun _ hw => dD.devices (dD.below HB hw)) ?_;simp only [aa];refine ajK (fun _ hw => ax rfl ajL o6) ?_;refine ajK (fun _ hw => ax rfl ajL ov) ?_;refine ajK (fun _ hw => aC rfl ajL (bY (HX.out.below HLT hw).cells.1)) ?_;refine ajK (fun _ hw => bL rfl ajL evk HAD) ?_;refine ajK (fun _ hw => aJ false rfl ajL ajL H3) ?_;refine cy 1 ?_;refine wpQuiet_nil ?_;intro w2 hw;have HB2 := ae (HB1.out.trans (hw.mono HB1.out.size));have HX2 := ae (HX.out.below HLT hw);have HL2 := ae (ar HLT hw.size);have HBB := ae (dD.below HB hw);clear hw;go_wp2_with fail
 go_loopw [10] (fun z wr => ∃ i : Nat, z = .int .i64 i /\ i <= x.m.toNat /\ lE M x i = true /\ Below w2.heap.size w2 wr) (fun z _ => x.m.toNat - (intOf z).toNat)
 case atStart => exact ⟨0, by go_num, Nat.zero_le _, rfl, ak⟩
 case round =>
  obtain ⟨i, rfl, hi, hs, hb⟩ := hrel;have HS := ae hs;have HW := ae hb;have HX3 := ae (HX2.out.below HL2 (hb.mono aj));have HL3 := ae (ar HL2 hb.size);have HB3 := ae (dD.below HBB hb);clear hs hb;go_upto_region 4 with fail;refine aH 1 ?_;refine ajB (ax rfl ajL o6) ?_;refine ajB (ax rfl ajL ov) ?_;refine ajB (aC rfl ajL (bY HX3.out.cells.1)) ?_;by_cases hlt : i < x.m.toNat
  ·have HI := ae hlt;have HT : Hid (decide ((i : Int) < x.m) = true) := ae (ao (by have := HGE.out; omega));have HA : Hid (IntKind.i64.wrap ((i : Int) + 1) = ((i + 1 : Nat) : Int)) := ae (by have := HGE.out; rw [eW ⟨by omega, by omega⟩]; omega);clear hi hlt;refine ajB (aZ true rfl ajL ajL HT) ?_;refine ah ?_;go_upto_region 6 with fail;refine aR (B := wr.heap.size) (by kernel_rfl) ?_;refine cy 2 ?_;refine bO rfl (fun _ => aA call46 rfl (evc ajL (evc ajL evn))) (bw aj fun _ hw => dD.fG (i : Int) (dD.below HB3 hw)) ?_;simp only [aa];refine ajJ (fun _ hw => ax rfl ajL o6) ?_;refine ajJ (fun _ hw => ax rfl ajL abH) ?_;refine ajJ (fun _ hw => aC rfl ajL (bY (HX3.out.below HL3 hw).cells.2.1)) ?_;refine ajJ (fun _ hw => bL rfl ajL evk HSD) ?_;by_cases hq : ia M (i : Int) < x.s + 2
   ·have HQ : Hid (decide (ia M (i : Int) < x.s + 2) = true) := ae (ao hq);have HNO : Hid (f9 M id en x = false) := ae (by rw [HK.out]; exact sp (by omega) HI);clear hq;refine ajJ (fun _ hw => aZ true rfl ajL ajL HQ) ?_;refine wpQuiet_nil ?_;intro w4 hw;have HW4 := ae (HW.out.trans (hw.mono HW.out.size));clear hw;go_wp2_with fail;go_ret2;exact ⟨HB2.out.trans (HW4.out.mono HB2.out.size), .inr ⟨HNO, rfl⟩⟩
   have HQ : Hid (decide (ia M (i : Int) < x.s + 2) = false) := ae (am hq);have HS2 := ae (mf HS (by omega));clear hq;refine ajJ (fun _ hw => aZ false rfl ajL ajL HQ) ?_;refine wpQuiet_nil ?_;intro w4 hw;have HW4 := ae (HW.out.trans (hw.mono HW.out.size));clear hw;go_upto_region 5 with fail;refine aH 1 ?_;refine ajB (bL rfl ajL evk HA) ?_;refine aF 1 ?_;go_wp2_with fail;go_roundw
   case rel => exact ⟨i + 1, by go_num, HI, HS2, HW4⟩
   case measure => have := HI.out; simp [intOf]; omega
  have hin : i = x.m.toNat := by omega
  have HT : Hid (decide ((i : Int) < x.m) = false) := ae (am (by have := HGE.out; omega));have HYES : Hid (f9 M id en x = true) := ae (by rw [HK.out, <- hin]; exact HS);clear hi hlt hin;refine ajB (aZ false rfl ajL ajL HT) ?_;refine ah ?_;go_upto_region 8 with fail;refine aH 3 ?_;refine ajB (bf rfl ajL HX3.out.range) ?_;refine ajB (vJ rfl ajL ajL ajL ajL) ?_;refine ajB (cw (cs := rhC q id en x) rfl ajL) ?_;refine aF 2 ?_;go_wp2_with fail;go_ret2;have hw3 := HB2.out.trans (HW.out.mono HB2.out.size);exact ⟨hw3.alloc hw3.size _, .inl ⟨HYES, _, rfl, heap_alloc_new wr _, hw3.size⟩⟩
theorem ahZ (id en : Nat) (x : Ros) (w : World) (hb : dD.Bn w F q M) : Calls prog 18 #[.pointer (some ⟨q, 0, none⟩), .int .u64 (id : Int), .int .u64 (en : Int), ros x] w (ri w q M id en x) := by
 by_cases h0 : id = 0
 ·exact afk id en x w hb h0
 by_cases h1 : 2305843009213693952 < en
 ·exact aeN id en x w hb h0 h1
 cases h2 : aU x
 ·exact adJ id en x w hb h0 h1 h2
 by_cases h3 : (M.ds.length : Int) = x.m + 1
 ·exact aeZ id en x w hb h0 h1 h2 h3
 ·exact adE id en x w hb h0 h1 h2 h3
end
structure CrG (w : World) (G : Nat -> Prop) : Prop where
 t : Tab w
 off : ¬ G 0
structure eF where
 R : aiJ
 J : World -> (Nat -> Prop) -> Nat -> Nat -> HuS -> Prop
 lt : ∀ {w G q p h}, J w G q p h -> ∀ b, G b -> b < w.heap.size
 fin : ∀ {w G q p h}, J w G q p h -> aU h.R = true /\ h.id ≠ 0
 only : ∀ {w w' G F q p h}, J w G q p h -> Only F w w' -> (∀ b, G b -> ¬ F b) -> J w' G q p h
 ben : ∀ {w G q p h}, J w G q p h -> ∃ Gb, R.Bn w Gb q h.M /\ (∀ b, Gb b -> G b) /\ ∀ w' Gb' M', R.Bn w' Gb' q M' -> Only Gb w w' -> Grow w Gb Gb' -> ∃ G', J w' G' q p { h with M := M' } /\ Only G w w' /\ Grow w G G'
 new_ : ∀ {w G q M} (id ev : Nat) (x : Ros), id < 18446744073709551616 -> ev < 18446744073709551616 -> R.Bn w G q M -> Calls prog 17 #[.pointer (some ⟨q, 0, none⟩), .int .u64 (id : Int), .int .u64 (ev : Int), ros x] w fun e w' =>
  Below w.heap.size w w' /\ ((f9 M id ev x = true /\ ∃ p G', e = .returned (.tuple #[.pointer (some ⟨p, 0, none⟩), .int .i64 0]) /\ J w' G' q p ⟨M, id, ev, x⟩ /\ ∀ b, G' b -> G b \/ w.heap.size <= b) \/ (f9 M id ev x = false /\ e = .returned (.tuple #[.pointer none, .int .i64 2])))
 new_nil : ∀ (w : World) (id ev : Nat) (x : Ros), id < 18446744073709551616 -> ev < 18446744073709551616 -> Calls prog 17 #[.pointer none, .int .u64 (id : Int), .int .u64 (ev : Int), ros x] w fun e w' => e = .returned (.tuple #[.pointer none, .int .i64 1]) /\ Below w.heap.size w w'
 write : ∀ {w G q p h} (s m : Int) (b : Blk), J w G q p h -> CrG w G -> Room h.M 600 -> h.ev <= 4611686018427387000 -> Calls prog 36 #[.pointer (some ⟨p, 0, none⟩), .agg #[.int .i64 s, .int .i64 m], blk b] w fun e w' => e = .returned (.int .i64 (jL h s m b)) /\ ∃ G', (wd h s m -> J w' G' q p (fK h s m b)) /\ Only G w w' /\ Grow w G G' /\ ∃ Gb, R.Bn w' Gb q (fK h s m b).M /\ ∀ b, Gb b -> G' b
 id_ : ∀ {w G q p h}, J w G q p h -> Calls prog 66 #[.pointer (some ⟨p, 0, none⟩)] w fun e w' => e = .returned (.int .u64 (h.id : Int)) /\ Below w.heap.size w w'
 state : ∀ {w G q p h}, J w G q p h -> Calls prog 103 #[.pointer (some ⟨p, 0, none⟩)] w fun e w' => e = .returned (.int .i64 (stN h.R : Nat)) /\ Below w.heap.size w w'
 ahr : ∀ {w G q p h}, J w G q p h -> Calls prog 134 #[.pointer (some ⟨p, 0, none⟩)] w fun e w' => e = .returned (ros h.R) /\ Below w.heap.size w w'
 No : World -> Value -> Prop
 zc : List Value
 zb : List Value
 no_nil : ∀ w : World, No w (.pointer none)
 bld0 : ∀ w : World, (Instr.build 60 #[]).run prog w = .ok (.agg zc.toArray) w
 bldB : ∀ w : World, (Instr.build 95 #[]).run prog w = .ok (.agg zb.toArray) w
 no_zero : ∀ w : World, No (w.alloc (.cells zc.toArray 60)) (.pointer (some ⟨w.heap.size, 0, none⟩))
 no_below : ∀ {w w' : World} {v : Value}, No w v -> Below w.heap.size w w' -> No w' v
 new_zero : ∀ (w : World) (b : Nat) (id ev : Nat) (x : Ros), w.heap[b]? = some (.cells zb.toArray 95 (0, 0)) -> id < 18446744073709551616 -> ev < 18446744073709551616 -> Calls prog 17 #[.pointer (some ⟨b, 0, none⟩), .int .u64 (id : Int), .int .u64 (ev : Int), ros x] w fun e w' => e = .returned (.tuple #[.pointer none, .int .i64 1]) /\ Below w.heap.size w w'
 no_write : ∀ (w : World) (v : Value) (s m : Int) (b : Blk), No w v -> Calls prog 36 #[v, .agg #[.int .i64 s, .int .i64 m], blk b] w fun e w' => e = .returned (.int .i64 1) /\ Below w.heap.size w w'
 no_flush : ∀ (w : World) (v : Value) , No w v -> Calls prog 34 #[v] w fun e w' => e = .returned (.int .i64 1) /\ Below w.heap.size w w'
 no_id : ∀ (w : World) (v : Value) , No w v -> Calls prog 66 #[v] w fun e w' => e = .returned (.int .u64 0) /\ Below w.heap.size w w'
 no_state : ∀ (w : World) (v : Value) , No w v -> Calls prog 103 #[v] w fun e w' => e = .returned (.int .i64 0) /\ Below w.heap.size w w'
theorem eF.below (C : eF) {w w' : World} {G : Nat -> Prop} {q p : Nat} {h : HuS} (hj : C.J w G q p h) (k : Below w.heap.size w w') : C.J w' G q p h := C.only hj (Only.of_below (fun _ => False) k) fun _ _ e => e
structure ot (w0 : World) (B : Nat) : Prop where
 le : B <= w0.heap.size
 t : Tab w0
 lo : 0 < B
theorem f7 {w : World} {b j : Nat} {v : Value} (h : w.cell? ⟨b, j, none⟩ = some v) : b < w.heap.size := by
 rcases Nat.lt_or_ge b w.heap.size with h' | h'
 ·exact h'
 ·have : w.heap[b]? = none := Array.getElem?_eq_none h';simp [World.cell?, this] at h
theorem ot.start {w : World} (h : Tab w) : ot w w.heap.size := ⟨aj, h, f7 (h 0 (by omega))⟩
theorem ot.tab {w0 w : World} {B : Nat} (h : ot w0 B) (hb : Below B w0 w) : Tab w := fun i hi => (World.cell?_of_block (w := w0) (hb.block _ h.lo)).trans (h.t i hi)
def cq (K : Nat -> Prop) (w w' : World) : Prop := ∀ b, K b -> w'.heap[b]? = w.heap[b]?
theorem cq.refl (K : Nat -> Prop) (w : World) : cq K w w := fun _ _ => rfl
theorem cq.trans {K : Nat -> Prop} {w1 w2 w3 : World} (h : cq K w1 w2) (k : cq K w2 w3) : cq K w1 w3 := fun b e => (k b e).trans (h b e)
theorem cq.less {K K' : Nat -> Prop} {w1 w2 : World} (h : cq K w1 w2) (hK : ∀ b, K' b -> K b) : cq K' w1 w2 := fun b e => h b (hK b e)
theorem cq.at_ {K : Nat -> Prop} {w w' : World} {b : Nat} {o : Obj} (k : cq K w w') (hb : K b) (ho : w.heap[b]? = some o) : w'.heap[b]? = some o := (k b hb).trans ho
theorem cq.xp {K : Nat -> Prop} {w w' : World} {g : Nat} (ho : Only (fun b => b = g) w w') (hK : ∀ b, K b -> b ≠ g /\ b < w.heap.size) : cq K w w' := fun b e => ho.block b (hK b e).2 (hK b e).1
section
variable {C : eF} {w0 w w' : World} {B q p : Nat} {K K' : Nat -> Prop} {h h' : HuS}
theorem ot.crg {G : Nat -> Prop} (h : ot w0 B) (hb : Below B w0 w) (hG : ∀ b, G b -> B <= b) : CrG w G := ⟨h.tab hb, fun e => by have := h.lo; have := hG _ e; omega⟩
end
structure LC where
 kn : Bool
 dt : Bool
 b : Blk
def lc0 : LC := ⟨false, false, aI⟩
structure LnS where
 l : List LC
 f : Nat
def cW (s : LnS) (k : Nat) : LC := s.l.getD k lc0
def lnR (s : LnS) (m : Int) : Bool := decide (0 <= m) && decide (m < (s.l.length : Int))
def rE (f q : Nat) : Nat := if f = 0 \/ q < f then q else f
def lnE (s : LnS) (m : Int) : Int := if lnR s m then 0 else 2
def qh (s : LnS) (m : Int) (q : Nat) : Int := if lnR s m && !decide (q = 0) then 0 else 2
def eg (s : LnS) (m : Int) (b : Blk) (q : Nat) : LnS := if lnR s m && !decide (q = 0) then ⟨s.l.set m.toNat ⟨true, true, b⟩, rE s.f q⟩ else s
def fN (s : LnS) (m : Int) : LnS := if lnR s m then ⟨s.l.set m.toNat lc0, s.f⟩ else s
def lcC (c : LC) : LC := { c with dt := false }
def fL (s : LnS) : LnS := ⟨s.l.map lcC, 0⟩
def lnG (s : LnS) (m : Int) : LC := if lnR s m then cW s m.toNat else lc0
def gC (l : List LC) : Nat -> List Int
 |0 => []
 |n + 1 => gC l n ++ (if (l.getD n lc0).dt then [(n : Int)] else [])
def lnD (s : LnS) : List Int := gC s.l s.l.length
def aiP (L : List Int) : Nat -> Nat
 |0 => 0
 |n + 1 => rE (aiP L n) (L.getD n 0).toNat
structure dO (s : LnS) : Prop where
 lo : 1 <= s.l.length
 hi : s.l.length <= 16
 fb : s.f < 18446744073709551616
 no : ∀ k, k < s.l.length -> (cW s k).kn = false -> cW s k = lc0
def dS (n : Nat) : LnS := ⟨List.replicate n lc0, 0⟩
theorem ael {f q B : Nat} (hf : f < B) (hq : q < B) : rE f q < B := by unfold rE; split <;> omega
theorem jh {α : Type} (l : List α) (k j : Nat) (a d : α) (hk : k < l.length) : (l.set k a).getD j d = if j = k then a else l.getD j d := by
 by_cases e : j = k
 ·subst e; rw [if_pos rfl]; simp [List.getD, hk]
 ·rw [if_neg e]; simp only [List.getD]; rw [List.getElem?_set_ne (by omega)]
section
variable {s : LnS} {m : Int} {b : Blk} {q n : Nat}
theorem agj (h : lnR s m = true) : 0 <= m /\ m < (s.l.length : Int) := by unfold lnR at h; simpa using h
theorem iA {k : Nat} (h : k < s.l.length) : lnR s (k : Int) = true := by unfold lnR; simp [h]
theorem sH {a : LC} {f : Nat} (h : dO s) (k : Nat) (ha : a.kn = false -> a = lc0) (hf : f < 18446744073709551616) : dO ⟨s.l.set k a, f⟩ := by
 refine ⟨by rw [List.length_set]; exact h.lo, by rw [List.length_set]; exact h.hi, hf, fun j hj hn => ?_⟩;rw [List.length_set] at hj;unfold cW at hn ⊢;by_cases hk : k < s.l.length
 ·rw [jh _ _ _ _ _ hk] at hn ⊢;by_cases e : j = k
  ·rw [if_pos e] at hn ⊢; exact ha hn
  ·rw [if_neg e] at hn ⊢; exact h.no j hj hn
 ·have e : s.l.set k a = s.l := List.set_eq_of_length_le (by omega);simp only [e] at hn ⊢;exact h.no j hj hn
theorem dO.set (h : dO s) (m : Int) (b : Blk) (hq : q < 18446744073709551616) : dO (eg s m b q) := by
 unfold eg
 split
 ·exact sH h _ (fun e => by cases e) (ael h.fb hq)
 ·exact h
theorem dO.frg (h : dO s) (m : Int) : dO (fN s m) := by
 unfold fN
 split
 ·exact sH h _ (fun _ => rfl) h.fb
 ·exact h
theorem wZ (k : Nat) : cW (fL s) k = lcC (cW s k) := by
 unfold cW fL;simp only [List.getD, List.getElem?_map];cases s.l[k]? <;> rfl
theorem dO.cln (h : dO s) : dO (fL s) := by
 refine ⟨by simp [fL]; exact h.lo, by simp [fL]; exact h.hi, by simp [fL], fun k hk hn => ?_⟩;rw [wZ] at hn ⊢;have hk' : k < s.l.length := by simpa [fL] using hk
 rw [h.no k hk' hn]
 rfl
theorem dO.new (h1 : 1 <= n) (h2 : n <= 16) : dO (dS n) := by
 refine ⟨by simp [dS]; exact h1, by simp [dS]; exact h2, by simp [dS], fun k hk _ => ?_⟩;have hk' : k < n := by simpa [dS] using hk
 simp [cW, dS, List.getD, hk']
theorem yl (m : Int) (b : Blk) (q : Nat) : (eg s m b q).l.length = s.l.length := by unfold eg; split <;> simp
theorem aet (m : Int) : (fN s m).l.length = s.l.length := by unfold fN; split <;> simp
theorem xZ : (fL s).l.length = s.l.length := by simp [fL]
theorem xn {l : List LC} : ∀ {n : Nat} {x : Int}, x ∈ gC l n -> ∃ k : Nat, x = (k : Int) /\ k < n /\ (l.getD k lc0).dt = true
 |0, x, h => by simp [gC] at h
 |n + 1, x, h => by
  rw [gC, List.mem_append] at h;rcases h with h | h
  ·obtain ⟨k, h1, h2, h3⟩ := xn h; exact ⟨k, h1, by omega, h3⟩
  ·split at h
   ·rename_i e; simp at h; exact ⟨n, h, by omega, e⟩
   ·simp at h
theorem yg (l : List LC) (n : Nat) : (gC l n).length <= n := by
 induction n with
 |zero => simp [gC]
 |succ n ih => rw [gC, List.length_append]; split <;> simp <;> omega
theorem pT {l : List LC} {n : Nat} (h : ∀ k, k < n -> (l.getD k lc0).dt = false) : gC l n = [] := by
 induction n with
 |zero => rfl
 |succ n ih => rw [gC, ih fun k hk => h k (by omega), h n (by omega)]; rfl
theorem yr (n : Nat) : lnD (dS n) = [] := pT fun k hk => by
 have hk' : k < n := by simpa [dS] using hk
 simp [dS, List.getD, hk', lc0]
theorem xE : lnD (fL s) = [] := pT fun k hk => by
 have := wZ (s := s) k;unfold cW at this;rw [this]
 rfl
end
section
variable {s : LnS} {m : Int} {b : Blk} {q k : Nat}
theorem kx (h : lnR s m = true) : ∃ k : Nat, m = (k : Int) /\ k < s.l.length := by
 have := agj h;exact ⟨m.toNat, by omega, by omega⟩
theorem px (h : lnR s m = false) : lnE s m = 2 := by unfold lnE; rw [h]; rfl
theorem xd (h : k < s.l.length) : lnE s (k : Int) = 0 := by unfold lnE; rw [iA h]; rfl
theorem afb (h : lnR s m = false) : qh s m q = 2 := by unfold qh; rw [h]; rfl
theorem ag1 : qh s m 0 = 2 := by unfold qh; cases lnR s m <;> rfl
theorem xY (h : k < s.l.length) (hq : q ≠ 0) : qh s (k : Int) q = 0 := by unfold qh; rw [iA h, am hq]; rfl
theorem abc (h : lnR s m = false) : eg s m b q = s := by unfold eg; rw [h]; rfl
theorem aev : eg s m b 0 = s := by unfold eg; cases lnR s m <;> rfl
theorem pQ (h : k < s.l.length) (hq : q ≠ 0) : eg s (k : Int) b q = ⟨s.l.set k ⟨true, true, b⟩, rE s.f q⟩ := by unfold eg; rw [iA h, am hq, Int.toNat_natCast]; rfl
theorem acn (h : lnR s m = false) : fN s m = s := by unfold fN; rw [h]; rfl
theorem acg (h : k < s.l.length) : fN s (k : Int) = ⟨s.l.set k lc0, s.f⟩ := by unfold fN; rw [iA h, Int.toNat_natCast]; rfl
theorem agn (h : lnR s m = false) : lnG s m = lc0 := by unfold lnG; rw [h]; rfl
theorem ahC (h : k < s.l.length) : lnG s (k : Int) = cW s k := by unfold lnG; rw [iA h, Int.toNat_natCast]; rfl
end
structure Ky where
 n : Int
 pin : Bool
def ky0 : Ky := ⟨0, false⟩
def plc (k : Int) : List Ky -> Nat
 |[] => 0
 |x :: r => if x.n = k then 0 else plc k r + 1
theorem oO {k : Int} {L : List Ky} (h : plc k L < L.length) : (L.getD (plc k L) ky0).n = k := by
 induction L with
 |nil => simp at h
 |cons x r ih =>
  unfold plc at h ⊢
  split
  ·rename_i e; simpa using e
  ·rename_i e
   rw [if_neg e] at h
   simpa using ih (by simpa using h)
theorem ahm {k : Int} {L : List Ky} {j : Nat} (h : j < plc k L) : (L.getD j ky0).n ≠ k := by
 induction L generalizing j with
 |nil => simp [plc] at h
 |cons x r ih =>
  unfold plc at h
  split at h
  ·omega
  ·rename_i e
   cases j with
   |zero => simpa using e
   |succ j => simpa using ih (by omega)
def wo {α : Type} (L : List α) (i : Nat) : List α := L.take i ++ L.drop (i + 1)
theorem nT {α : Type} {L : List α} {i : Nat} (h : i < L.length) : (wo L i).length + 1 = L.length := by
 unfold wo; simp; omega
theorem pa {α β : Type} (f : α -> β) (L : List α) (i : Nat) : (wo L i).map f = wo (L.map f) i := by unfold wo; simp [List.map_take, List.map_drop]
theorem jx {α : Type} (L : List α) (i : Nat) : (wo L i).Sublist L := by
 unfold wo
 conv => rhs; rw [<- List.take_append_drop i L]
 exact (List.Sublist.refl _).append ((List.drop_sublist_drop_left L (Nat.le_succ i)))
theorem nH {α : Type} (L : List α) (d : α) {i : Nat} (h : i < L.length) : L = L.take i ++ L.getD i d :: L.drop (i + 1) := by
 conv => lhs; rw [<- List.take_append_drop i L]
 rw [List.drop_eq_getElem_cons h];simp [List.getD, h]
theorem getD_map {α β : Type} (f : α -> β) (L : List α) (d : α) (e : β) {i : Nat} (h : i < L.length) : (L.map f).getD i e = f (L.getD i d) := by simp [List.getD, h]
def lu : List Ky -> Nat
 |[] => 0
 |x :: r => if 0 < lu r then lu r + 1 else if x.pin = true then 0 else 1
theorem acp (L : List Ky) : lu L <= L.length := by
 induction L with
 |nil => exact aj
 |cons x r ih => unfold lu; split <;> (try split) <;> simp <;> omega
theorem ag6 {L : List Ky} {j : Nat} (h : lu L <= j) (hj : j < L.length) : (L.getD j ky0).pin = true := by
 induction L generalizing j with
 |nil => simp at hj
 |cons x r ih =>
  unfold lu at h
  split at h
  ·cases j with
   |zero => omega
   |succ j => simpa using ih (by omega) (by simpa using hj)
  ·split at h
   ·rename_i h0 hx
    cases j with
    |zero => simpa using hx
    |succ j => simpa using ih (by omega) (by simpa using hj)
   ·cases j with
    |zero => omega
    |succ j => simpa using ih (by omega) (by simpa using hj)
theorem afD {L : List Ky} (h : 0 < lu L) : (L.getD (lu L - 1) ky0).pin = false := by
 induction L with
 |nil => simp [lu] at h
 |cons x r ih =>
  unfold lu at h ⊢
  split
  ·rename_i h0
   have := ih h0;rw [show lu r + 1 - 1 = (lu r - 1) + 1 from by omega]
   simpa using this
  ·rename_i h0
   rw [if_neg h0] at h
   split
   ·rename_i hx; rw [if_pos hx] at h; omega
   ·rename_i hx; simpa using hx
theorem ain {L : List Ky} {i : Nat} (hi : i < L.length) (h : (L.getD i ky0).pin = false) (hn : ∀ j, i < j -> j < L.length -> (L.getD j ky0).pin = true) : lu L = i + 1 := by
 have h1 := acp L;rcases Nat.lt_trichotomy (lu L) (i + 1) with h2 | h2 | h2
 ·have := ag6 (L := L) (j := i) (by omega) hi;rw [h] at this; cases this
 ·exact h2
 ·have := afD (L := L) (by omega);rw [hn (lu L - 1) (by omega) (by omega)] at this; cases this
theorem aeo {L : List Ky} (hn : ∀ j, j < L.length -> (L.getD j ky0).pin = true) : lu L = 0 := by
 have h1 := acp L;rcases Nat.eq_zero_or_pos (lu L) with h2 | h2
 ·exact h2
 ·have := afD h2;rw [hn (lu L - 1) (by omega)] at this; cases this
def uR (room : Nat) (k : Int) (L : List Ky) : List Ky := if plc k L < L.length then L.getD (plc k L) ky0 :: wo L (plc k L) else if L.length < room then ⟨k, false⟩ :: L else if lu L = 0 then L else ⟨k, false⟩ :: wo L (lu L - 1)
def tK (room : Nat) (k : Int) (L : List Ky) : Int := if plc k L < L.length then 0 else if L.length < room then 0 else if lu L = 0 then 0 else (L.getD (lu L - 1) ky0).n
def wk (room : Nat) (k : Int) (L : List Ky) : Bool := if plc k L < L.length then false else if L.length < room then false else if lu L = 0 then false else true
def vm (room : Nat) (k : Int) (L : List Ky) : Int := if plc k L < L.length then 0 else if L.length < room then 0 else if lu L = 0 then 10 else 0
def mK (k : Int) (is : Bool) (L : List Ky) : List Ky := if plc k L < L.length then L.set (plc k L) ⟨k, is⟩ else L
def wK (k : Int) (L : List Ky) : Int := if plc k L < L.length then 0 else 7
def qc (k : Int) (L : List Ky) : Bool := decide (plc k L < L.length) && (L.getD (plc k L) ky0).pin
def fk (L : List Ky) : List Int := L.map Ky.n
structure LOk (room : Nat) (L : List Ky) : Prop where
 one : (fk L).Nodup
 len : L.length <= room
 wf : ∀ x ∈ L, (Lit.int .i64 x.n).wf = true
theorem cz {α : Type} {L : List α} {d : α} {i : Nat} (h : i < L.length) : L.getD i d ∈ L := by simp [List.getD, h]
theorem lm {k : Int} {L : List Ky} : plc k L < L.length ↔ k ∈ fk L := by
 constructor
 ·intro h;unfold fk;exact List.mem_map.2 ⟨_, cz h, oO h⟩
 ·intro h;unfold fk at h;obtain ⟨x, hx, e⟩ := List.mem_map.1 h;rcases Nat.lt_or_ge (plc k L) L.length with h2 | h2
  ·exact h2
  ·obtain ⟨j, hj, e2⟩ := List.getElem_of_mem hx;exact absurd (by simp [List.getD, hj, e2, e]) (ahm (k := k) (L := L) (j := j) (by omega))
section
variable {room : Nat} {k : Int} {L : List Ky} {is : Bool}
theorem LOk.nil : LOk room [] := ⟨by simp [fk], by simp, by simp⟩
theorem LOk.wo (h : LOk room L) (i : Nat) : LOk room (wo L i) :=
 ⟨h.one.sublist ((jx L i).map _), aq (jx L i).length_le h.len, fun x hx => h.wf x ((jx L i).subset hx)⟩
theorem LOk.lt (h : LOk room L) {i : Nat} (hi : i < L.length) : (Proofs.YtlmdklakcmnaiaaGreatDoor.wo L i).length < room := by have := nT hi; have := h.len; omega
theorem agQ {L : List Ky} (h : (fk L).Nodup) {i : Nat} (hi : i < L.length) : (L.getD i ky0).n ∉ fk (wo L i) := by
 have e := nH L ky0 hi;unfold fk wo at *;rw [e, List.map_append, List.map_cons] at h;rw [List.map_append];have := List.nodup_append.1 h;intro hm;rcases List.mem_append.1 hm with hm | hm
 ·exact this.2.2 _ hm _ (by simp) rfl
 ·exact (List.nodup_cons.1 this.2.1).1 hm
theorem LOk.cons (h : LOk room L) {x : Ky} (hn : x.n ∉ fk L) (hl : L.length < room) (hw : (Lit.int .i64 x.n).wf = true) : LOk room (x :: L) :=
 ⟨by unfold fk at *; rw [List.map_cons]; exact List.nodup_cons.2 ⟨hn, h.one⟩, by simp; omega, fun y hy => by
  rcases List.mem_cons.1 hy with rfl | hy
  ·exact hw
  ·exact h.wf y hy⟩
theorem aaN {i : Nat} {x : Ky} (hx : x.n = (L.getD i ky0).n) : fk (L.set i x) = fk L := by
 unfold fk;rw [List.map_set];rcases Nat.lt_or_ge i L.length with hi | hi
 ·apply List.ext_getElem (by simp);intro j h1 h2;rw [List.getElem_set]
  split
  ·rename_i e; subst e; simp [hx, List.getD, hi]
  ·rfl
 ·rw [List.set_eq_of_length_le (by simpa using hi)]
theorem t8 : fk (mK k is L) = fk L := by
 unfold mK
 split
 ·rename_i h; exact aaN (oO h).symm
 ·rfl
theorem LOk.pin (h : LOk room L) : LOk room (mK k is L) := by
 refine ⟨by rw [t8]; exact h.one, by unfold mK; split <;> simp [h.len], fun x hx => ?_⟩;have : x.n ∈ fk (mK k is L) := List.mem_map.2 ⟨x, hx, rfl⟩;rw [t8] at this;obtain ⟨y, hy, e⟩ := List.mem_map.1 this;rw [<- e]; exact h.wf y hy
end
def c8 {α : Type} (f : Nat -> α) (i : Nat) (x : α) : Nat -> α := fun j => if j = i then x else f j
theorem cU {α : Type} (f : Nat -> α) (i : Nat) (x : α) : c8 f i x i = x := if_pos rfl
theorem bZ {α : Type} (f : Nat -> α) {i j : Nat} (x : α) (h : j ≠ i) : c8 f i x j = f j := if_neg h
def Seg (pv nx : Nat -> Nat) : Nat -> List Nat -> Nat -> Prop
 |a, [], b => nx a = b /\ pv b = a
 |a, x :: r, b => nx a = x /\ pv x = a /\ Seg pv nx x r b
section
variable {pv nx pv' nx' : Nat -> Nat} {a b c n : Nat} {l r : List Nat}
theorem seg_append : Seg pv nx a (l ++ c :: r) b ↔ Seg pv nx a l c /\ Seg pv nx c r b := by
 induction l generalizing a with
 |nil => simp [Seg, and_assoc]
 |cons x l ih => simp [Seg, ih, and_assoc]
theorem tI (h : Seg pv nx a l b) (hn : ∀ x, x = a \/ x ∈ l -> nx' x = nx x) (hp : ∀ x, x ∈ l \/ x = b -> pv' x = pv x) : Seg pv' nx' a l b := by
 induction l generalizing a with
 |nil => exact ⟨(hn a (.inl rfl)).trans h.1, (hp b (.inr rfl)).trans h.2⟩
 |cons x l ih =>
  refine ⟨(hn a (.inl rfl)).trans h.1, (hp x (.inl (by simp))).trans h.2.1, ih h.2.2 (fun y hy => hn y (.inr ?_)) fun y hy => hp y ?_⟩
  ·rcases hy with rfl | hy
   ·simp
   ·simp [hy]
  ·rcases hy with hy | hy
   ·exact .inl (by simp [hy])
   ·exact .inr hy
theorem rC (h : Seg pv nx a l b) : pv b ∈ a :: l := by
 induction l generalizing a with
 |nil => rw [h.2]; simp
 |cons x l ih => exact List.mem_cons_of_mem _ (ih h.2.2)
theorem ru (h : Seg pv nx a l b) : nx a ∈ l ++ [b] := by
 cases l with
 |nil => rw [h.1]; simp
 |cons x l => rw [h.1]; simp
theorem xH (h : Seg pv nx a l n) (hd : (a :: l).Nodup) (hn : ∀ x, x ∈ a :: l -> x ≠ pv n -> nx' x = nx x) (hp : ∀ x, x ∈ l -> pv' x = pv x) (h1 : nx' (pv n) = b) (h2 : pv' b = pv n) : Seg pv' nx' a l b := by
 induction l generalizing a with
 |nil => have e := h.2; rw [e] at h1 h2; exact ⟨h1, h2⟩
 |cons x l ih =>
  have hm := rC h.2.2;have hd' := List.nodup_cons.1 hd;refine ⟨(hn a (by simp) fun e => hd'.1 (by rw [e]; exact hm)).trans h.1, (hp x (by simp)).trans h.2.1, ih h.2.2 hd'.2 (fun y hy => hn y (List.mem_cons_of_mem _ hy)) fun y hy => hp y (by simp [hy])⟩
theorem aao (h : Seg pv nx n l b) (hd : (l ++ [b]).Nodup) (h1 : nx' a = nx n) (h2 : pv' (nx n) = a) (hn : ∀ x, x ∈ l -> nx' x = nx x) (hp : ∀ x, x ∈ l ++ [b] -> x ≠ nx n -> pv' x = pv x) : Seg pv' nx' a l b := by
 cases l with
 |nil => have e := h.1; rw [e] at h1 h2; exact ⟨h1, h2⟩
 |cons y l =>
  have e := h.1;rw [e] at h1 h2;rw [List.cons_append] at hd;have hd' := List.nodup_cons.1 hd;refine ⟨h1, h2, tI h.2.2 (fun x hx => hn x ?_) fun x hx => ?_⟩
  ·rcases hx with rfl | hx
   ·simp
   ·simp [hx]
  ·have hx' : x ∈ l ++ [b] := by
    rcases hx with hx | rfl
    ·simp [hx]
    ·simp
   exact hp x (by rw [List.cons_append]; exact List.mem_cons_of_mem _ hx') fun e2 => hd'.1 (by rw [e] at e2; rw [<- e2]; exact hx')
theorem zn {E : Nat} (h : Seg pv nx E (l ++ n :: r) E) (hd : (E :: (l ++ n :: r)).Nodup) : Seg (c8 pv (nx n) (pv n)) (c8 nx (pv n) (nx n)) E (l ++ r) E := by
 obtain ⟨h1, h2⟩ := seg_append.1 h;have hdE := List.nodup_cons.1 hd;have hdl := List.nodup_append.1 hdE.2;have hdn := List.nodup_cons.1 hdl.2.1;have hel : (E :: l).Nodup := List.nodup_cons.2 ⟨fun e => hdE.1 (by simp [e]), hdl.1⟩;have hm := rC h1;cases r with
 |nil =>
  have e : nx n = E := h2.1;rw [List.append_nil];refine xH (n := n) h1 hel (fun x _ hx => bZ _ _ hx) (fun x hx => bZ _ _ ?_) (by rw [cU]; exact e) (by rw [<- e, cU]);rw [e]; rintro rfl; exact hdE.1 (by simp [hx])
 |cons y r =>
  have e : nx n = y := h2.1;refine seg_append.2 ⟨xH (n := n) h1 hel (fun x _ hx => bZ _ _ hx) (fun x hx => bZ _ _ ?_) (by rw [cU]; exact e) (by rw [<- e, cU]), tI h2.2.2 (fun x hx => bZ _ _ ?_) fun x hx => bZ _ _ ?_⟩
  ·rw [e]; rintro rfl; exact hdl.2.2 x hx x (by simp) rfl
  ·have hx' : x ∈ y :: r := by
    rcases hx with rfl | hx
    ·simp
    ·simp [hx]
   intro e2;rw [<- e2] at hm;rcases List.mem_cons.1 hm with rfl | hm
   ·exact hdE.1 (by simp [hx'])
   ·exact hdl.2.2 x hm x (List.mem_cons_of_mem _ hx') rfl
  ·rw [e];have hyr := List.nodup_cons.1 hdn.2;rcases hx with hx | rfl
   ·rintro rfl; exact hyr.1 hx
   ·rintro rfl; exact hdE.1 (by simp)
theorem ph {E : Nat} (h : Seg pv nx E l E) (hd : (E :: l).Nodup) (hn : n ∉ E :: l) : Seg (c8 (c8 pv n E) (nx E) n) (c8 (c8 nx n (nx E)) E n) E (n :: l) E := by
 have hm := ru h;have hdE := List.nodup_cons.1 hd;have hmE : nx E ∈ E :: l := by
  rcases List.mem_append.1 hm with e | e
  ·exact List.mem_cons_of_mem _ e
  ·simp at e; rw [e]; simp
 have hne : n ≠ nx E := fun e => hn (by rw [e]; exact hmE)
 have hnE : n ≠ E := fun e => hn (by rw [e]; simp)
 refine ⟨cU _ _ _, by rw [bZ _ _ hne, cU], aao h ?_ (by rw [bZ _ _ hnE, cU]) (cU _ _ _) (fun x hx => ?_) fun x hx hx2 => ?_⟩
 ·refine List.nodup_append.2 ⟨hdE.2, by simp, fun x hx y hy e => ?_⟩;simp at hy; subst hy e; exact hdE.1 hx
 ·rw [bZ _ _ (fun e => hdE.1 (by rw [<- e]; exact hx)), bZ _ _ (fun e => hn (by rw [<- e]; exact List.mem_cons_of_mem _ hx))]
 ·rw [bZ _ _ hx2, bZ _ _ fun e => hn ?_];rw [<- e];rcases List.mem_append.1 hx with e | e
  ·exact List.mem_cons_of_mem _ e
  ·simp at e; rw [e]; simp
theorem aeh (h : Seg pv nx a l b) (i : Nat) (hi : i <= l.length) : nx ((a :: l).getD i 0) = (l ++ [b]).getD i 0 := by
 induction l generalizing a i with
 |nil =>
  obtain rfl : i = 0 := by simpa using hi
  simpa using h.1
 |cons x l ih =>
  cases i with
  |zero => simpa using h.1
  |succ i => simpa using ih h.2.2 i (by simpa using hi)
theorem adD (h : Seg pv nx a l b) (i : Nat) (hi : i <= l.length) : pv ((l ++ [b]).getD i 0) = (a :: l).getD i 0 := by
 induction l generalizing a i with
 |nil =>
  obtain rfl : i = 0 := by simpa using hi
  simpa using h.2
 |cons x l ih =>
  cases i with
  |zero => simpa using h.2.1
  |succ i => simpa using ih h.2.2 i (by simpa using hi)
end
def ni (b : Nat) : List Nat -> Nat
 |[] => 0
 |x :: r => if x = b then 0 else ni b r + 1
theorem kv {l : List Nat} (hd : l.Nodup) {i : Nat} (h : i < l.length) : ni (l.getD i 0) l = i := by
 induction l generalizing i with
 |nil => simp at h
 |cons x r ih =>
  have hd' := List.nodup_cons.1 hd;unfold ni;cases i with
  |zero => simp
  |succ i =>
   have hi : i < r.length := by simpa using h
   have hm : r.getD i 0 ∈ r := cz hi;rw [show (x :: r).getD (i + 1) 0 = r.getD i 0 from rfl, if_neg (fun e => hd'.1 (by rw [e]; exact hm)), ih hd'.2 hi]
def afK : Value -> Nat
 |.pointer (some a) => a.block
 |_ => 0
theorem abj {bs : List Nat} {i b : Nat} (hi : i < bs.length) (hb : b ∈ bs) (hn : b ≠ bs.getD i 0) : b ∈ wo bs i := by
 rw [nH bs 0 hi] at hb;unfold wo;rcases List.mem_append.1 hb with h | h
 ·exact List.mem_append.2 (.inl h)
 ·rcases List.mem_cons.1 h with h | h
  ·exact absurd h hn
  ·exact List.mem_append.2 (.inr h)
theorem xc {bs : List Nat} (hd : bs.Nodup) {i : Nat} (hi : i < bs.length) : bs.getD i 0 ∉ wo bs i := by
 have e := nH bs 0 hi;rw [e] at hd;have h := List.nodup_append.1 hd;unfold wo;intro hm;rcases List.mem_append.1 hm with hm | hm
 ·exact h.2.2 _ hm _ (by simp) rfl
 ·exact (List.nodup_cons.1 h.2.1).1 hm
theorem abF {pv nx : Nat -> Nat} {E i : Nat} {bs : List Nat} (h : Seg pv nx E bs E) (hd : (E :: bs).Nodup) (hi : i < bs.length) : Seg (c8 pv (nx (bs.getD i 0)) (pv (bs.getD i 0))) (c8 nx (pv (bs.getD i 0)) (nx (bs.getD i 0))) E (wo bs i) E := by
 have e := nH bs 0 hi;have h' : Seg pv nx E (bs.take i ++ bs.getD i 0 :: bs.drop (i + 1)) E := by rw [<- e]; exact h
 have hd' : (E :: (bs.take i ++ bs.getD i 0 :: bs.drop (i + 1))).Nodup := by rw [<- e]; exact hd
 exact zn h' hd'
theorem ze {α : Type} (f : Nat -> α) (i : Nat) : c8 f i (f i) = f := by
 funext j
 unfold c8
 split
 ·rename_i e; rw [e]
 ·rfl
structure ShS where
 N : Nat
 T : Nat
 room : Nat
 o : List Nat
 ln : Nat -> Option LnS
structure dh where
 n : Int
 m : Int
 b : Blk
section
def ShS.str (s : ShS) (n : Int) : Bool := decide (0 <= n /\ n < (s.T : Int))
def ShS.plc (s : ShS) (n m : Int) : Bool := decide (0 <= n /\ n < (s.T : Int) /\ 0 <= m /\ m < (s.N : Int))
def ShS.cf (s : ShS) (n : Nat) : LnS := (s.ln n).getD (dS s.N)
def ka (x : LnS) : Bool := !decide (lnD x = [])
def ShS.dty (s : ShS) (n : Nat) : Bool := match s.ln n with
 |none => false
 |some x => ka x
def ShS.dZ (s : ShS) (n : Nat) (x : Option LnS) : ShS := { s with ln := fun j => if j = n then x else s.ln j }
def eG (o : List Nat) (n : Nat) : List Nat := o.filter fun j => !decide (j = n)
def luD (d : Nat -> Bool) : List Nat -> Nat
 |[] => 0
 |x :: r => if 0 < luD d r then luD d r + 1 else if d x = true then 0 else 1
def ShS.goes (s : ShS) (n : Nat) : Bool := (s.ln n).isNone && decide (s.room <= s.o.length)
def ShS.gone (s : ShS) : Nat := s.o.getD (luD s.dty s.o - 1) 0
def ShS.eY (s : ShS) (n : Nat) : Bool := !(s.goes n && decide (luD s.dty s.o = 0))
def ShS.cut (s : ShS) (n : Nat) : ShS := if s.goes n = true then { s.dZ s.gone none with o := eG s.o s.gone } else s
def ShS.tch (s : ShS) (n : Nat) : ShS := if s.eY n = true then { (s.cut n).dZ n (some (s.cf n)) with o := n :: eG (s.cut n).o n } else s
def pD (d : Nat -> Bool) : Nat -> List Int
 |0 => []
 |k + 1 => pD d k ++ (if d k = true then [(k : Int)] else [])
def ShS.da (s : ShS) : List Int := pD s.dty s.T
def eQ : List Int -> List Int -> List Int
 |l, [] => l
 |l, x :: r => eQ (if l.contains x then l else l ++ [x]) r
def ShS.fits (s : ShS) (l : List Int) : Bool := decide ((eQ s.da l).length <= s.room)
def js (s : ShS) (q : Nat) (c : List dh) : Int :=
 if c.all (fun x => s.plc x.n x.m) = true then (if q = 0 then 2 else if s.fits (c.map dh.n) = true then 0 else 10) else 2
def dE (q : Nat) (s : ShS) (x : dh) : ShS := (s.tch x.n.toNat).dZ x.n.toNat (some (eg ((s.tch x.n.toNat).cf x.n.toNat) x.m x.b q))
def rM (N : Nat) (c : List dh) (n : Int) : Bool := c.any fun x => decide (x.n = n) && decide (x.m = ((N - 1 - n.toNat % N : Nat) : Int))
def cE (c : List dh) (s : ShS) (x : dh) : ShS := if rM s.N c x.n = true then s else s.dZ x.n.toNat (some (fN (s.cf x.n.toNat) ((s.N - 1 - x.n.toNat % s.N : Nat) : Int)))
def nZ (s : ShS) (q : Nat) (c : List dh) : ShS := if js s q c = 0 then c.foldl (cE c) (c.foldl (dE q) s) else s
def nf (n : Int) (x : LnS) : Nat -> List dh
 |0 => []
 |k + 1 => nf n x k ++ (if (cW x k).dt = true then [⟨n, (k : Int), (cW x k).b⟩] else [])
def dq (s : ShS) (n : Int) : List dh := if s.str n = true then nf n (s.cf n.toNat) s.N else []
def shE (s : ShS) (n : Int) : Int := if s.str n = true then 0 else 2
def dF (s : ShS) (n : Int) : ShS := if s.str n = true /\ (s.ln n.toNat).isSome = true then s.dZ n.toNat (some (fL (s.cf n.toNat))) else s
def ShS.strs (s : ShS) : List Int := s.o.map fun (n : Nat) => (n : Int)
def ox (N T room : Nat) : ShS := ⟨N, T, room, [], fun _ => none⟩
structure bX (s : ShS) : Prop where
 n3 : 3 <= s.N
 n16 : s.N <= 16
 t1 : 1 <= s.T
 t64 : s.T <= 64
 r1 : 1 <= s.room
 r64 : s.room <= 64
 nd : s.o.Nodup
 mem : ∀ n, n ∈ s.o ↔ (s.ln n).isSome = true
 lt : ∀ n ∈ s.o, n < s.T
 len : s.o.length <= s.room
 ok : ∀ n x, s.ln n = some x -> dO x /\ x.l.length = s.N
end
section
variable {o : List Nat} {n j k : Nat} {d : Nat -> Bool}
theorem ie : j ∈ eG o n ↔ j ∈ o /\ j ≠ n := by unfold eG; simp
theorem xK (h : o.Nodup) : (eG o n).Nodup := h.filter _
theorem lO (h : n ∉ o) : eG o n = o := by
 unfold eG;rw [List.filter_eq_self];intro x hx;have : x ≠ n := fun e => h (by rw [<- e]; exact hx)
 simp [this]
theorem nQ : (eG o n).length <= o.length := List.length_filter_le _ _
theorem yp (h : n ∈ o) : (eG o n).length + 1 <= o.length := by
 have := List.length_filter_lt_length_iff_exists (p := fun j => !decide (j = n)) (l := o);have h2 : (eG o n).length < o.length := this.2 ⟨n, h, by simp⟩;omega
theorem wP (o : List Nat) : luD d o <= o.length := by
 induction o with
 |nil => exact aj
 |cons x r ih => unfold luD; split <;> (try split) <;> simp <;> omega
theorem aeb {i : Nat} (h : luD d o <= i) (hi : i < o.length) : d (o.getD i 0) = true := by
 induction o generalizing i with
 |nil => simp at hi
 |cons x r ih =>
  unfold luD at h
  split at h
  ·cases i with
   |zero => omega
   |succ i => simpa using ih (by omega) (by simpa using hi)
  ·split at h
   ·rename_i h0 hx
    cases i with
    |zero => simpa using hx
    |succ i => simpa using ih (by omega) (by simpa using hi)
   ·cases i with
    |zero => omega
    |succ i => simpa using ih (by omega) (by simpa using hi)
theorem agi (h : 0 < luD d o) : d (o.getD (luD d o - 1) 0) = false := by
 induction o with
 |nil => simp [luD] at h
 |cons x r ih =>
  unfold luD at h ⊢
  split
  ·rename_i h0
   have := ih h0;rw [show luD d r + 1 - 1 = (luD d r - 1) + 1 from by omega]
   simpa using this
  ·rename_i h0
   rw [if_neg h0] at h
   split
   ·rename_i hx; rw [if_pos hx] at h; omega
   ·rename_i hx; simpa using hx
theorem aaI : ∀ (L : List Ky) (o : List Nat), L.map Ky.n = o.map (fun (n : Nat) => (n : Int)) -> (∀ k ∈ L, ∀ n : Nat, k.n = (n : Int) -> k.pin = d n) -> lu L = luD d o
 |[], [], _, _ => rfl
 |[], _ :: _, e, _ => by simp at e
 |_ :: _, [], e, _ => by simp at e
 |x :: r, n :: o, e, h => by
  simp only [List.map_cons, List.cons.injEq] at e;have ih := aaI r o e.2 fun k hk => h k (List.mem_cons_of_mem _ hk)
  rw [lu, luD, ih, h x (List.mem_cons_self ..) n e.1]
end
section
variable {s : ShS} {n j : Nat}
theorem bX.aiU (h : bX s) {i : Nat} (hi : i < s.o.length) : s.o.getD i 0 ∈ s.o := by
 rw [List.getD, List.getElem?_eq_getElem hi]; exact List.getElem_mem hi
theorem cZ (s : ShS) (n j : Nat) (x : Option LnS) : (s.dZ n x).ln j = if j = n then x else s.ln j := rfl
theorem eu {x : LnS} (h : s.ln n = some x) : s.cf n = x := by unfold ShS.cf; rw [h]; rfl
theorem iO (h : s.ln n = none) : s.cf n = dS s.N := by unfold ShS.cf; rw [h]; rfl
theorem bX.line (h : bX s) (n : Nat) : dO (s.cf n) /\ (s.cf n).l.length = s.N := by
 cases e : s.ln n with
 |none => rw [iO e]; exact ⟨dO.new (by have := h.n3; omega) h.n16, by simp [dS]⟩
 |some x => rw [eu e]; exact h.ok n x e
theorem bX.gone (h : bX s) (hl : 0 < luD s.dty s.o) : s.gone ∈ s.o /\ s.dty s.gone = false := by
 have := wP (d := s.dty) s.o;exact ⟨h.aiU (by omega), agi hl⟩
theorem bX.dZ (h : bX s) {x : LnS} (hn : n ∈ s.o) (hx : dO x) (hl : x.l.length = s.N) : bX (s.dZ n (some x)) := by
 refine ⟨h.n3, h.n16, h.t1, h.t64, h.r1, h.r64, h.nd, fun j => ?_, h.lt, h.len, fun j y hj => ?_⟩
 ·rw [cZ];by_cases e : j = n
  ·rw [if_pos e]; subst e; exact ⟨fun _ => rfl, fun _ => hn⟩
  ·rw [if_neg e]; exact h.mem j
 ·rw [cZ] at hj;by_cases e : j = n
  ·rw [if_pos e] at hj; injection hj with hj; subst hj; exact ⟨hx, hl⟩
  ·rw [if_neg e] at hj; exact h.ok j y hj
theorem bX.drop (h : bX s) (n : Nat) : bX { s.dZ n none with o := eG s.o n } := by
 refine ⟨h.n3, h.n16, h.t1, h.t64, h.r1, h.r64, xK h.nd, fun j => ?_, fun j hj => h.lt j (ie.1 hj).1, aq nQ h.len, fun j y hj => ?_⟩
 ·show j ∈ eG s.o n ↔ ((s.dZ n none).ln j).isSome = true
  rw [ie, cZ];by_cases e : j = n
  ·rw [if_pos e]; exact ⟨fun h' => absurd e h'.2, fun h' => by cases h'⟩
  ·rw [if_neg e, <- h.mem j]; exact ⟨fun h' => h'.1, fun h' => ⟨h', e⟩⟩
 ·replace hj : (s.dZ n none).ln j = some y := hj;rw [cZ] at hj;by_cases e : j = n
  ·rw [if_pos e] at hj; cases hj
  ·rw [if_neg e] at hj; exact h.ok j y hj
theorem bX.cut (h : bX s) (n : Nat) : bX (s.cut n) := by
 unfold ShS.cut
 split
 ·exact h.drop _
 ·exact h
theorem ShS.afS (s : ShS) (n : Nat) : (s.cut n).N = s.N /\ (s.cut n).T = s.T /\ (s.cut n).room = s.room := by unfold ShS.cut; split <;> exact ⟨rfl, rfl, rfl⟩
theorem ShS.oW (s : ShS) (n : Nat) : (s.tch n).N = s.N /\ (s.tch n).T = s.T /\ (s.tch n).room = s.room := by
 unfold ShS.tch
 split
 ·exact s.afS n
 ·exact ⟨rfl, rfl, rfl⟩
theorem bX.tch (h : bX s) (hn : n < s.T) : bX (s.tch n) := by
 unfold ShS.tch
 split
 ·rename_i ht
  have hc := h.cut n;obtain ⟨e1, e2, e3⟩ := s.afS n;refine ⟨hc.n3, hc.n16, hc.t1, hc.t64, hc.r1, hc.r64, ?_, fun j => ?_, fun j hj => ?_, ?_, fun j y hj => ?_⟩
  ·exact List.nodup_cons.2 ⟨fun e => (ie.1 e).2 rfl, xK hc.nd⟩
  ·show j ∈ n :: eG (s.cut n).o n ↔ (((s.cut n).dZ n (some (s.cf n))).ln j).isSome = true
   rw [cZ, List.mem_cons, ie];by_cases e : j = n
   ·rw [if_pos e]; exact ⟨fun _ => rfl, fun _ => .inl e⟩
   ·rw [if_neg e, <- hc.mem j]; exact ⟨fun h' => by rcases h' with h' | h'; exact absurd h' e; exact h'.1, fun h' => .inr ⟨h', e⟩⟩
  ·rcases List.mem_cons.1 hj with e | e
   ·subst e; show j < (s.cut j).T; rw [e2]; exact hn
   ·exact hc.lt j (ie.1 e).1
  ·show (n :: eG (s.cut n).o n).length <= (s.cut n).room
   rw [List.length_cons, e3];by_cases hg : s.goes n = true
   ·have hl : 0 < luD s.dty s.o := by
     unfold ShS.eY at ht;rw [hg] at ht;simp at ht;omega
    have hm := (h.gone hl).1;have ec : (s.cut n).o = eG s.o s.gone := by unfold ShS.cut; rw [if_pos hg]
    rw [ec];have := yp hm;have := nQ (o := eG s.o s.gone) (n := n);have := h.len;omega
   ·have ec : s.cut n = s := by unfold ShS.cut; rw [if_neg hg]
    rw [ec];unfold ShS.goes at hg;have hl := h.len;cases e : s.ln n with
    |none =>
     rw [e] at hg;simp at hg;have := nQ (o := s.o) (n := n);omega
    |some x =>
     have hm : n ∈ s.o := (h.mem n).2 (by rw [e]; rfl);have := yp hm;omega
  ·replace hj : ((s.cut n).dZ n (some (s.cf n))).ln j = some y := hj;rw [cZ] at hj
   show dO y /\ y.l.length = (s.cut n).N
   by_cases e : j = n
   ·rw [if_pos e] at hj; injection hj with hj; subst hj; rw [e1]; exact h.line n
   ·rw [if_neg e] at hj; exact hc.ok j y hj
 ·exact h
theorem bX.new {N T room : Nat} (h1 : 3 <= N) (h2 : N <= 16) (h3 : 1 <= T) (h4 : T <= 64) (h5 : 1 <= room) (h6 : room <= 64) : bX (ox N T room) :=
 ⟨h1, h2, h3, h4, h5, h6, List.nodup_nil, fun n => ⟨fun h => (by cases h), fun h => (by cases h)⟩, fun n h => (by cases h), Nat.zero_le _, fun n x h => (by cases h)⟩
end
end Go.Proofs.YtlmdklakcmnaiaaGreatDoor
