import Derived.Test.YtdmhelalbemlcaaGreatDoorSlak
namespace Go.Proofs.YtdmhelalbemlcaaGreatDoor
set_option maxHeartbeats 8000000
open Go.Proofs.Tryz
open Go.RowKit
set_option linter.unusedVariables false
set_option linter.unusedSimpArgs false
set_option maxRecDepth 100000
theorem aaT (N T : Nat) (r : Int) (lp mp : Nat) (w : World) : (Instr.build 66 #[(0, .agg #[.int .i64 (N : Int), .int .i64 (T : Int), .int .i64 r]), (1, .pointer (some ⟨lp, 0, none⟩)), (2, .map (some mp))]).run prog w = .ok (.agg (shC N T r lp mp).toArray) w := by kernel_rfl
theorem vW {ρ : Operand -> Value} {o : Oper} {x y z : Operand} {N T lp mp : Nat} {r : Int} {w : World} (ho : o.op = .build 66 #[(0, x), (1, y), (2, z)]) (hx : ρ x = .agg #[.int .i64 (N : Int), .int .i64 (T : Int), .int .i64 r]) (hy : ρ y = .pointer (some ⟨lp, 0, none⟩)) (hz : ρ z = .map (some mp)) : (execOp ρ o).run prog w = .ok (.value (.agg (shC N T r lp mp).toArray)) w := by
 unfold execOp;simp [ho, hx, hy, hz, aaT, Result.andThen]
theorem dG.congr {w : World} {b N : Nat} {M M' : Int -> Option Nat} (h : dG w b N M) (e : ∀ j, M' j = M j) : dG w b N M' := by
 have : M' = M := funext e;rw [this];exact h
theorem ahO {N T room : Nat} {r : Int} (w : World) (hg : dO (gx N T r) = true) (h1 : 1 <= room) (h2 : room <= 64) : Calls prog 7 #[geo (gx N T r), .int .i64 (room : Int)] w fun e w' => ∃ p S, e = .returned (.tuple #[.pointer (some ⟨p, 0, none⟩), .int .i64 0]) /\ PSh w' S p 0 (x6 N T room) /\ Below w.heap.size w w' /\ ∀ b, S b -> w.heap.size <= b := by
 have HG := ae hg;have HR1 := ae h1;have HR2 := ae h2;clear hg h1 h2;go_enter func7, ntmps7;go_upto_region 0 with fail;refine af ?_;refine aku (ch (cs := ([.int .i64 (N : Int), .int .i64 (T : Int), .int .i64 r] : List Value)) rfl akE) ?_;have hbx := (Below.refl w.heap.size w).alloc aj (.cells ([.int .i64 (N : Int), .int .i64 (T : Int), .int .i64 r] : List Value).toArray 24);have P1 := ae (heap_alloc_new w (.cells ([.int .i64 (N : Int), .int .i64 (T : Int), .int .i64 r] : List Value).toArray 24));have HB1 := ae hbx;clear hbx;generalize w.alloc (.cells ([.int .i64 (N : Int), .int .i64 (T : Int), .int .i64 r] : List Value).toArray 24) = w1 at *;refine aH 2 ?_;go_upto_region 1 with fail;refine af ?_;refine aku (bL (cs := ([.int .i64 (N : Int), .int .i64 (T : Int), .int .i64 r] : List Value)) underlying24 rfl (by kernel_rfl) rfl akE (aQ P1)) ?_;refine aw rfl (aA call25 rfl (evc akE evn)) ?_;refine (vc (gx N T r) w1).mono ?_;rintro e w2 ⟨rfl, b2⟩;rw [HG.out];have HB2 := ae (HB1.out.trans (b2.mono HB1.out.size));have P2 := ae (aB P1 b2);clear b2;refine aO ?_;refine aH 1 ?_;go_upto_region 3 with fail;refine aI 1 ?_;refine aw rfl (aA call26 rfl (evc akE evn)) ?_;refine (aeF room w2 HR1 HR2).mono ?_;rintro e w3 ⟨lp, rfl, l3, b3⟩;have HB3 := ae (HB2.out.trans (b3.mono HB2.out.size));have P3 := ae (aB P2 b3);have HL3 := ae l3;have HS23 : Hid (w.heap.size <= w2.heap.size) := ae HB2.out.size;clear l3 b3;refine aO ?_;refine runs 3 ?_;refine aH 2 ?_;go_upto_region 4 with fail;refine aI 1 ?_;refine aku (aL false rfl akE evk rfl) ?_;refine ah ?_;have hb4 := (Below.refl w3.heap.size w3).alloc aj (.map #[] 0);have HB4 := ae (HB3.out.trans (hb4.mono HB3.out.size));have HM4 := ae (dG.made w3);have HL4 := ae (HL3.out.below hb4);have HLN : Hid (∀ b, w2.heap.size <= b /\ b < w3.heap.size -> b < (w3.alloc (.map #[] 0)).heap.size) := ae fun b hb => ar hb.2 hb4.size
 have HLM : Hid (PLF w3 (fun b => w2.heap.size <= b /\ b < w3.heap.size) lp room []) := ae (HL3.out.mono fun b h1 h2 => ⟨h1, h2⟩);have HL5 : Hid (PLF (w3.alloc (.map #[] 0)) (fun b => w2.heap.size <= b /\ b < w3.heap.size) lp room []) := ae (HLM.out.below hb4);clear hb4;go_upto_region 6 with fail;refine af ?_;refine aku (bL (cs := ([.int .i64 (N : Int), .int .i64 (T : Int), .int .i64 r] : List Value)) underlying24 rfl (by kernel_rfl) rfl akE (aQ P3)) ?_;refine runs 1 ?_;refine aku (oD rfl) ?_;refine aku (vW rfl akE akE akE) ?_;refine aku (ch (cs := shC N T r lp w3.heap.size) rfl akE) ?_;refine aH 2 ?_;go_wp2_with fail;go_ret2;generalize w3.alloc (.map #[] 0) = w4 at *;have hb5 := (Below.refl w4.heap.size w4).alloc aj (.cells (shC N T r lp w3.heap.size).toArray 66);have h5 := heap_alloc_new w4 (.cells (shC N T r lp w3.heap.size).toArray 66);obtain ⟨k1, k2, k3, k4, _⟩ := agA HG;have hs34 : w3.heap.size < w4.heap.size := HM4.out.lt;refine ⟨w4.heap.size, qi w4.heap.size w3.heap.size (fun b => w2.heap.size <= b /\ b < w3.heap.size) (fun _ => none), rfl, ⟨lp, w3.heap.size, fun b => w2.heap.size <= b /\ b < w3.heap.size, fun _ => none, r, ⟨h5, HL5.out.below hb5, (HM4.out.kept fun es c hb => aB hb hb5).congr fun j => ?_, fun n => trivial, fun i j b h => (by cases h), ⟨fun h => (by have := h.2; omega), fun h => (by have := h.2; omega), fun n b h => (by cases h)⟩, fun b hb => ar (Nat.lt_trans hb.2 hs34) hb5.size, HG⟩, cf.new k1 k2 k3 k4 HR1 HR2, rfl⟩, HB4.out.trans (hb5.mono HB4.out.size), fun b hb => ?_⟩
 ·unfold mLn
  split <;> rfl
 ·have e1 := HS23.out;have e2 := HB4.out.size;have e3 := HB3.out.size;rcases hb with e | e | e | ⟨n, e⟩
  ·omega
  ·omega
  ·have := e.1; omega
  ·cases e
theorem zr (x : Ros) (room : Int) (w : World) (h : ¬ (dO x = true /\ 1 <= room /\ room <= 64)) : Calls prog 7 #[geo x, .int .i64 room] w fun e w' => e = .returned (.tuple #[.pointer none, .int .i64 2]) /\ Below w.heap.size w w' := by
 have HN := ae h;obtain ⟨gn, gt, gr⟩ : ∃ a b c, geo x = .agg ([.int .i64 a, .int .i64 b, .int .i64 c] : List Value).toArray := ⟨_, _, _, rfl⟩;obtain ⟨gr, hge⟩ := gr;have HGE := ae hge;rw [hge];clear h hge;go_enter func7, ntmps7;go_upto_region 0 with fail;refine af ?_;refine aku (ch (cs := ([.int .i64 gn, .int .i64 gt, .int .i64 gr] : List Value)) rfl akE) ?_;have hbx := (Below.refl w.heap.size w).alloc aj (.cells ([.int .i64 gn, .int .i64 gt, .int .i64 gr] : List Value).toArray 24);have P1 := ae (heap_alloc_new w (.cells ([.int .i64 gn, .int .i64 gt, .int .i64 gr] : List Value).toArray 24));have HB1 := ae hbx;clear hbx;generalize w.alloc (.cells ([.int .i64 gn, .int .i64 gt, .int .i64 gr] : List Value).toArray 24) = w1 at *;refine aH 2 ?_;cases hg : dO x
 ·have HG := ae hg;clear hg;go_upto_region 1 with fail;refine af ?_;refine aku (bL (cs := ([.int .i64 gn, .int .i64 gt, .int .i64 gr] : List Value)) underlying24 rfl (by kernel_rfl) rfl akE (aQ P1)) ?_;refine aw rfl (aA call25 rfl (evc akE evn)) ?_;rw [show Value.agg ([.int .i64 gn, .int .i64 gt, .int .i64 gr] : List Value).toArray = geo x from HGE.out.symm];refine (vc x w1).mono ?_;rintro e w2 ⟨rfl, b2⟩;rw [HG.out];have HB2 := ae (HB1.out.trans (b2.mono HB1.out.size));clear b2;refine aO ?_;refine aH 1 ?_;go_wp2_with fail;go_ret2;exact ⟨rfl, HB2⟩
 have HG := ae hg;have HR : Hid (¬ (1 <= room /\ room <= 64)) := ae fun e => HN.out ⟨hg, e⟩
 clear hg;go_upto_region 1 with fail;refine af ?_;refine aku (bL (cs := ([.int .i64 gn, .int .i64 gt, .int .i64 gr] : List Value)) underlying24 rfl (by kernel_rfl) rfl akE (aQ P1)) ?_;refine aw rfl (aA call25 rfl (evc akE evn)) ?_;rw [show Value.agg ([.int .i64 gn, .int .i64 gt, .int .i64 gr] : List Value).toArray = geo x from HGE.out.symm];refine (vc x w1).mono ?_;rintro e w2 ⟨rfl, b2⟩;rw [HG.out];have HB2 := ae (HB1.out.trans (b2.mono HB1.out.size));clear b2;refine aO ?_;refine aH 1 ?_;go_upto_region 3 with fail;refine aI 1 ?_;refine aw rfl (aA call26 rfl (evc akE evn)) ?_;refine (zN room w2 HR).mono ?_;rintro e w3 ⟨rfl, rfl⟩;refine aO ?_;refine runs 3 ?_;refine aH 2 ?_;go_upto_region 4 with fail;refine aI 1 ?_;refine aku (aL true rfl akE evk rfl) ?_;refine ah ?_;go_upto_region 5 with fail;refine co 3 ?_;go_wp2_with fail;go_ret2;exact ⟨rfl, HB2⟩
def shZ : List Value := [.int .i64 0, .int .i64 0, .int .i64 0, .pointer none, .map none]
def kF (w : World) (v : Value) : Prop := v = .pointer none \/ ∃ p, v = .pointer (some ⟨p, 0, none⟩) /\ w.heap[p]? = some (.cells shZ.toArray 66 (0, 0))
theorem kF.below {w w' : World} {v : Value} (h : kF w v) (hb : Below w.heap.size w w') : kF w' v := by
 rcases h with h | ⟨p, h, h1⟩
 ·exact .inl h
 ·exact .inr ⟨p, h, aB h1 hb⟩
theorem xq (w : World) : (Instr.build 66 #[]).run prog w = .ok (.agg shZ.toArray) w := by kernel_rfl
theorem mu (w : World) {v : Value} (h : kF w v) : Calls prog 55 #[v] w fun e w' => e = .returned (.bool false) /\ w = w' := by
 rcases h with rfl | ⟨p, rfl, h⟩
 ·go_enter func55, ntmps55;go_upto_region 1 with fail;refine aI 1 ?_;refine aku (dh false underlying26 rfl akE evk rfl) ?_;refine bj 5 rfl (aM rfl akE) (by kernel_rfl) ?_;simp only [bQ, ac, aa];refine aH 2 ?_;go_wp2_with fail;go_ret;exact ⟨rfl, rfl⟩
 ·have HP := ae h;clear h;go_enter func55, ntmps55;go_upto_region 1 with fail;refine aI 1 ?_;refine aku (dh true underlying26 rfl akE evk rfl) ?_;refine runs 3 ?_;refine akB (ax rfl akE fV) ?_;refine akB (aC rfl akE (jW (aQ HP 4 _ rfl))) ?_;refine akB (pM false underlying64 rfl akE evk rfl) ?_;refine aH 2 ?_;go_wp2_with fail;go_ret;exact ⟨rfl, rfl⟩
theorem oV (w : World) (v : Value) (h : kF w v) : Calls prog 18 #[v] w fun e w' => e = .returned (.slice none 0 0) /\ w = w' := by
 have H := ae h;clear h;go_enter func18, ntmps18;go_upto_region 1 with fail;refine aI 1 ?_;refine aw rfl (aA call55 rfl (evc akE evn)) ?_;refine (mu w H).mono ?_;rintro e w' ⟨rfl, rfl⟩;refine aO ?_;refine aH 1 ?_;go_wp2_with fail;go_ret;exact ⟨rfl, rfl⟩
theorem vf (w : World) (v : Value) (h : kF w v) : Calls prog 17 #[v] w fun e w' => e = .returned (.slice none 0 0) /\ Below w.heap.size w w' := by
 have H := ae h;clear h;go_enter func17, ntmps17;go_upto_region 2 with fail;refine aI 1 ?_;refine aw rfl (aA call18 rfl (evc akE evn)) ?_;refine (oV w v H).mono ?_;rintro e w' ⟨rfl, rfl⟩;refine aO ?_;refine aku (dH bY rfl akE) ?_;refine aH 1 ?_;go_wp2_with fail
 go_loopw [3, 5, 9] (fun z u c wr => c = .int .i64 0 /\ z = .slice none 0 0 /\ wr = w) (fun _ _ _ _ => 0)
 case atStart => exact ⟨rfl, rfl, rfl⟩
 case round =>
  obtain ⟨rfl, rfl, rfl⟩ := hrel;go_upto_region 3 with fail;refine af ?_;refine aku (aZ false rfl akE akE (by decide)) ?_;refine ah ?_;go_upto_region 8 with fail;refine aI 1 ?_;refine aw rfl (aA call63 rfl (evc akE evn)) ?_;refine (uh (l := []) (aP.nil wr wr.heap.size) aj (by decide)).mono ?_;rintro e w2 ⟨rfl, _, b2⟩;have HB := ae b2;clear b2;refine aO ?_;refine ah ?_;go_upto_region 9 with fail;refine co 2 ?_;go_wp2_with fail;go_ret;exact ⟨rfl, HB⟩
theorem acv (w : World) (v : Value) (h : kF w v) : Calls prog 23 #[v] w fun e w' => e = .returned (.int .u64 0) /\ Below w.heap.size w w' := by
 have H := ae h;clear h;go_enter func23, ntmps23;go_upto_region 2 with fail;refine aI 1 ?_;refine aw rfl (aA call17 rfl (evc akE evn)) ?_;refine (vf w v H).mono ?_;rintro e w1 ⟨rfl, b1⟩;have HB := ae b1;clear b1;refine aO ?_;refine aku (dH bY rfl akE) ?_;refine aH 1 ?_;go_wp2_with fail
 go_loopw [3, 5, 6, 10] (fun z u v c wr => c = .int .i64 0 /\ z = .int .u64 0 /\ wr = w1) (fun _ _ _ _ _ => 0)
 case atStart => exact ⟨rfl, rfl, rfl⟩
 case round =>
  obtain ⟨rfl, rfl, rfl⟩ := hrel;go_upto_region 3 with fail;refine af ?_;refine aku (aZ false rfl akE akE (by decide)) ?_;refine ah ?_;go_wp2_with fail;go_ret;exact ⟨rfl, HB⟩
theorem sE (w : World) (v : Value) (n : Int) (h : kF w v) : Calls prog 65 #[v, .int .i64 n] w fun e w' => e = .returned (.int .i64 1) /\ w = w' := by
 have H := ae h;clear h;go_enter func65, ntmps65;go_upto_region 1 with fail;refine aI 1 ?_;refine aw rfl (aA call55 rfl (evc akE evn)) ?_;refine (mu w H).mono ?_;rintro e w' ⟨rfl, rfl⟩;refine aO ?_;refine aH 2 ?_;go_wp2_with fail;go_ret;exact ⟨rfl, rfl⟩
theorem aa7 (w : World) (v : Value) (n : Int) (h : kF w v) : Calls prog 19 #[v, .int .i64 n] w fun e w' => e = .returned (.int .i64 1) /\ Below w.heap.size w w' := by
 have H := ae h;clear h;go_enter func19, ntmps19;go_upto_region 1 with fail;refine aI 2 ?_;refine aw rfl (aA call65 rfl (evc akE (evc akE evn))) ?_;refine (sE w v n H).mono ?_;rintro e w' ⟨rfl, rfl⟩;refine aO ?_;refine aH 1 ?_;go_upto_region 2 with fail;refine aI 1 ?_;refine aku (aL true rfl akE evk rfl) ?_;refine ah ?_;go_upto_region 3 with fail;refine co 2 ?_;go_wp2_with fail;go_ret;exact ⟨rfl, ak⟩
theorem aeO (w : World) (v : Value) (n : Int) (h : kF w v) : Calls prog 20 #[v, .int .i64 n] w fun e w' => e = .returned (.int .i64 1) /\ Below w.heap.size w w' := by
 have H := ae h;clear h;go_enter func20, ntmps20;go_upto_region 1 with fail;refine aI 2 ?_;refine aw rfl (aA call65 rfl (evc akE (evc akE evn))) ?_;refine (sE w v n H).mono ?_;rintro e w' ⟨rfl, rfl⟩;refine aO ?_;refine aH 1 ?_;go_upto_region 2 with fail;refine aI 1 ?_;refine aku (aL true rfl akE evk rfl) ?_;refine ah ?_;go_upto_region 3 with fail;refine co 2 ?_;go_wp2_with fail;go_ret;exact ⟨rfl, ak⟩
theorem abz (w : World) (v : Value) (n : Int) (h : kF w v) : Calls prog 21 #[v, .int .i64 n] w fun e w' => (∃ A c, e = .returned (.slice A 0 c)) /\ Below w.heap.size w w' := by
 have H := ae h;clear h;go_enter func21, ntmps21;go_upto_region 1 with fail;refine aI 2 ?_;refine aw rfl (aA call65 rfl (evc akE (evc akE evn))) ?_;refine (sE w v n H).mono ?_;rintro e w' ⟨rfl, rfl⟩;refine aO ?_;refine aku (aL true rfl akE evk rfl) ?_;refine ah ?_;go_wp2_with fail;go_ret;exact ⟨⟨_, _, rfl⟩, ak⟩
theorem acU (w : World) (v : Value) (n : Int) (h : kF w v) : Calls prog 22 #[v, .int .i64 n] w fun e w' => (∃ A c, e = .returned (.slice A 0 c)) /\ Below w.heap.size w w' := by
 have H := ae h;clear h;go_enter func22, ntmps22;go_upto_region 1 with fail;refine aI 2 ?_;refine aw rfl (aA call65 rfl (evc akE (evc akE evn))) ?_;refine (sE w v n H).mono ?_;rintro e w' ⟨rfl, rfl⟩;refine aO ?_;refine aku (aL true rfl akE evk rfl) ?_;refine ah ?_;go_wp2_with fail;go_ret;exact ⟨⟨_, _, rfl⟩, ak⟩
theorem zu (w : World) (v : Value) (Q : Nat) (h : kF w v) : Calls prog 50 #[v, .int .u64 (Q : Int), .slice none 0 0] w fun e w' => e = .returned (.int .i64 1) /\ w = w' := by
 have H := ae h;clear h;go_enter func50, ntmps50;go_upto_region 1 with fail;refine aI 1 ?_;refine aw rfl (aA call55 rfl (evc akE evn)) ?_;refine (mu w H).mono ?_;rintro e w' ⟨rfl, rfl⟩;refine aO ?_;refine aH 2 ?_;go_wp2_with fail;go_ret;exact ⟨rfl, rfl⟩
theorem agR (w : World) (v : Value) (Q : Nat) (h : kF w v) : Calls prog 13 #[v, .int .u64 (Q : Int), .slice none 0 0] w fun e w' => e = .returned (.int .i64 1) /\ Below w.heap.size w w' := by
 have H := ae h;clear h;go_enter func13, ntmps13;go_upto_region 1 with fail;refine aI 3 ?_;refine aw rfl (aA call50 rfl (evc akE (evc akE (evc akE evn)))) ?_;refine (zu w v Q H).mono ?_;rintro e w' ⟨rfl, rfl⟩;refine aO ?_;refine aH 1 ?_;go_upto_region 2 with fail;refine aI 1 ?_;refine aku (aL true rfl akE evk rfl) ?_;refine ah ?_;go_upto_region 3 with fail;refine co 2 ?_;go_wp2_with fail;go_ret;exact ⟨rfl, ak⟩
theorem aem (w : World) (v : Value) (h : kF w v) : Calls prog 24 #[v, .slice none 0 0] w fun e w' => e = .returned (.bool false) /\ Below w.heap.size w w' := by
 have H := ae h;clear h;go_enter func24, ntmps24;go_upto_region 1 with fail;refine aI 1 ?_;refine aw rfl (aA call55 rfl (evc akE evn)) ?_;refine (mu w H).mono ?_;rintro e w' ⟨rfl, rfl⟩;refine aO ?_;refine aH 1 ?_;go_wp2_with fail;go_ret;exact ⟨rfl, ak⟩
theorem af0 (w : World) (v u : Value) (n m : Int) (h : kF w v) : Calls prog 15 #[v, u, .agg #[.int .i64 n, .int .i64 m]] w fun e w' => (∃ b : Blk, e = .returned (.tuple #[blk b, .int .i64 1])) /\ Below w.heap.size w w' := by
 have hb1 := (Below.refl w.heap.size w).alloc aj (.cells (er n m).toArray 43);have HB1 := ae hb1;have hb2 := hb1.alloc hb1.size (.cells (cel aD).toArray 45);have HB2 := ae hb2;have H := ae (h.below hb2);have HB6 := ae (heap_alloc_new (w.alloc (.cells (er n m).toArray 43)) (.cells (cel aD).toArray 45));clear h hb1 hb2;go_enter func15, ntmps15;go_upto_region 0 with fail;refine af ?_;refine aku (lL rfl akE) ?_;refine aku (aU rfl) ?_;refine aH 1 ?_;obtain ⟨b6, hb6⟩ : ∃ b6, (w.alloc (.cells (er n m).toArray 43)).heap.size = b6 := ⟨_, rfl⟩;have HQ6 : Hid (w.heap.size <= b6) := ae (by rw [<- hb6]; exact HB1.out.size);rw [hb6] at HB6 ⊢;generalize (w.alloc (.cells (er n m).toArray 43)).alloc (.cells (cel aD).toArray 45) = w2 at *;clear hb6;go_upto_region 1 with fail;refine aI 1 ?_;refine aw rfl (aA call55 rfl (evc akE evn)) ?_;refine (mu w2 H).mono ?_;rintro e w' ⟨rfl, rfl⟩;refine aO ?_;refine aH 2 ?_;have hb3 := below_setCells HB2 HQ6 (o := 0) (cel aD);have HB3 := ae hb3;clear hb3;go_upto_region 3 with fail;refine af ?_;refine aku (cC (c := aD) (parts := []) rfl rfl) ?_;refine aG rfl (aS (c := aD) rfl (ev rfl) (ev rfl) (bI HB6.out)) ?_;simp only [aa];refine aH 1 ?_;go_wp2_with fail;exact bodyPost_ret (bZ rfl _ _ _ rfl (World.rangeAt_setCells_same _ _ _ _ (by rw [aJ]; exact bI HB6))) rfl ⟨⟨aD, rfl⟩, HB3⟩
section
variable {x : LnS} {N i n : Nat}
theorem adc (x : LnS) (i : Nat) : (qz x i).length = i := by
 induction i with
 |zero => rfl
 |succ i ih => rw [qz, List.length_append, ih]; rfl
theorem aa2 (hi : i < N) : (qz x i ++ List.replicate (N - i) false).set i (dd x i).kn = qz x (i + 1) ++ List.replicate (N - (i + 1)) false := by
 obtain ⟨d, hd⟩ : ∃ d, N - i = d + 1 := ⟨N - i - 1, by omega⟩;have hl := adc x i;rw [List.set_append_right _ _ (by omega), hl, Nat.sub_self, hd, List.replicate_succ, List.set_cons_zero, show N - (i + 1) = d by omega, qz, List.append_assoc]
 rfl
theorem ajt {w : World} {b k : Nat} {a : Bool} (h : w.there b k 1) : (Instr.storeAt 4 (.pointer (some ⟨b, k, none⟩)) (.bool a)).run prog w = .ok () (w.setCells b k (BoE.cel a)) := by
 obtain ⟨h1, h2⟩ := h 0 (by omega);rw [Nat.add_zero] at h1 h2;obtain ⟨u, hu⟩ := Option.isSome_iff_exists.1 h1;simp [go_sem, hu, h2, BoE, World.setCells]
theorem xe (hi : i < x.l.length) : lnG x (i : Int) = dd x i := by unfold lnG; rw [gq hi, Int.toNat_natCast]; rfl
def mJ (n : Int) (x : LnS) (l : List Int) : List Cl := l.map fun m => ⟨n, m, (dd x m.toNat).b⟩
theorem aco (n : Int) (x : LnS) (i : Nat) : (ad3 n x i).map cR = mJ n x (fU x.l i) := by
 induction i with
 |zero => rfl
 |succ i ih =>
  rw [ad3, fU, List.map_append, ih];unfold mJ;rw [List.map_append]
  congr 1
  show _ = List.map _ (if (dd x i).dt = true then [(i : Int)] else [])
  split
  ·rw [List.map_cons, List.map_nil, List.map_cons, List.map_nil, Int.toNat_natCast]; rfl
  ·rfl
theorem aaH {n : Int} {l : List Int} {i j : Nat} (hi : i < l.length) (hj : l.getD i 0 = (j : Int)) : mJ n x (l.take (i + 1)) = mJ n x (l.take i) ++ [⟨n, (j : Int), (dd x j).b⟩] := by
 unfold mJ;rw [vu hi, List.map_append, hj]
 rfl
end
theorem rI {w : World} {v : Value} {x : LnS} {N : Nat} (m : Int) (h : (v = .pointer none /\ x = dQ N) \/ ∃ a, v = .pointer (some ⟨a, 0, none⟩) /\ LnA w a (lf x) /\ dI x) : Calls prog 58 #[v, .int .i64 m] w fun e w' => e = .returned (.tuple #[blk (lnG x m).b, .bool (lnG x m).kn]) /\ Below w.heap.size w w' := by
 rcases h with ⟨rfl, rfl⟩ | ⟨a, rfl, h1, h2⟩
 ·have e : lnG (dQ N) m = lc0 := by
   unfold lnG
   split
   ·simp only [dd, dQ, List.getD, List.getElem?_replicate]
    split <;> rfl
   ·rfl
  rw [e];exact ahY w (.pointer none) m (.inl rfl)
 ·exact agX w m (B := 0) ⟨h1, Nat.zero_le _, h2⟩
theorem adH {w : World} {v : Value} {x : LnS} {N : Nat} (h : (v = .pointer none /\ x = dQ N) \/ ∃ a, v = .pointer (some ⟨a, 0, none⟩) /\ LnA w a (lf x) /\ dI x) : Calls prog 69 #[v] w fun e w' => ∃ v, e = .returned v /\ aP bY w' w.heap.size v (lnD x) /\ Below w.heap.size w w' := by
 rcases h with ⟨rfl, rfl⟩ | ⟨a, rfl, h1, h2⟩
 ·rw [yM];exact (aaX w (.pointer none) (.inl rfl)).mono fun e w' ⟨k0, k1⟩ => ⟨_, k0, aP.nil _ _, k1⟩
 ·exact aci w (B := 0) ⟨h1, Nat.zero_le _, h2⟩
section
variable {w : World} {t lp mp K : Nat} {FL : Nat -> Prop} {m : Nat -> Option Nat} {r : Int} {s : ShS}
theorem PRu.get {k : Nat} (h : PRu w t lp mp FL (kyL s.dty s.o) s.o.length m s.ln s.N s.T s.room r) (hok : cf s) (hk : k < s.T) : ∃ v, (Instr.lookup 64 (.map (some mp)) (.int .i64 (k : Int)) false).run prog w = .ok v w /\ ((v = .pointer none /\ s.bX k = dQ s.N) \/ ∃ a, v = .pointer (some ⟨a, 0, none⟩) /\ LnA w a (lf (s.bX k)) /\ dI (s.bX k)) := by
 have hlk := h.map.jT (gI (n := k) (by have := hok.t64; omega));rw [show mLn m (k : Int) = m k from by unfold mLn; rw [if_pos (by omega), Int.toNat_natCast]] at hlk;have hl := h.ln k;cases hx : s.ln k with
 |none =>
  rw [hx] at hl;rw [hl.none_] at hlk;exact ⟨_, hlk, .inl ⟨rfl, gW hx⟩⟩
 |some x =>
  rw [hx] at hl;obtain ⟨a, ha, h1, h2⟩ := hl.some_;rw [ha] at hlk;exact ⟨_, hlk, .inr ⟨a, rfl, by rw [dW hx]; exact h1, by rw [dW hx]; exact h2⟩⟩
theorem adp (n : Int) (h : PRu w t lp mp FL (kyL s.dty s.o) s.o.length m s.ln s.N s.T s.room r) (hok : cf s) : Calls prog 21 #[.pointer (some ⟨t, 0, none⟩), .int .i64 n] w fun e w' => ∃ v, e = .returned v /\ aP BoE w' w.heap.size v (oQ s n) /\ Below w.heap.size w w' := by
 have HH := ae h;have HOK := ae hok;have HN16 : Hid (s.N <= 16) := ae hok.n16;have HN6 : Hid (s.N <= 1000000) := ae (by have := hok.n16; omega);obtain ⟨en, hen⟩ : ∃ en, shE s n = en := ⟨_, rfl⟩;have HEN := ae hen;have HMY : Hid (ut s.T n = en) := ae ((mb n).trans hen);clear h hok hen;go_enter func21, ntmps21;cases hc : s.str n
 ·have HNE : Hid ((en != 0) = true) := ae (by rw [<- HEN.out]; unfold shE; rw [hc]; rfl);have HZ : Hid (oQ s n = []) := ae (by unfold oQ; rw [hc]; rfl);clear hc;go_upto_region 1 with fail;refine aI 2 ?_;refine aw rfl (aA call65 rfl (evc akE (evc akE evn))) ?_;refine (m9 n HH).mono ?_;rintro e w1 ⟨rfl, b1⟩;rw [HMY.out];have HB := ae b1;have HH1 := ae (HH.out.below b1);clear b1;refine aO ?_;refine aku (aL true rfl akE evk HNE) ?_;refine ah ?_;go_wp2_with fail;go_ret;exact ⟨_, rfl, by rw [HZ.out]; exact aP.nil _ _, HB⟩
 have hen0 : en = 0 := by rw [<- HEN.out]; unfold shE; rw [hc]; rfl
 subst hen0;obtain ⟨k, rfl, hk⟩ := nR hc;have HKT := ae hk;have HZ : Hid (oQ s (k : Int) = qz (s.bX k) s.N) := ae (by unfold oQ; rw [hc, if_pos rfl, Int.toNat_natCast]);clear hc hk;go_upto_region 1 with fail;refine aI 2 ?_;refine aw rfl (aA call65 rfl (evc akE (evc akE evn))) ?_;refine (m9 (k : Int) HH).mono ?_;rintro e w1 ⟨rfl, b1⟩;rw [HMY.out];have HB := ae b1;have HH1 := ae (HH.out.below b1);clear b1;refine aO ?_;refine aku (aL false rfl akE evk rfl) ?_;refine ah ?_;have hmz := qe BoE rfl w1 s.N w1.heap.size aj HN6;have hb1 := (Below.refl w1.heap.size w1).alloc aj (.cells (madeCells BoE.z.cells (s.N * BoE.n)) BoE.t);have HBZ := ae hb1;have HM0 : Hid (aP BoE (w1.alloc (.cells (madeCells BoE.z.cells (s.N * BoE.n)) BoE.t)) w1.heap.size (.slice (some ⟨w1.heap.size, 0, none⟩) s.N s.N) (List.replicate s.N false)) := ae hmz;clear hmz hb1;go_upto_region 3 with fail;refine aI 2 ?_;refine aku (ax rfl akE uE) ?_;refine aku (ax rfl akE acc) ?_;refine aku (aC rfl akE (bS (PRu.c0 HH1))) ?_;refine aku (pG (E := BoE) rfl akE akE HN6) ?_;generalize w1.alloc (.cells (madeCells BoE.z.cells (s.N * BoE.n)) BoE.t) = w2 at *;refine aH 1 ?_;obtain ⟨g, hg⟩ : ∃ g, w1.heap.size = g := ⟨_, rfl⟩;have HWG : Hid (w.heap.size <= g) := ae (by rw [<- hg]; exact HB.out.size);rw [hg] at HM0 HBZ ⊢;have HG := ae hg;clear hg;go_upto_region 4 with fail;refine aI 1 ?_;refine aku (dH BoE rfl akE) ?_;refine aH 1 ?_;go_wp2_with fail
 go_loopw [6, 19] (fun _ y wr => ∃ i : Nat, y = .int .i64 i /\ i <= s.N /\ aP BoE wr g (.slice (some ⟨g, 0, none⟩) s.N s.N) (qz (s.bX k) i ++ List.replicate (s.N - i) false) /\ Below g w1 wr) (fun _ y _ => s.N - (intOf y).toNat)
 case atStart => exact ⟨0, by go_num, Nat.zero_le _, HM0, HBZ⟩
 case round =>
  obtain ⟨i, rfl, hi, hm, hb⟩ := hrel;have HM := ae hm;have HW := ae hb;have HHr := ae (HH1.out.below (by rw [HG.out]; exact hb));have HBS : Hid (g <= wr.heap.size) := ae (by have := hb.size; rw [HG.out] at this; exact this);clear hm hb;go_upto_region 5 with fail;refine af ?_;by_cases hlt : i < s.N
  ·have HI := ae hlt;have HT : Hid (decide ((i : Int) < (s.N : Int)) = true) := ae (ao (by omega));have HADD : Hid (IntKind.i64.wrap ((i : Int) + 1) = ((i + 1 : Nat) : Int)) := ae (by have := HN16.out; rw [eV ⟨by omega, by omega⟩]; omega);obtain ⟨v, hlk, hv⟩ := HHr.out.get HOK HKT;have HLK := ae hlk;have HV := ae hv;have HKN : Hid ((lnG (s.bX k) (i : Int)).kn = (dd (s.bX k) i).kn) := ae (by rw [xe (by rw [(HOK.out.line k).2]; exact hlt)]);clear hi hlt hlk hv;refine aku (aZ true rfl akE akE HT) ?_;refine ah ?_;go_upto_region 6 with fail;refine co 2 ?_;go_upto_region 7 with fail;refine aI 3 ?_;refine runs 1 ?_;refine aku (ax rfl akE fV) ?_;refine aku (aC rfl akE (jW (PRu.c4 HHr))) ?_;refine runs 1 ?_;refine aku (cX rfl akE akE HLK) ?_;refine runs 1 ?_;refine aw rfl (aA call58 rfl (evc akE (evc akE evn))) ?_;refine (rI (i : Int) HV).mono ?_;rintro e w5 ⟨rfl, b5⟩;rw [HKN.out];have HM5 := ae (HM.out.below b5);have HW5 := ae (HW.out.trans (b5.mono HBS));have HTH : Hid (w5.there g (0 + i * BoE.n) 1) := ae (by have := HM5.out.there HI (j := 0) (m := 1) aj; rw [Nat.add_zero] at this; rwa [Nat.zero_add]);have HM6 : Hid (aP BoE (w5.setCells g (0 + i * BoE.n) (BoE.cel (dd (s.bX k) i).kn)) g (.slice (some ⟨g, 0, none⟩) s.N s.N) (qz (s.bX k) (i + 1) ++ List.replicate (s.N - (i + 1)) false)) := ae (by have := HM5.out.store HI (dd (s.bX k) i).kn; rw [aa2 HI.out] at this; rwa [Nat.zero_add]);have HW6 : Hid (Below g w1 (w5.setCells g (0 + i * BoE.n) (BoE.cel (dd (s.bX k) i).kn))) := ae (below_setCells HW5 aj _);clear b5;refine aO ?_;refine runs 3 ?_;refine aku (cu (E := BoE) rfl akE akE HI) ?_;refine aG rfl (cZ rfl (ev rfl) (ev rfl) (ajt HTH.out)) ?_;simp only [aa];generalize w5.setCells g (0 + i * BoE.n) (BoE.cel (dd (s.bX k) i).kn) = w6 at *;refine ah ?_;go_upto_region 8 with fail;refine af ?_;refine aku (bJ rfl akE evk HADD) ?_;refine aH 1 ?_;go_wp2_with fail;go_roundw
   case rel => exact ⟨i + 1, by go_num, HI, HM6, HW6⟩
   case measure => have := HI.out; simp [intOf]; omega
  have hin : i = s.N := by omega
  have HT : Hid (decide ((i : Int) < (s.N : Int)) = false) := ae (am (by omega));have HMF : Hid (aP BoE wr w.heap.size (.slice (some ⟨g, 0, none⟩) s.N s.N) (oQ s (k : Int))) := ae (by
   have := HM.out;rw [hin, Nat.sub_self, List.replicate_zero, List.append_nil] at this;rw [HZ.out];exact this.base HWG)
  clear hlt hi hin;refine aku (aZ false rfl akE akE HT) ?_;refine ah ?_;go_upto_region 9 with fail;refine co 2 ?_;go_wp2_with fail;go_ret;exact ⟨_, rfl, HMF, HB.out.trans (HW.out.mono HWG)⟩
theorem acp (n : Int) (h : PRu w t lp mp FL (kyL s.dty s.o) s.o.length m s.ln s.N s.T s.room r) (hok : cf s) : Calls prog 22 #[.pointer (some ⟨t, 0, none⟩), .int .i64 n] w fun e w' => ∃ v, e = .returned v /\ aP cQ w' w.heap.size v ((ot s n).map cR) /\ Below w.heap.size w w' := by
 have HH := ae h;have HOK := ae hok;have HN16 : Hid (s.N <= 16) := ae hok.n16;have HN6 : Hid (s.N <= 1000000) := ae (by have := hok.n16; omega);obtain ⟨en, hen⟩ : ∃ en, shE s n = en := ⟨_, rfl⟩;have HEN := ae hen;have HMY : Hid (ut s.T n = en) := ae ((mb n).trans hen);clear h hok hen;go_enter func22, ntmps22;cases hc : s.str n
 ·have HNE : Hid ((en != 0) = true) := ae (by rw [<- HEN.out]; unfold shE; rw [hc]; rfl);have HZ : Hid (ot s n = []) := ae (by unfold ot; rw [hc]; rfl);clear hc;go_upto_region 1 with fail;refine aI 2 ?_;refine aw rfl (aA call65 rfl (evc akE (evc akE evn))) ?_;refine (m9 n HH).mono ?_;rintro e w1 ⟨rfl, b1⟩;rw [HMY.out];have HB := ae b1;have HH1 := ae (HH.out.below b1);clear b1;refine aO ?_;refine aku (aL true rfl akE evk HNE) ?_;refine ah ?_;go_wp2_with fail;go_ret;exact ⟨_, rfl, by rw [HZ.out, List.map_nil]; exact aP.nil _ _, HB⟩
 have hen0 : en = 0 := by rw [<- HEN.out]; unfold shE; rw [hc]; rfl
 subst hen0;obtain ⟨k, rfl, hk⟩ := nR hc;have HKT := ae hk;have HZ : Hid ((ot s (k : Int)).map cR = mJ (k : Int) (s.bX k) (lnD (s.bX k))) := ae (by unfold ot; rw [hc, if_pos rfl, Int.toNat_natCast, aco, <- (HOK.out.line k).2]; rfl);have HDL : Hid ((lnD (s.bX k)).length <= 16) := ae (aq (yA _ _) (by rw [(HOK.out.line k).2]; exact HN16));have HDM : Hid (∀ i, i < (lnD (s.bX k)).length -> ∃ j : Nat, (lnD (s.bX k)).getD i 0 = (j : Int) /\ j < (s.bX k).l.length) := ae fun i hi => by
  obtain ⟨j, e, hj, _⟩ := xL (cz (d := 0) hi);exact ⟨j, e, hj⟩
 clear hc hk;go_upto_region 1 with fail;refine aI 2 ?_;refine aw rfl (aA call65 rfl (evc akE (evc akE evn))) ?_;refine (m9 (k : Int) HH).mono ?_;rintro e w1 ⟨rfl, b1⟩;rw [HMY.out];have HB := ae b1;have HH1 := ae (HH.out.below b1);clear b1;refine aO ?_;refine aku (aL false rfl akE evk rfl) ?_;refine ah ?_;obtain ⟨v, hlk, hv⟩ := HH1.out.get HOK HKT;have HLK := ae hlk;have HV := ae hv;clear hlk hv;go_upto_region 4 with fail;refine aI 2 ?_;refine aku (ax rfl akE fV) ?_;refine aku (aC rfl akE (jW (PRu.c4 HH1))) ?_;refine runs 1 ?_;refine aku (cX rfl akE akE HLK) ?_;refine aH 1 ?_;go_upto_region 5 with fail;refine aI 1 ?_;refine aw rfl (aA call69 rfl (evc akE evn)) ?_;refine (adH HV).mono ?_;rintro e w2 ⟨v2, rfl, m2, b2⟩;obtain ⟨A2, c2, rfl, _, _⟩ := m2.form;have HM2 := ae m2;have HB2 := ae (HB.out.trans (b2.mono HB.out.size));have HVW : Hid (∀ {w' : World}, Below w2.heap.size w2 w' -> (v = .pointer none /\ s.bX k = dQ s.N) \/ ∃ a, v = .pointer (some ⟨a, 0, none⟩) /\ LnA w' a (lf (s.bX k)) /\ dI (s.bX k)) := ae fun hw => by
  rcases HV.out with h | ⟨a, h1, h2, h3⟩
  ·exact .inl h
  ·exact .inr ⟨a, h1, (h2.below b2).below hw, h3⟩
 clear m2;refine aO ?_;refine aku (dH bY rfl akE) ?_;refine aH 1 ?_;obtain ⟨D, hD⟩ : ∃ D, lnD (s.bX k) = D := ⟨_, rfl⟩;rw [hD] at HDL HDM HM2 HZ ⊢;clear hD b2;go_wp2_with fail
 go_loopw [5, 8, 9, 10, 24] (fun z _ _ _ y wr => ∃ i : Nat, y = .int .i64 i /\ i <= D.length /\ aP cQ wr w2.heap.size z (mJ (k : Int) (s.bX k) (D.take i)) /\ Below w2.heap.size w2 wr) (fun _ _ _ _ y _ => D.length - (intOf y).toNat)
 case atStart => exact ⟨0, by go_num, Nat.zero_le _, aP.nil _ _, ak⟩
 case round =>
  obtain ⟨i, rfl, hi, hm, hb⟩ := hrel;have HM := ae hm;have HW := ae hb;have HMr := ae (aP.below HM2 hb);have HVr := ae (HVW.out hb);have HBS : Hid (w2.heap.size <= wr.heap.size) := ae hb.size;clear hm hb;by_cases hlt : i < D.length
  ·have HI := ae hlt;have HT : Hid (decide ((i : Int) < (D.length : Int)) = true) := ae (ao (by omega));have HADD : Hid (IntKind.i64.wrap ((i : Int) + 1) = ((i + 1 : Nat) : Int)) := ae (by have := HDL.out; rw [eV ⟨by omega, by omega⟩]; omega);obtain ⟨j, hj, hjL⟩ := HDM.out i hlt;obtain ⟨b, off, hA, _, hc⟩ := HMr.out.rd.int (k := i) hlt;rw [hj] at hc;subst hA;have HC := ae hc;have HGB : Hid (lnG (s.bX k) (j : Int) = dd (s.bX k) j) := ae (xe hjL);have HSN : Hid (mJ (k : Int) (s.bX k) (D.take (i + 1)) = mJ (k : Int) (s.bX k) (D.take i) ++ [⟨(k : Int), (j : Int), (dd (s.bX k) j).b⟩]) := ae (aaH hlt hj);have HLL : Hid ((mJ (k : Int) (s.bX k) (D.take i)).length <= 16) := ae (by unfold mJ; rw [List.length_map, List.length_take]; have := HDL.out; omega);clear hi hlt hj hjL hc;go_upto_region 6 with fail;refine af ?_;refine aku (aZ true rfl akE akE HT) ?_;refine ah ?_;go_upto_region 7 with fail;refine af ?_;refine aku (cu (E := bY) rfl akE akE HI) ?_;refine aku (aC rfl akE (bS (by rw [show i * bY.n = i from Nat.mul_one i]; exact HC.out))) ?_;refine aH 1 ?_;obtain ⟨bl, hbl⟩ : ∃ bl, (dd (s.bX k) j).b = bl := ⟨_, rfl⟩;rw [hbl] at HSN;have HBL := ae hbl;clear hbl;go_upto_region 8 with fail;refine aI 2 ?_;refine aw rfl (aA call58 rfl (evc akE (evc akE evn))) ?_;refine (rI (j : Int) HVr).mono ?_;rintro e w5 ⟨rfl, b5⟩;rw [HGB.out, HBL.out];have HM5 := ae (HM.out.below b5);have HW5 := ae (HW.out.trans (b5.mono HBS));have hb6 := HW5.out.alloc HW5.out.size (.cells (cel bl).toArray 45);have HW6 := ae hb6;have HX6 := ae (heap_alloc_new w5 (.cells (cel bl).toArray 45));have HM6 := ae (HM5.out.below ((Below.refl w5.heap.size w5).alloc aj (.cells (cel bl).toArray 45)));clear b5 hb6;refine aO ?_;refine runs 3 ?_;refine aku (aU rfl) ?_;refine aG rfl (dy (c := bl) rfl (ev rfl) (ev rfl)) ?_;simp only [aa];refine aH 1 ?_;obtain ⟨b6, hb6⟩ : ∃ b6, w5.heap.size = b6 := ⟨_, rfl⟩;rw [hb6] at HX6 ⊢;clear hb6;generalize w5.alloc (.cells (cel bl).toArray 45) = w6 at *;obtain ⟨cx, hcx⟩ : ∃ cx : Cl, (⟨(k : Int), (j : Int), bl⟩ : Cl) = cx := ⟨_, rfl⟩;have HBS6 : Hid (w2.heap.size <= w6.heap.size) := ae HW6.out.size;have hsz : (w6.alloc (.cells (el cx).toArray 56)).heap.size = w6.heap.size + 1 := al;obtain ⟨v2, wA, hrun, hm2, hg2⟩ := gB cQ (w6.alloc (.cells (el cx).toArray 56)) 47 w2.heap.size (w6.heap.size + 1) 1 1 u5 (mJ (k : Int) (s.bX k) (D.take i)) [cx] (some ⟨w6.heap.size, 0, none⟩) (aP.below HM6 (ak.alloc aj _)) (fg (E := cQ) (l := [cx]) w6 (el cx).toArray 56 (by simp [cv, cQ])) (by have := HBS6.out; omega) (by have := HLL.out; simp; omega);have HRUN := ae hrun;have HMA : Hid (aP cQ wA w2.heap.size v2 (mJ (k : Int) (s.bX k) (D.take (i + 1)))) := ae (by rw [HSN.out, hcx]; exact hm2);have HWA : Hid (Below w2.heap.size w2 wA) := ae ((HW6.out.trans (ak.alloc HBS6 _)).grown hg2 (by have := HBS6.out; omega) (fun j' hj' => HM6.out.gH j' hj'));have HCX := ae hcx;clear hsz hrun hm2 hg2 hcx;go_upto_region 9 with fail;refine aI 3 ?_;refine aku (xl rfl akE akE) ?_;refine aku (aW (c := bl) rfl akE (aQ HX6)) ?_;refine aku (aan (s := (k : Int)) (m := (j : Int)) (b := bl) rfl akE akE) ?_;refine aku (du (E := cQ) (a := cx) rfl akE (by rw [<- HCX.out]; rfl) (by show 66 <= _; omega)) ?_;refine aku (fN (E := cQ) rfl akE akE HRUN) ?_;refine aH 1 ?_;go_upto_region 10 with fail;refine af ?_;refine aku (bJ rfl akE evk HADD) ?_;refine aH 1 ?_;go_wp2_with fail;go_roundw
   case rel => exact ⟨i + 1, by go_num, HI, HMA, HWA⟩
   case measure => have := HI.out; simp [intOf]; omega
  have hin : i = D.length := by omega
  have HT : Hid (decide ((i : Int) < (D.length : Int)) = false) := ae (am (by omega));have HMF : Hid (aP cQ wr w.heap.size u5 ((ot s (k : Int)).map cR)) := ae (by
   have := HM.out;rw [hin, List.take_length] at this;rw [HZ.out];exact this.base HB2.out.size)
  clear hlt hi hin;go_upto_region 6 with fail;refine af ?_;refine aku (aZ false rfl akE akE HT) ?_;refine ah ?_;go_upto_region 11 with fail;refine co 2 ?_;go_wp2_with fail;go_ret;exact ⟨_, rfl, HMF, HB2.out.trans (HW.out.mono HB2.out.size)⟩
end
theorem sM {s sk no : Int} (hno : no ≠ 0) : ∀ (k i : Nat) (h : HuS) (x : Blk), (ftK s sk no k i h x).1 ≠ 0 -> (ftK s sk no k i h x).2.1 = aD
 |0, i, h, x => fun e => absurd rfl e
 |k + 1, i, h, x => by
  rw [ftK]
  split
  ·exact sM hno k (i + 1) h x
  ·split
   ·exact sM hno k (i + 1) _ _
   ·intro _; rfl
theorem afe {h : HuS} {s m : Int} (e : (ju h s m).1 ≠ 0) : (ju h s m).2.1 = aD := by
 unfold ju at e ⊢
 split
 ·rename_i h7
  rw [if_pos h7] at e;exact sM (by decide) _ _ _ _ e
 ·rename_i h7
  rw [if_neg h7] at e;exact if_neg e
theorem PSh.only {F S : Nat -> Prop} {w w' : World} {t K : Nat} {s : ShS} (h : PSh w S t K s) (hk : Only F w w') (hF : ∀ b, S b -> ¬ F b) : PSh w' S t K s := by
 obtain ⟨lp, mp, FL, m, r, h1, h2, rfl⟩ := h;exact ⟨lp, mp, FL, m, r, h1.only hk hF, h2, rfl⟩
structure QS (C : iV) (w0 : World) (G0 S0 : Nat -> Prop) (q p t K : Nat) (O : Nat -> Prop) (w : World) (h : HuS) (s : ShS) (G S : Nat -> Prop) : Prop where
 j : C.J w G q p h
 a : PSh w S t K s
 d : ∀ b, G b -> ¬ S b
 on : Only (fun b => G0 b \/ S0 b) w0 w
 gj : Grow w0 G0 G
 ga : Grow w0 S0 S
 o : ∀ b, O b -> ¬ G b /\ ¬ S b /\ b < w.heap.size /\ w0.heap.size <= b
 cr : CrG w0 G0 /\ ¬ S0 0
section
variable {C : iV} {w w' w0 : World} {G G' G0 S S' S0 : Nat -> Prop} {p q t K : Nat} {h h' : HuS} {s s' : ShS} {O O' : Nat -> Prop}
theorem QS.start (j : C.J w G q p h) (a : PSh w S t K s) (d : ∀ b, G b -> ¬ S b) (c1 : CrG w G) (c2 : ¬ S 0) : QS C w G S q p t K (fun _ => False) w h s G S := ⟨j, a, d, Only.refl _ _, Grow.same _ _, Grow.same _ _, fun _ e => e.elim, c1, c2⟩
theorem QS.guard (e : QS C w0 G0 S0 q p t K O w h s G S) (k : Below w.heap.size w w') (hO : ∀ b, O' b -> O b \/ (w.heap.size <= b /\ b < w'.heap.size)) : QS C w0 G0 S0 q p t K O' w' h s G S := by
 have hs := k.size;have hn := Only.of_below (fun _ => False) k;refine ⟨C.only e.j hn fun _ _ x => x, e.a.below k, e.d, e.on.ii k, e.gj, e.ga, fun b hb => ?_, e.cr⟩;have h0 := e.on.size;rcases hO b hb with x | ⟨x1, x2⟩
 ·exact ⟨(e.o b x).1, (e.o b x).2.1, ar (e.o b x).2.2.1 hs, (e.o b x).2.2.2⟩
 ·exact ⟨fun x => by have := C.lt e.j b x; omega, fun x => by have := e.a.lt b x; omega, x2, by omega⟩
theorem QS.below (e : QS C w0 G0 S0 q p t K O w h s G S) (k : Below w.heap.size w w') : QS C w0 G0 S0 q p t K O w' h s G S := e.guard k fun b x => .inl x
theorem QS.set {g : Nat} (e : QS C w0 G0 S0 q p t K O w h s G S) (hg : O g) (o : Nat) (vs : List Value) : QS C w0 G0 S0 q p t K O (w.setCells g o vs) h s G S := by
 have hk : Only (fun b => b = g) w (w.setCells g o vs) := (Only.refl (fun b => b = g) w).setCells (.inl rfl) vs o;have hs := hk.size;exact ⟨C.only e.j hk fun b hb x => by subst x; exact (e.o b hg).1 hb, e.a.only hk fun b hb x => by subst x; exact (e.o b hg).2.1 hb, e.d, e.on.trans hk fun b hb => by subst hb; exact .inr (e.o b hg).2.2.2, e.gj, e.ga, fun b hb => ⟨(e.o b hb).1, (e.o b hb).2.1, ar (e.o b hb).2.2.1 hs, (e.o b hb).2.2.2⟩, e.cr⟩
theorem QS.crg (e : QS C w0 G0 S0 q p t K O w h s G S) : CrG w G := by
 refine ⟨fun i hi => (e.on.cell (p := ⟨0, i, none⟩) (fJ (e.cr.1.t i hi)) (fun x => x.elim e.cr.1.off e.cr.2)).trans (e.cr.1.t i hi), fun x => ?_⟩;rcases e.gj _ x with y | y
 ·exact e.cr.1.off y
 ·have := fJ (e.cr.1.t 0 (by omega));exact absurd y (Nat.not_le_of_lt this)
theorem QS.akd (e : QS C w0 G0 S0 q p t K O w h s G S) (c : ∃ G', C.J w' G' q p h' /\ Only G w w' /\ Grow w G G') : (∃ G', QS C w0 G0 S0 q p t K O w' h' s G' S) /\ ci O w w' := by
 obtain ⟨G', b1, b2, b3⟩ := c;refine ⟨⟨G', b1, e.a.only b2 fun b hb x => e.d b x hb, fun b hb x => ?_, e.on.trans b2 fun b hb => ?_, fun b hb => ?_, e.ga, fun b hb => ?_, e.cr⟩, fun b hb => b2.block b (e.o b hb).2.2.1 (e.o b hb).1⟩
 ·rcases b3 b hb with y | y
  ·exact e.d b y x
  ·have := e.a.lt b x; omega
 ·rcases e.gj b hb with y | y
  ·exact .inl (.inl y)
  ·exact .inr y
 ·rcases b3 b hb with y | y
  ·exact e.gj b y
  ·exact .inr (aq e.on.size y)
 ·obtain ⟨c1, c2, c3, c4⟩ := e.o b hb;refine ⟨fun x => ?_, c2, ar c3 b2.size, c4⟩;rcases b3 b x with y | y
  ·exact c1 y
  ·omega
theorem QS.shelf (e : QS C w0 G0 S0 q p t K O w h s G S) (c : PSx w S w' t s') : (∃ S', QS C w0 G0 S0 q p t K O w' h s' G S') /\ ci O w w' := by
 obtain ⟨S', b1, b2, b3⟩ := c.res K;refine ⟨⟨S', C.only e.j b2 fun b hb x => e.d b hb x, b1, fun b hb x => ?_, e.on.trans b2 fun b hb => ?_, e.gj, fun b hb => ?_, fun b hb => ?_, e.cr⟩, fun b hb => b2.block b (e.o b hb).2.2.1 (e.o b hb).2.1⟩
 ·rcases b3 b x with y | y
  ·exact e.d b hb y
  ·have := C.lt e.j b hb; omega
 ·rcases e.ga b hb with y | y
  ·exact .inl (.inr y)
  ·exact .inr y
 ·rcases b3 b hb with y | y
  ·exact e.ga b y
  ·exact .inr (aq e.on.size y)
 ·obtain ⟨c1, c2, c3, c4⟩ := e.o b hb;refine ⟨c1, fun x => ?_, ar c3 b2.size, c4⟩;rcases b3 b x with y | y
  ·exact c2 y
  ·omega
def QR (C : iV) (w0 : World) (G0 S0 : Nat -> Prop) (q p t K : Nat) (h : HuS) (s : ShS) (w : World) : Prop := ∃ G S, C.J w G q p h /\ PSh w S t K s /\ (∀ b, G b -> ¬ S b) /\ Only (fun b => G0 b \/ S0 b) w0 w /\ Grow w0 G0 G /\ Grow w0 S0 S
theorem QS.res (e : QS C w0 G0 S0 q p t K O w h s G S) : QR C w0 G0 S0 q p t K h s w := ⟨G, S, e.j, e.a, e.d, e.on, e.gj, e.ga⟩
theorem eO {b : Nat} {o : Obj} (k : ci O w w') (hb : O b) (ho : w.heap[b]? = some o) : w'.heap[b]? = some o := (k b hb).trans ho
end
section
variable {s : ShS} {k i : Nat} {b : Blk}
theorem aaz (h : s.knw k (i : Int) = true) : (s.ln k).isSome = true := by
 cases e : s.ln k with
 |some x => rfl
 |none =>
  unfold ShS.knw at h;rw [gW e] at h;have e2 : (lnG (dQ s.N) (i : Int)).kn = false := by
   unfold lnG
   split
   ·simp only [dd, dQ, List.getD, List.getElem?_replicate]
    split <;> rfl
   ·rfl
  rw [e2] at h;cases h
theorem aaD (h : (s.ln k).isSome = true) : s.eA k = true := by
 unfold ShS.eA ShS.goes;cases e : s.ln k with
 |none => rw [e] at h; cases h
 |some x => rfl
theorem ac6 (h : cf s) (hb : s.eA k = true) (hi : i < s.N) (hk : s.knw k (i : Int) = false) : ((s.tch k).dn k (some (fq (s.bX k) (i : Int) b))).dty = (s.tch k).dty := funext fun j => by
 by_cases e : j = k
 ·subst e;have hl := h.line j;have hkn : (dd (s.bX j) i).kn = false := by
   unfold ShS.knw at hk;rwa [xe (by rw [hl.2]; exact hi)] at hk
  rw [iA (x := fq (s.bX j) (i : Int) b) (by rw [cU, if_pos rfl]), agf i b (by rw [hl.2]; exact hi) hkn hl.1, iA (jk hb)]
 ·exact kE (by rw [cU, if_neg e])
end
section
variable {C : iV} {w : World} {G S : Nat -> Prop} {p q t K : Nat} {h : HuS} {s : ShS}
theorem afa (F : ahy C) (n m : Int) (j : C.J w G q p h) (a : PSh w S t K s) (c1 : CrG w G) (c2 : ¬ S 0) (hd : ∀ b, G b -> ¬ S b) (hp : agu s h n m) : Calls prog 15 #[.pointer (some ⟨t, 0, none⟩), .pointer (some ⟨p, 0, none⟩), .agg #[.int .i64 n, .int .i64 m]] w fun e w' => e = .returned (.tuple #[blk (iP s h n m).2.1, .int .i64 (iP s h n m).1]) /\
  QR C w G S q p t K (iP s h n m).2.2.2 (iP s h n m).2.2.1 w' := by
 obtain ⟨X, hX⟩ : ∃ X, iP s h n m = X := ⟨_, rfl⟩;have hok := a.x.ok;have hokx := hok.rd h n m;rw [hX] at hokx ⊢;have HOKX := ae hokx;have HX := ae hX;have HPP := ae hp;have HOK := ae hok;have HID := ae (C.fin j).2;have HJ0 := ae (QS.start j a hd c1 c2);clear hok hX hokx hp j a hd c1 c2;go_enter func15, ntmps15;go_upto_region 0 with fail;refine af ?_;refine aku (lL rfl akE) ?_;have hbx := (Below.refl w.heap.size w).alloc aj (.cells (er n m).toArray 43);have HP1 := ae (heap_alloc_new w (.cells (er n m).toArray 43));have hsz : (w.alloc (.cells (er n m).toArray 43)).heap.size = w.heap.size + 1 := al;obtain ⟨bp, hbp⟩ : ∃ bp, w.heap.size = bp := ⟨_, rfl⟩;have HJ1 : Hid (QS C w G S q p t K (fun b => b = bp) (w.alloc (.cells (er n m).toArray 43)) h s G S) := ae (HJ0.out.guard hbx fun b e => by
  subst e; exact .inr ⟨by omega, by omega⟩)
 rw [hbp] at HP1 ⊢;clear hbp hbx hsz;generalize w.alloc (.cells (er n m).toArray 43) = w1 at *;refine aku (aU rfl) ?_;have hbx := (Below.refl w1.heap.size w1).alloc aj (.cells (cel aD).toArray 45);have HP2 := ae (aB HP1 hbx);have HQ2 := ae (heap_alloc_new w1 (.cells (cel aD).toArray 45));have hsz : (w1.alloc (.cells (cel aD).toArray 45)).heap.size = w1.heap.size + 1 := al;obtain ⟨b6, hb6⟩ : ∃ b6, w1.heap.size = b6 := ⟨_, rfl⟩;have HJ2 : Hid (QS C w G S q p t K (fun b => b = bp \/ b = b6) (w1.alloc (.cells (cel aD).toArray 45)) h s G S) := ae (HJ1.out.guard hbx fun b e => by
  rcases e with e | e
  ·exact .inl e
  ·subst e; exact .inr ⟨by omega, by omega⟩)
 rw [hb6] at HQ2 ⊢;clear hb6 hbx hsz;generalize w1.alloc (.cells (cel aD).toArray 45) = w2 at *;refine aH 1 ?_;go_upto_region 1 with fail;refine aI 1 ?_;refine aw rfl (aA call55 rfl (evc akE evn)) ?_;obtain ⟨lp, mp, FL, mz, r, hu2, hok2, hS2⟩ := HJ2.out.a;have HU2 := ae hu2;clear hu2 hok2 hS2;refine (lc HU2).mono ?_;rintro e w' ⟨rfl, rfl⟩;refine aO ?_;refine aH 2 ?_;go_upto_region 2 with fail;refine aI 1 ?_;refine aw rfl (aA call56 rfl (evc akE evn)) ?_;refine (C.id_ HJ2.out.j).mono ?_;rintro e w3 ⟨rfl, b3⟩;have HJ3 := ae (HJ2.out.below b3);have HP3 := ae (aB HP2 b3);have HQ3 := ae (aB HQ2 b3);have HU3 := ae (HU2.out.below b3);clear b3;refine aO ?_;refine aku (aF false rfl akE evk (au (by have := HID.out; omega))) ?_;refine aH 1 ?_;cases hpl : s.plc n m
 ·have HPC : Hid (decide (0 <= n /\ n < (s.T : Int) /\ 0 <= m /\ m < (s.N : Int)) = false) := ae hpl;have HZ : Hid (X = (2, aD, s, h)) := ae (by rw [<- HX.out]; unfold iP; rw [hpl, if_neg (by decide)]);clear hpl;go_upto_region 4 with fail;refine aI 1 ?_;refine aku (fD rfl akE (aQ HP3)) ?_;refine aw rfl (aA call57 rfl (evc akE (evc akE evn))) ?_;refine (fF n m HU3).mono ?_;rintro e w4 ⟨rfl, b4⟩;rw [HPC.out];have HJ4 := ae (HJ3.out.below b4);have HP4 := ae (aB HP3 b4);have HQ4 := ae (aB HQ3 b4);have HU4 := ae (HU3.out.below b4);clear b4;refine aO ?_;refine aH 2 ?_;go_upto_region 5 with fail;refine af ?_;refine aku (cC (c := aD) (parts := []) rfl rfl) ?_;refine aG rfl (aS (c := aD) rfl (ev rfl) (ev rfl) (bI HQ4.out)) ?_;simp only [aa];refine aH 1 ?_;go_wp2_with fail;exact bodyPost_ret (bZ rfl _ _ _ rfl (World.rangeAt_setCells_same _ _ _ _ (by rw [aJ]; exact bI HQ4))) rfl ⟨by rw [HZ.out]; rfl, by
   rw [HZ.out];exact (HJ4.out.set (g := b6) (.inr rfl) 0 (cel aD)).res⟩
 have HPC : Hid (decide (0 <= n /\ n < (s.T : Int) /\ 0 <= m /\ m < (s.N : Int)) = true) := ae hpl;have HPLC := ae hpl;obtain ⟨k, i, rfl, hk, rfl, hi⟩ := gk hpl;have HKT := ae hk;have HIN := ae hi;have HWF := ae (gI (n := k) (by have := HOK.out.t64; omega));clear hpl hk hi;go_upto_region 4 with fail;refine aI 1 ?_;refine aku (fD rfl akE (aQ HP3)) ?_;refine aw rfl (aA call57 rfl (evc akE (evc akE evn))) ?_;refine (fF (k : Int) (i : Int) HU3).mono ?_;rintro e w4 ⟨rfl, b4⟩;rw [HPC.out];have HJ4 := ae (HJ3.out.below b4);have HP4 := ae (aB HP3 b4);have HQ4 := ae (aB HQ3 b4);have HU4 := ae (HU3.out.below b4);clear b4;refine aO ?_;refine aH 2 ?_;have HPK : Hid (∀ {w' : World}, Below w4.heap.size w4 w' -> w'.cell? ⟨bp, 0, none⟩ = some (.int .i64 (k : Int)) /\ w'.cell? ⟨bp, 0 + 1, none⟩ = some (.int .i64 (i : Int))) := ae fun hw => eH (aQ (aB HP4 hw))
 obtain ⟨v, hlk, hv⟩ := HU4.out.get HOK HKT;have HV4 : Hid (∀ {w' : World}, Below w4.heap.size w4 w' -> (v = .pointer none /\ s.bX k = dQ s.N) \/ ∃ a, v = .pointer (some ⟨a, 0, none⟩) /\ LnA w' a (lf (s.bX k)) /\ dI (s.bX k)) := ae fun hw => by
  rcases hv with h | ⟨a, h1, h2, h3⟩
  ·exact .inl h
  ·exact .inr ⟨a, h1, h2.below hw, h3⟩
 have HLK : Hid (∀ {w' : World}, Below w4.heap.size w4 w' -> (Instr.lookup 64 (.map (some mp)) (.int .i64 (k : Int)) false).run prog w' = .ok v w') := ae fun hw => by
  obtain ⟨v', h1, _⟩ := (HU4.out.below hw).get HOK HKT;have e1 := HU4.out.map.jT HWF;have e2 := (HU4.out.below hw).map.jT HWF;rw [e1] at hlk;injection hlk with hlk;rw [e2, hlk]
 clear hlk hv;obtain ⟨xb, hxb⟩ : ∃ xb, (lnG (s.bX k) (i : Int)).b = xb := ⟨_, rfl⟩;obtain ⟨kn, hkn⟩ : ∃ kn, (lnG (s.bX k) (i : Int)).kn = kn := ⟨_, rfl⟩;have HXB := ae hxb;have HKK := ae hkn;have HSD : Hid (Below w4.heap.size w4 (World.drew w4)) := ae ((Below.refl w4.heap.size w4).drew);have HSB : Hid (Below w4.heap.size w4 ((World.drew w4).alloc (.cells (cel aD).toArray 45))) := ae (HSD.out.alloc aj _);clear hxb hkn;go_upto_region 6 with fail;refine wp_region_held (S := fun w' => Below w4.heap.size w4 w') (by kernel_rfl) ?_;change wpAnyH _ _ _ _ _ 16 _ _ w4.drew;apply aa5 (F := fun (vb : Value) (wz : World) => ∃ b, vb = .pointer (some ⟨b, 0, none⟩) /\ wz.heap[b]? = some (.cells (cel xb).toArray 45 (0, 0)) /\ Below w4.heap.size w4 wz /\ w4.heap.size <= b)
 ·intro kk;refine akR 0 rfl HSD ?_;refine akT 1 rfl HSD ?_;refine akx 2 rfl (fun _ hw => ax rfl akE fV) HSD ?_;refine akx 3 rfl (fun _ hw => aC rfl akE (jW (PRu.c4 (HU4.out.below hw)))) HSD ?_;refine akx 4 rfl (fun _ hw => ax rfl akE jR) HSD ?_;refine akx 5 rfl (fun _ hw => aC rfl akE (bS (HPK.out hw).1)) HSD ?_;refine akx 6 rfl (fun _ hw => cX rfl akE akE (HLK.out hw)) HSD ?_;refine akx 7 rfl (fun _ hw => ax rfl akE yr) HSD ?_;refine akx 8 rfl (fun _ hw => aC rfl akE (bS (HPK.out hw).2)) HSD ?_;refine nv 9 13 rfl rfl (by kernel_rfl) rfl rfl (aA call58 rfl (evc akE (evc akE evn))) ?_ (aU rfl) HSB ?_
  ·refine (rI (i : Int) (HV4.out HSD)).mono ?_;rintro e wA ⟨rfl, bA⟩;rw [HXB.out, HKK.out];have HSA := ae (Below.trans HSD (bA.mono (Below.size HSD)));clear bA;refine ⟨_, rfl, HSA, ?_⟩;simp only [aa];refine akR 10 rfl HSA ?_;refine akU 11 rfl HSA ?_;refine akU 12 rfl HSA ?_;have HSA2 := ae (HSA.out.alloc HSA.out.size (.cells (cel aD).toArray 45));have HSA3 := ae (HSA.out.alloc HSA.out.size (.cells (cel xb).toArray 45));refine rf 13 rfl (by kernel_rfl) rfl (aU rfl) HSA2.out ?_;simp only [aa];refine dr 14 rfl (by kernel_rfl) rfl (dy (c := xb) rfl (ev rfl) (ev rfl)) HSA3.out ?_;simp only [Act.put];refine akS 15 rfl HSA3 ?_;refine wpAnyH_done (by kernel_rfl) ?_ _;have hz : (wA.alloc (.cells (cel xb).toArray 45)).heap[wA.heap.size]? = _ := heap_alloc_new wA (.cells (cel xb).toArray 45);have hy := HSA3.out;have hge := HSA.out.size;obtain ⟨bb, hbb⟩ : ∃ bb, wA.heap.size = bb := ⟨_, rfl⟩;rw [hbb] at hz hge ⊢;clear HSA2 HSA3;generalize wA.alloc (.cells (cel xb).toArray 45) = wz at *;obtain ⟨vb, hvb⟩ : ∃ vb, Value.pointer (some ⟨bb, 0, none⟩) = vb := ⟨_, rfl⟩;rw [hvb];exact kk vb wz ⟨bb, hvb.symm, hz, hy, hge⟩
  ·skip
   simp only [aa];obtain ⟨wa, hwa⟩ : ∃ wa, w4.drew.alloc (.cells (cel aD).toArray 45) = wa := ⟨_, rfl⟩;have HSa := HSB;have HQa := ae (heap_alloc_new w4.drew (.cells (cel aD).toArray 45));obtain ⟨bb, hbb⟩ : ∃ bb, w4.drew.heap.size = bb := ⟨_, rfl⟩;have HBL : Hid (w4.heap.size <= bb) := ae (Nat.le_of_eq hbb);rw [hwa] at HSa HQa;rw [hbb] at HQa;rw [hwa, hbb];clear hwa hbb;refine dU 9 rfl (by kernel_rfl) rfl (aA call58 rfl (evc akE (evc akE evn))) ?_;refine (rI (i : Int) (HV4.out HSa)).mono ?_;rintro e wA ⟨rfl, bA⟩;rw [HXB.out, HKK.out];have HQB := ae (aB HQa bA);have HSb := ae (HSa.out.trans (bA.mono HSa.out.size));clear bA;refine ⟨_, rfl, HSb, ?_⟩;simp only [aa];refine akR 10 rfl HSb ?_;refine akU 11 rfl HSb ?_;refine akU 12 rfl HSb ?_;have HSc := ae (below_setCells HSb HBL (o := 0) (cel xb));refine dr 14 rfl (by kernel_rfl) rfl (aS (c := xb) rfl (ev rfl) (ev rfl) (bI HQB.out)) HSc.out ?_;simp only [Act.put];refine akS 15 rfl HSc ?_;refine wpAnyH_done (by kernel_rfl) ?_ _;have hz : (wA.setCells bb 0 (cel xb)).heap[bb]? = _ := mf HQB;have hy := HSc.out;clear HSc;generalize wA.setCells bb 0 (cel xb) = wz at *;obtain ⟨vb, hvb⟩ : ∃ vb, Value.pointer (some ⟨bb, 0, none⟩) = vb := ⟨_, rfl⟩;rw [hvb];exact kk vb wz ⟨bb, hvb.symm, hz, hy, HBL⟩
 rintro _ wz ⟨b8, rfl, hz, hy, hge⟩;have HWz : Hid (wz.heap[b8]? = some (.cells (cel xb).toArray 45 (0, 0))) := ae hz;have hg8 : b8 < wz.heap.size := aV hz;have HJz : Hid (QS C w G S q p t K (fun b => b = bp \/ b = b6 \/ b = b8) wz h s G S) := ae (HJ4.out.guard hy fun b e => by
  rcases e with e | e | e
  ·exact .inl (.inl e)
  ·exact .inl (.inr e)
  ·subst e; exact .inr ⟨hge, hg8⟩)
 have HPz := ae (aB HP4 hy);have HQz := ae (aB HQ4 hy);have HB86 : Hid (b8 ≠ b6) := ae fun e => by have := aV HQ4; omega
 clear hz hy hge hg8 HSB HSD HV4 HLK HPK HU4 HU3 HU2;cases kn;rotate_left 1
 ·have HKW : Hid (s.knw k (i : Int) = true) := ae HKK;have HTB := ae (aaD (aaz HKW));have HTE : Hid (tcE s k = 0) := ae (by unfold tcE; rw [if_pos HTB.out]);have HZ : Hid (X = (0, xb, s.tch k, h)) := ae (by
   rw [<- HX.out];unfold iP;rw [HPLC.out, if_pos rfl, Int.toNat_natCast, HKW.out, if_pos rfl, HXB.out])
  have HPK : Hid (wz.cell? ⟨bp, 0, none⟩ = some (.int .i64 (k : Int))) := ae (eH (aQ HPz)).1;go_upto_region 7 with fail;refine co 1 ?_;have HJd := ae (HJz.out.below (ak.drew));go_upto_region 8 with fail;refine wp_region_held (S := fun w' => w'.cell? ⟨bp, 0, none⟩ = some (.int .i64 (k : Int)) /\ w'.rangeAt b8 0 (cel xb)) (by kernel_rfl) ?_;change wpAnyH _ _ _ _ _ 7 _ _ wz.drew;refine akx 0 rfl (fun _ hw => aW (c := xb) rfl akE hw.2) ⟨HPK, aQ HWz⟩ ?_;refine akR 1 rfl ⟨HPK, aQ HWz⟩ ?_;refine akx 2 rfl (fun _ hw => ax rfl akE jR) ⟨HPK, aQ HWz⟩ ?_;refine akx 3 rfl (fun _ hw => aC rfl akE (bS hw.1)) ⟨HPK, aQ HWz⟩ ?_;refine dU 4 rfl (by kernel_rfl) rfl (aA call59 rfl (evc akE (evc akE evn))) ?_;refine (mh HJd.out.a.x HKT).mono ?_;rintro e w8 ⟨rfl, c8⟩;rw [HTE.out];obtain ⟨⟨S8, hj8⟩, kp⟩ := HJd.out.shelf c8;have HJ8 := ae hj8;have HP8 := ae (eO kp (.inl rfl) HPz);have HQ8 := ae (eO kp (.inr (.inl rfl)) HQz);have HW8 := ae (eO kp (.inr (.inr rfl)) HWz);have HSA : Hid (w8.cell? ⟨bp, 0, none⟩ = some (.int .i64 (k : Int)) /\ w8.rangeAt b8 0 (cel xb)) := ae ⟨(eH (aQ HP8)).1, aQ HW8⟩;have HST : Hid ((w8.setCells b6 0 (cel xb)).cell? ⟨bp, 0, none⟩ = some (.int .i64 (k : Int)) /\ (w8.setCells b6 0 (cel xb)).rangeAt b8 0 (cel xb)) := ae (by
   have h1 : (w8.setCells b6 0 (cel xb)).heap[bp]? = _ := Only.keep ((Only.refl (fun b => b = b6) w8).setCells (.inl rfl) (cel xb) 0) HP8 (fun e => by have e1 := HP8.out; have e2 := HQ8.out; rw [e] at e1; exact absurd (e1.symm.trans e2) (by intro hh; injection hh with hh; injection hh with _ hh; exact absurd hh (by decide)));have h2 : (w8.setCells b6 0 (cel xb)).heap[b8]? = _ := Only.keep ((Only.refl (fun b => b = b6) w8).setCells (.inl rfl) (cel xb) 0) HW8 (fun e => HB86.out e);exact ⟨(eH (aQ h1)).1, aQ h2⟩)
  clear c8 hj8 kp;refine ⟨_, rfl, HSA, ?_⟩;simp only [aa];refine dr 5 rfl (by kernel_rfl) rfl (aS (c := xb) rfl (ev rfl) (ev rfl) (bI HQ8.out)) HST.out ?_;simp only [Act.put];refine akS 6 rfl HST ?_;refine wpAnyH_done (by kernel_rfl) ?_ _;go_wp2_with fail;exact bodyPost_ret (bZ rfl _ _ _ rfl (World.rangeAt_setCells_same _ _ _ _ (by rw [aJ]; exact bI HQ8))) rfl ⟨by rw [HZ.out]; rfl, by
   rw [HZ.out];exact (HJ8.out.set (g := b6) (.inr (.inl rfl)) 0 (cel xb)).res⟩
 have HKN : Hid (s.knw k (i : Int) = false) := ae HKK;go_upto_region 7 with fail;refine co 1 ?_;have HPF := HPP.out HPLC (by rw [Int.toNat_natCast]; exact HKN);have HFP : Hid (ae1 h (k : Int) (i : Int)) := ae HPF;obtain ⟨e0, he0⟩ : ∃ e0, (ju h (k : Int) (i : Int)).1 = e0 := ⟨_, rfl⟩;obtain ⟨x0, hx0⟩ : ∃ x0, (ju h (k : Int) (i : Int)).2.1 = x0 := ⟨_, rfl⟩;obtain ⟨h1, hh1⟩ : ∃ h1, (ju h (k : Int) (i : Int)).2.2 = h1 := ⟨_, rfl⟩;have HE0 := ae he0;have HX0 := ae hx0;have HH1 := ae hh1;have HXX : Hid (X = (e0, x0, if e0 = 0 /\ s.eA k = true then (s.tch k).dn k (some (fq ((s.tch k).bX k) (i : Int) x0)) else s, h1)) := ae (by
  rw [<- HX.out];unfold iP;rw [HPLC.out, if_pos rfl, Int.toNat_natCast, HKN.out, if_neg (by decide), he0, hx0, hh1])
 have HER : Hid (e0 ≠ 0 -> x0 = aD) := ae fun e => by rw [<- hx0]; exact afe (by rw [he0]; exact e)
 clear HPF he0 hx0 hh1;go_upto_region 9 with fail;refine aI 1 ?_;refine aku (fD rfl akE (aQ HPz)) ?_;refine aw rfl (aA call60 rfl (evc akE (evc akE evn))) ?_;refine (F.cell (k : Int) (i : Int) HJz.out.j HJz.out.crg HFP).mono ?_;rintro e w6 ⟨rfl, c6⟩;obtain ⟨⟨G6, hj6⟩, kp⟩ := HJz.out.akd c6;rw [HE0.out, HX0.out];rw [HH1.out] at hj6;have HJ6 := ae hj6;have HP6 := ae (eO kp (.inl rfl) HPz);have HQ6 := ae (eO kp (.inr (.inl rfl)) HQz);have HW6 := ae (eO kp (.inr (.inr rfl)) HWz);clear c6 hj6 kp;refine aO ?_;refine runs 3 ?_;refine aku (aU rfl) ?_;refine aG rfl (dy (c := x0) rfl (ev rfl) (ev rfl)) ?_;simp only [aa];refine aH 1 ?_;have hbx := (Below.refl w6.heap.size w6).alloc aj (.cells (cel x0).toArray 45);have HP7 := ae (aB HP6 hbx);have HQ7 := ae (aB HQ6 hbx);have HW7 := ae (aB HW6 hbx);have HV7 := ae (heap_alloc_new w6 (.cells (cel x0).toArray 45));have hsz : (w6.alloc (.cells (cel x0).toArray 45)).heap.size = w6.heap.size + 1 := al;obtain ⟨b10, hb10⟩ : ∃ b10, w6.heap.size = b10 := ⟨_, rfl⟩;have HJ7 : Hid (QS C w G S q p t K (fun b => b = bp \/ b = b6 \/ b = b8 \/ b = b10) (w6.alloc (.cells (cel x0).toArray 45)) h1 s G6 S) := ae (HJ6.out.guard hbx fun b e => by
  rcases e with e | e | e | e
  ·exact .inl (.inl e)
  ·exact .inl (.inr (.inl e))
  ·exact .inl (.inr (.inr e))
  ·subst e; exact .inr ⟨by omega, by omega⟩)
 rw [hb10] at HV7 ⊢;clear hb10 hbx hsz;generalize w6.alloc (.cells (cel x0).toArray 45) = w7 at *;by_cases h0 : e0 = 0;rotate_left 1
 ·have H0 : Hid ((e0 != 0) = true) := ae (bne_iff_ne.2 h0);have HZ : Hid (X = (e0, aD, s, h1)) := ae (by rw [HXX.out, if_neg (fun e => h0 e.1), HER.out h0]);clear h0;go_upto_region 10 with fail;refine aI 1 ?_;refine aku (aL true rfl akE evk H0) ?_;refine ah ?_;go_upto_region 11 with fail;refine af ?_;refine aku (cC (c := aD) (parts := []) rfl rfl) ?_;refine runs 1 ?_;refine aG rfl (aS (c := aD) rfl (ev rfl) (ev rfl) (bI HQ7.out)) ?_;simp only [aa];refine aH 1 ?_;go_wp2_with fail;exact bodyPost_ret (bZ rfl _ _ _ rfl (World.rangeAt_setCells_same _ _ _ _ (by rw [aJ]; exact bI HQ7))) rfl ⟨by rw [HZ.out]; rfl, by
   rw [HZ.out];exact (HJ7.out.set (g := b6) (.inr (.inl rfl)) 0 (cel aD)).res⟩
 subst h0;go_upto_region 10 with fail;refine aI 1 ?_;refine aku (aL false rfl akE evk rfl) ?_;refine ah ?_;have HPK : Hid (w7.cell? ⟨bp, 0, none⟩ = some (.int .i64 (k : Int))) := ae (eH (aQ HP7)).1;cases htb : s.eA k
 ·have HTE : Hid (tcE s k = 10) := ae (by unfold tcE; rw [htb, if_neg (by decide)]);have HZ : Hid (X = (0, x0, s.tch k, h1)) := ae (by rw [HXX.out, if_neg (fun e => by rw [htb] at e; cases e.2), acX s k htb]);clear htb;go_upto_region 12 with fail;refine aI 1 ?_;refine aku (ax rfl akE jR) ?_;refine aku (aC rfl akE (bS HPK)) ?_;refine aw rfl (aA call59 rfl (evc akE (evc akE evn))) ?_;refine (mh HJ7.out.a.x HKT).mono ?_;rintro e w8 ⟨rfl, c8⟩;rw [HTE.out];obtain ⟨⟨S8, hj8⟩, kp⟩ := HJ7.out.shelf c8;have HJ8 := ae hj8;have HP8 := ae (eO kp (.inl rfl) HP7);have HQ8 := ae (eO kp (.inr (.inl rfl)) HQ7);have HW8 := ae (eO kp (.inr (.inr (.inl rfl))) HW7);have HV8 := ae (eO kp (.inr (.inr (.inr rfl))) HV7);clear c8 hj8 kp;refine aO ?_;refine aku (aF false rfl akE evk rfl) ?_;refine ah ?_;go_upto_region 14 with fail;refine af ?_;refine aku (aW (c := x0) rfl akE (aQ HV8)) ?_;refine aG rfl (aS (c := x0) rfl (ev rfl) (ev rfl) (bI HQ8.out)) ?_;simp only [aa];refine aH 1 ?_;go_wp2_with fail;exact bodyPost_ret (bZ rfl _ _ _ rfl (World.rangeAt_setCells_same _ _ _ _ (by rw [aJ]; exact bI HQ8))) rfl ⟨by rw [HZ.out]; rfl, by
   rw [HZ.out];exact (HJ8.out.set (g := b6) (.inr (.inl rfl)) 0 (cel x0)).res⟩
 have HTE : Hid (tcE s k = 0) := ae (by unfold tcE; rw [if_pos htb]);have HTL : Hid ((s.tch k).ln k = some (s.bX k)) := ae (jk htb);have HZ : Hid (X = (0, x0, (s.tch k).dn k (some (fq (s.bX k) (i : Int) x0)), h1)) := ae (by rw [HXX.out, if_pos ⟨rfl, htb⟩, dW HTL.out]);have HON : Hid (cf ((s.tch k).dn k (some (fq (s.bX k) (i : Int) x0)))) := ae (by have := HOKX.out; rw [HZ.out] at this; exact this);have HDT := ae (ac6 (b := x0) HOK htb HIN HKN);clear htb;go_upto_region 12 with fail;refine aI 1 ?_;refine aku (ax rfl akE jR) ?_;refine aku (aC rfl akE (bS HPK)) ?_;refine aw rfl (aA call59 rfl (evc akE (evc akE evn))) ?_;refine (mh HJ7.out.a.x HKT).mono ?_;rintro e w8 ⟨rfl, c8⟩;rw [HTE.out];obtain ⟨⟨S8, hj8⟩, kp⟩ := HJ7.out.shelf c8;have HJ8 := ae hj8;have HP8 := ae (eO kp (.inl rfl) HP7);have HQ8 := ae (eO kp (.inr (.inl rfl)) HQ7);have HW8 := ae (eO kp (.inr (.inr (.inl rfl))) HW7);have HV8 := ae (eO kp (.inr (.inr (.inr rfl))) HV7);clear c8 hj8 kp;refine aO ?_;refine aku (aF true rfl akE evk rfl) ?_;refine ah ?_;obtain ⟨lp8, mp8, FL8, m8, r8, hs8, hok8⟩ := HJ8.out.a.x;have hl8 := hs8.u.ln k;rw [HTL.out] at hl8;obtain ⟨a8, ha8, hla8, hlo8⟩ := hl8.some_;have HS8 := ae (hs8.below (ak.drew));have HA8 := ae ha8;have HLA : Hid (mR w8.drew (fun j => j = a8) a8 (s.bX k)) := ae ⟨hla8, rfl, hlo8⟩;have HLK : Hid ((Instr.lookup 64 (.map (some mp8)) (.int .i64 (k : Int)) false).run prog w8.drew = .ok (.pointer (some ⟨a8, 0, none⟩)) w8.drew) := ae (by
  have := HS8.out.u.map.jT HWF;rwa [show mLn m8 (k : Int) = some a8 from by unfold mLn; rw [if_pos (by omega), Int.toNat_natCast, ha8]] at this)
 have HPQ : Hid (w8.cell? ⟨bp, 0, none⟩ = some (.int .i64 (k : Int)) /\ w8.cell? ⟨bp, 0 + 1, none⟩ = some (.int .i64 (i : Int))) := ae (eH (aQ HP8));have HJd := ae (HJ8.out.below (ak.drew));clear hs8 hok8 hl8 ha8 hla8 hlo8;go_upto_region 13 with fail;refine wp_region_still_tail 10 (by kernel_rfl) (by kernel_rfl) ?_;simp only [ac];refine aK rfl (aM rfl akE) ?_;simp only [aa];refine aK rfl (bf rfl akE) ?_;simp only [aa];refine aK rfl (ax rfl akE fV) ?_;simp only [aa];refine aK rfl (aC rfl akE (jW (PRu.c4 HS8.out.u))) ?_;simp only [aa];refine aK rfl (ax rfl akE jR) ?_;simp only [aa];refine aK rfl (aC rfl akE (bS HPQ.out.1)) ?_;simp only [aa];refine aK rfl (cX rfl akE akE HLK) ?_;simp only [aa];refine aK rfl (ax rfl akE yr) ?_;simp only [aa];refine aK rfl (aC rfl akE (bS HPQ.out.2)) ?_;simp only [aa];refine aK rfl (aW (c := x0) rfl akE (aQ HV8)) ?_;simp only [aa];refine wpStill_nil ?_;change wpList _ _ _ _ _ (World.drew _);refine aw rfl (aA call61 rfl (evc akE (evc akE (evc akE evn)))) ?_;refine (y5 w8.drew (i : Int) x0 HLA).mono ?_;rintro e w9 ⟨rfl, l9, t9⟩;have hs9 := HS8.out.line HA8 t9 l9;have hx9 : PSx w8 S8 w9 t ((s.tch k).dn k (some (fq (s.bX k) (i : Int) x0))) := ⟨lp8, mp8, FL8, m8, r8, by
  rw [HDT.out];exact hs9, HON⟩
 obtain ⟨⟨S9, hj9⟩, kp⟩ := HJ8.out.shelf hx9;have HJ9 := ae hj9;have HP9 := ae (eO kp (.inl rfl) HP8);have HQ9 := ae (eO kp (.inr (.inl rfl)) HQ8);have HW9 := ae (eO kp (.inr (.inr (.inl rfl))) HW8);have HV9 := ae (eO kp (.inr (.inr (.inr rfl))) HV8);clear l9 t9 hs9 hx9 hj9 kp;refine aO ?_;refine ah ?_;go_upto_region 14 with fail;refine af ?_;refine aku (aW (c := x0) rfl akE (aQ HV9)) ?_;refine aG rfl (aS (c := x0) rfl (ev rfl) (ev rfl) (bI HQ9.out)) ?_;simp only [aa];refine aH 1 ?_;go_wp2_with fail;exact bodyPost_ret (bZ rfl _ _ _ rfl (World.rangeAt_setCells_same _ _ _ _ (by rw [aJ]; exact bI HQ9))) rfl ⟨by rw [HZ.out]; rfl, by
  rw [HZ.out];exact (HJ9.out.set (g := b6) (.inr (.inl rfl)) 0 (cel x0)).res⟩
end
theorem PSh.ajs {F S : Nat -> Prop} {w w' : World} {t K : Nat} {s : ShS} (h : PSh w S t K s) (hk : Only F w w') (hF : ∀ b, S b -> ¬ F b) : PSh w' S t K s := by
 obtain ⟨lp, mp, FL, m, r, h1, h2, rfl⟩ := h;exact ⟨lp, mp, FL, m, r, h1.only hk hF, h2, rfl⟩
theorem y6 (s : ShS) : fy (kyL s.dty s.o) = s.strs := r4
def ajH : ShPr where
 P := PSh
 lt := fun h => h.lt
 only := fun h k n => h.ajs k n
 more := fun h _ => h
 ok := fun h => h.x.ok
 new_ok := fun w hg h1 h2 => ahO w hg h1 h2
 new_no := fun x room w h => zr x room w h
 put := fun h hQ hK hc hcn _ _ hA => (ah7 h hQ (by omega) hc hcn hA).mono fun e w' ⟨k0, k1⟩ => ⟨k0, k1.res _⟩
 clean := fun n h => (abg n h).mono fun e w' ⟨k0, k1⟩ => ⟨k0, k1.res _⟩
 drop := fun n h => (aeK n h).mono fun e w' ⟨k0, k1⟩ => ⟨k0, k1.res _⟩
 fits := fun h hl hwf _ _ hb => by
  have hok := h.x.ok;obtain ⟨lp, mp, FL, m, r, h1, _, _⟩ := h;exact rO h1 hok hl hwf hb
 known := fun n h => by
  have hok := h.x.ok;obtain ⟨lp, mp, FL, m, r, h1, _, _⟩ := h;exact adp n h1 hok
 cells := fun n h => by
  have hok := h.x.ok;obtain ⟨lp, mp, FL, m, r, h1, _, _⟩ := h;exact acp n h1 hok
 dw := fun h => by
  have hok := h.x.ok;obtain ⟨lp, mp, FL, m, r, h1, _, _⟩ := h;exact oL h1 hok
 stripes := fun {w S t K s} h => by
  obtain ⟨lp, mp, FL, m, r, h1, _, _⟩ := h;have := oW h1;rw [y6] at this;exact this
 first := fun h _ => by
  have hok := h.x.ok;obtain ⟨lp, mp, FL, m, r, h1, _, _⟩ := h;exact acg h1 hok
 No := kF
 zc := shZ
 no_nil := fun w => .inl rfl
 bld0 := fun w => xq w
 no_zero := fun w => .inr ⟨_, rfl, heap_alloc_new w _⟩
 no_below := fun h hb => h.below hb
 no_put := fun w v Q h => agR w v Q h
 no_clean := fun w v n h => aa7 w v n h
 no_drop := fun w v n h => aeO w v n h
 no_fits := fun w v h => aem w v h
 no_known := fun w v n h => abz w v n h
 no_cells := fun w v n h => acU w v n h
 no_dirty := fun w v h => (vf w v h).mono fun e w' ⟨k0, k1⟩ => ⟨⟨_, _, k0⟩, k1⟩
 no_stripes := fun w v h => (oV w v h).mono fun e w' ⟨k0, k1⟩ => ⟨⟨_, _, k0⟩, by subst k1; exact ak⟩
 no_first := fun w v h => acv w v h
theorem wm {w : World} {S : Nat -> Prop} {t K : Nat} {s : ShS} (C : iV) (n m : Int) (h : PSh w S t K s) : Calls prog 15 #[.pointer (some ⟨t, 0, none⟩), .pointer none, .agg #[.int .i64 n, .int .i64 m]] w fun e w' => (∃ b : Blk, e = .returned (.tuple #[blk b, .int .i64 1])) /\ Below w.heap.size w w' := by
 have hb1 := (Below.refl w.heap.size w).alloc aj (.cells (er n m).toArray 43);have HB1 := ae hb1;have hb2 := hb1.alloc hb1.size (.cells (cel aD).toArray 45);have HB2 := ae hb2;obtain ⟨lp, mp, FL, mz, r, hu, hok, hS⟩ := h;have H := ae (hu.below hb2);have HB6 := ae (heap_alloc_new (w.alloc (.cells (er n m).toArray 43)) (.cells (cel aD).toArray 45));clear hu hok hS hb1 hb2;go_enter func15, ntmps15;go_upto_region 0 with fail;refine af ?_;refine aku (lL rfl akE) ?_;refine aku (aU rfl) ?_;refine aH 1 ?_;obtain ⟨b6, hb6⟩ : ∃ b6, (w.alloc (.cells (er n m).toArray 43)).heap.size = b6 := ⟨_, rfl⟩;have HQ6 : Hid (w.heap.size <= b6) := ae (by rw [<- hb6]; exact HB1.out.size);rw [hb6] at HB6 ⊢;generalize (w.alloc (.cells (er n m).toArray 43)).alloc (.cells (cel aD).toArray 45) = w2 at *;clear hb6;go_upto_region 1 with fail;refine aI 1 ?_;refine aw rfl (aA call55 rfl (evc akE evn)) ?_;refine (lc H).mono ?_;rintro e w' ⟨rfl, rfl⟩;refine aO ?_;refine aH 2 ?_;go_upto_region 2 with fail;refine aI 1 ?_;refine aw rfl (aA call56 rfl (evc akE evn)) ?_;refine (C.no_id w2 (.pointer none) (C.no_nil w2)).mono ?_;rintro e w3 ⟨rfl, b3⟩;have HB3 := ae (HB2.out.trans (b3.mono HB2.out.size));have HB7 := ae (aB HB6 b3);clear b3;refine aO ?_;refine aku (aF true rfl akE evk rfl) ?_;refine aH 1 ?_;have hb4 := below_setCells HB3 HQ6 (o := 0) (cel aD);have HB4 := ae hb4;clear hb4;go_upto_region 3 with fail;refine af ?_;refine aku (cC (c := aD) (parts := []) rfl rfl) ?_;refine aG rfl (aS (c := aD) rfl (ev rfl) (ev rfl) (bI HB7.out)) ?_;simp only [aa];refine aH 1 ?_;go_wp2_with fail;exact bodyPost_ret (bZ rfl _ _ _ rfl (World.rangeAt_setCells_same _ _ _ _ (by rw [aJ]; exact bI HB7))) rfl ⟨⟨aD, rfl⟩, HB4⟩
def ajA (C : iV) (F : ahy C) : ShI C where
 toShPr := ajH
 read := fun {w G S q p t K h s} n m hj ha hc h2 hd hp => (afa (K := K) F n m hj ha hc h2 hd hp).mono fun e w' ⟨k0, k1⟩ => ⟨k0, k1⟩
 read_no := fun {w S t K s} n m h => wm (K := K) C n m h
 no_read := fun w v G q p h n m hn _ => af0 w v (.pointer (some ⟨p, 0, none⟩)) n m hn
theorem afz (a b : Blk) (k : Nat) (w : World) (T : Tab w) (h : r5 a b = k) : Calls prog 212 #[blk a, blk b] w fun e w' => e = .returned (.int .i64 (k : Nat)) /\ Below w.heap.size w w' := by
 subst h;exact aiF a b w T
structure HpS where
 id : Nat
 ev : Nat
 us : Nat
 R : Ros
def phC (qa : Option Addr) (x : HpS) : List Value := .pointer qa :: .int .u64 (x.id : Int) :: .int .u64 (x.ev : Int) :: (aX x.R ++ [.int .u64 (x.us : Int)])
theorem afY (qa : Option Addr) (x : HpS) : (phC qa x).length = 25 := by simp [phC, bD]
def PHo (w : World) (p : Nat) (qa : Option Addr) (x : HpS) : Prop := w.heap[p]? = some (.cells (phC qa x).toArray 136 (0, 0))
abbrev PHu (w : World) (p q : Nat) (x : HpS) : Prop := PHo w p (some ⟨q, 0, none⟩) x
section
variable {w w' : World} {p : Nat} {qa : Option Addr} {x : HpS} {G : Nat -> Prop}
theorem PHo.only (h : PHo w p qa x) (ho : Only G w w') (hn : ¬ G p) : PHo w' p qa x := ho.keep h hn
theorem PHo.below (h : PHo w p qa x) (hb : Below w.heap.size w w') : PHo w' p qa x := aB h hb
theorem PHo.lt (h : PHo w p qa x) : p < w.heap.size := aV h
theorem PHo.c0 (h : PHo w p qa x) : w.cell? ⟨p, 0, none⟩ = some (.pointer qa) := (aQ h) 0 _ rfl
theorem PHo.c1 (h : PHo w p qa x) : w.cell? ⟨p, 1, none⟩ = some (.int .u64 (x.id : Int)) := (aQ h) 1 _ rfl
theorem PHo.c2 (h : PHo w p qa x) : w.cell? ⟨p, 2, none⟩ = some (.int .u64 (x.ev : Int)) := (aQ h) 2 _ rfl
theorem PHo.c24 (h : PHo w p qa x) : w.cell? ⟨p, 24, none⟩ = some (.int .u64 (x.us : Int)) := (aQ h) 24 _ (by
 show (aX x.R ++ [_])[21]? = _
 rw [List.getElem?_append_right (by rw [bD]; exact aj), bD]; rfl)
theorem PHo.ros (h : PHo w p qa x) : w.rangeAt p 3 (aX x.R) := by
 have := fd (k := 3) (ds := [.pointer qa, .int .u64 (x.id : Int), .int .u64 (x.ev : Int)]) (es := aX x.R) (fs := [.int .u64 (x.us : Int)]) (aQ h) (by simp [phC]) rfl;rwa [Nat.zero_add] at this
theorem PHo.geo (h : PHo w p qa x) : w.rangeAt p 3 (eN x.R) := fd (cs := aX x.R) (ds := []) (k := 0) h.ros rfl rfl
theorem PHo.acs (h : PHo w p qa x) (j : Nat) : w.frozen? ⟨p, j, none⟩ = false := frozen_of_row w p j _ _ h
theorem PHo.there (h : PHo w p qa x) {o n : Nat} (hn : o + n <= 25) : w.there p o n := eE h (by rw [afY]; exact hn)
theorem oS : (Instr.fieldAt 136 (.pointer (some ⟨p, 0, none⟩)) 0).run prog w = .ok (.pointer (some ⟨p, 0, none⟩)) w := by kernel_rfl
theorem agn : (Instr.fieldAt 136 (.pointer (some ⟨p, 0, none⟩)) 1).run prog w = .ok (.pointer (some ⟨p, 1, none⟩)) w := by kernel_rfl
theorem agx : (Instr.fieldAt 136 (.pointer (some ⟨p, 0, none⟩)) 2).run prog w = .ok (.pointer (some ⟨p, 2, none⟩)) w := by kernel_rfl
theorem rB : (Instr.fieldAt 136 (.pointer (some ⟨p, 0, none⟩)) 3).run prog w = .ok (.pointer (some ⟨p, 3, none⟩)) w := by kernel_rfl
theorem acL : (Instr.fieldAt 136 (.pointer (some ⟨p, 0, none⟩)) 4).run prog w = .ok (.pointer (some ⟨p, 24, none⟩)) w := by kernel_rfl
theorem aiZ : (Instr.fieldAt 86 (.pointer (some ⟨p, 3, none⟩)) 0).run prog w = .ok (.pointer (some ⟨p, 3, none⟩)) w := by kernel_rfl
theorem vD {ad : Addr} {a : Option Addr} (h : w.cell? ad = some (.pointer a)) : (Instr.loadAt 35 (.pointer (some ad))).run prog w = .ok (.pointer a) w := by simp [go_sem, h]
theorem nK {ad : Addr} {a : Option Addr} (h : w.cell? ad = some (.pointer a)) : (Instr.loadAt 34 (.pointer (some ad))).run prog w = .ok (.pointer a) w := by simp [go_sem, h]
theorem PHo.set {y : HpS} (h : PHo w p qa x) {j : Nat} {u : Value} (hy : (phC qa x).set j u = phC qa y) : PHo (w.setCell ⟨p, j, none⟩ u) p qa y := by
 have := heap_setCell_same w p j _ 136 u h;rw [List.setIfInBounds_toArray, hy] at this;exact this
theorem PHo.put (h : PHo w p qa x) (y : Ros) : PHo (w.setCells p 3 (aX y)) p qa { x with R := y } :=
 heap_put p 136 [.int .u64 (x.us : Int)] (aX y) (aX x.R) [.pointer qa, .int .u64 (x.id : Int), .int .u64 (x.ev : Int)] w (by rw [bD, bD]) h
theorem ahM (qa : Option Addr) (x : HpS) (e : Nat) : (phC qa x).set 2 (.int .u64 (e : Int)) = phC qa { x with ev := e } := rfl
theorem acj (qa : Option Addr) (x : HpS) (e : Nat) : (phC qa x).set 24 (.int .u64 (e : Int)) = phC qa { x with us := e } := by
 show _ :: _ :: _ :: (aX x.R ++ [_]).set 21 _ = _
 rw [List.set_append_right _ _ (by rw [bD]; exact aj), bD]
 rfl
end
def HJ (w0 : World) (H K : Nat -> Prop) (w : World) (p q : Nat) (M : a6) (x : HpS) : Prop :=
 ∃ G, bF.Bn w G q M /\ PHu w p q x /\ ¬ G p /\ Only H w0 w /\ Grow w0 H (fun b => G b \/ b = p) /\ (∀ b, K b -> ¬ G b /\ b ≠ p /\ b < w.heap.size) /\ CrG w0 H
section
variable {w0 w w' : World} {H K K' : Nat -> Prop} {p q : Nat} {M : a6} {x y : HpS}
theorem HJ.hul (h : HJ w0 H K w p q M x) : PHu w p q x := by obtain ⟨_, _, h, _⟩ := h; exact h
theorem HJ.tab (h : HJ w0 H K w p q M x) : Tab w := by
 obtain ⟨_, _, _, _, h, _, _, hT⟩ := h;intro i hi;have := hT.t i hi;exact (h.cell (p := ⟨0, i, none⟩) (fJ this) hT.off).trans this
theorem HJ.lt (h : HJ w0 H K w p q M x) {b : Nat} (hb : K b) : b < w.heap.size := by obtain ⟨_, _, _, _, _, _, h, _⟩ := h; exact (h b hb).2.2
theorem HJ.ne (h : HJ w0 H K w p q M x) {b : Nat} (hb : K b) : b ≠ p := by obtain ⟨_, _, _, _, _, _, h, _⟩ := h; exact (h b hb).2.1
theorem HJ.size (h : HJ w0 H K w p q M x) : w0.heap.size <= w.heap.size := by obtain ⟨_, _, _, _, h, _⟩ := h; exact h.size
theorem HJ.guard (h : HJ w0 H K w p q M x) (hb : Below w.heap.size w w') (hK : ∀ b, K' b -> K b \/ (w.heap.size <= b /\ b < w'.heap.size)) : HJ w0 H K' w' p q M x := by
 obtain ⟨G, h1, h2, h3, h4, h5, h6, h7⟩ := h;have hlt := bF.lt h1;have hp := h2.lt;have hs := hb.size;refine ⟨G, bF.below h1 hb, h2.below hb, h3, h4.ii hb, h5, fun b e => ?_, h7⟩;rcases hK b e with e | ⟨e1, e2⟩
 ·obtain ⟨g1, g2, g3⟩ := h6 b e;exact ⟨g1, g2, by omega⟩
 ·exact ⟨fun hg => by have := hlt b hg; omega, by omega, e2⟩
theorem HJ.below (h : HJ w0 H K w p q M x) (hb : Below w.heap.size w w') : HJ w0 H K w' p q M x := h.guard hb fun b e => .inl e
theorem HJ.drew (h : HJ w0 H K w p q M x) : HJ w0 H K w.drew p q M x := h.below (bd ak)
theorem HJ.less (h : HJ w0 H K w p q M x) (hK : ∀ b, K' b -> K b) : HJ w0 H K' w p q M x := h.guard ak fun b e => .inl (hK b e)
def up (K : Nat -> Prop) (n m : Nat) : Nat -> Prop := fun b => K b \/ (n <= b /\ b < m)
theorem HJ.up (h : HJ w0 H K w p q M x) (hb : Below w.heap.size w w') : HJ w0 H (Proofs.YtdmhelalbemlcaaGreatDoor.up K w.heap.size w'.heap.size) w' p q M x := h.guard hb fun b e => e
theorem HJ.kept (h : HJ w0 H K w p q M x) (hb : Below w.heap.size w w') : ci K w w' := fun b e => hb.block b (h.lt e)
theorem HJ.turn {G G' : Nat -> Prop} {M' : a6} (h1 : bF.Bn w G q M) (h2 : PHu w p q x) (h3 : ¬ G p) (h4 : Only H w0 w) (h5 : Grow w0 H (fun b => G b \/ b = p)) (h6 : ∀ b, K b -> ¬ G b /\ b ≠ p /\ b < w.heap.size) (h7 : CrG w0 H)
  (k1 : bF.Bn w' G' q M') (k2 : Only G w w') (k3 : Grow w G G') : HJ w0 H K w' p q M' x /\ ci K w w' := by
 have hs := k2.size;have hs0 := h4.size;have hp := h2.lt;refine ⟨⟨G', k1, h2.only k2 h3, fun e => ?_, h4.trans k2 fun b e => h5 b (.inl e), fun b e => ?_, fun b e => ?_, h7⟩, fun b e => k2.block b (h6 b e).2.2 (h6 b e).1⟩
 ·rcases k3 p e with e | e
  ·exact h3 e
  ·omega
 ·rcases e with e | e
  ·rcases k3 b e with e | e
   ·exact h5 b (.inl e)
   ·exact .inr (by omega)
  ·exact h5 b (.inr e)
 ·obtain ⟨g1, g2, g3⟩ := h6 b e;refine ⟨fun hg => ?_, g2, by omega⟩;rcases k3 b hg with e | e
  ·exact g1 e
  ·omega
theorem HJ.write (d n : Int) (b : Blk) (hr : Room M 1) (h : HJ w0 H K w p q M x) : Calls prog 94 #[.pointer (some ⟨q, 0, none⟩), .int .i64 d, .int .i64 n, blk b] w fun e w' => e = .returned (.int .i64 (eX M d n)) /\ HJ w0 H K w' p q (et M d n b) x /\ ci K w w' := by
 obtain ⟨G, h1, h2, h3, h4, h5, h6, h7⟩ := h;exact (bF.write d n b hr h1).mono fun e w' ⟨k0, G', k1, k2, k3⟩ => ⟨k0, HJ.turn h1 h2 h3 h4 h5 h6 h7 k1 k2 k3⟩
theorem HJ.flush (d : Int) (hr : Room M 1) (h : HJ w0 H K w p q M x) : Calls prog 213 #[.pointer (some ⟨q, 0, none⟩), .int .i64 d] w fun e w' => e = .returned (.int .i64 (iz M d)) /\ HJ w0 H K w' p q (f8 M d) x /\ ci K w w' := by
 obtain ⟨G, h1, h2, h3, h4, h5, h6, h7⟩ := h;exact (bF.flush d hr h1).mono fun e w' ⟨k0, G', k1, k2, k3⟩ => ⟨k0, HJ.turn h1 h2 h3 h4 h5 h6 h7 k1 k2 k3⟩
theorem HJ.read (d n : Int) (h : HJ w0 H K w p q M x) : Calls prog 164 #[.pointer (some ⟨q, 0, none⟩), .int .i64 d, .int .i64 n] w fun e w' => e = .returned (.tuple #[blk (fp M d n), .int .i64 (cG M d n)]) /\ Below w.heap.size w w' := by
 obtain ⟨G, h1, _⟩ := h;exact bF.read d n h1
theorem HJ.obj (h : HJ w0 H K w p q M x) (ho : Only (fun b => b = p) w w') (hp : PHu w' p q y) : HJ w0 H K w' p q M y /\ ci K w w' := by
 obtain ⟨G, h1, h2, h3, h4, h5, h6, h7⟩ := h;have hs := ho.size;refine ⟨⟨G, bF.only h1 ho fun b hb e => h3 (e ▸ hb), hp, h3, h4.trans ho fun b e => h5 b (.inr e), h5, fun b e => ?_, h7⟩, fun b e => ho.block b (h6 b e).2.2 (h6 b e).2.1⟩;obtain ⟨g1, g2, g3⟩ := h6 b e;exact ⟨g1, g2, by omega⟩
theorem HJ.mine {g : Nat} (h : HJ w0 H K w p q M x) (hg : K g) (hg0 : w0.heap.size <= g) (ho : Only (fun b => b = g) w w') : HJ w0 H K w' p q M x := by
 obtain ⟨G, h1, h2, h3, h4, h5, h6, h7⟩ := h;have hs := ho.size;obtain ⟨g1, g2, g3⟩ := h6 g hg;refine ⟨G, bF.only h1 ho fun b hb e => g1 (e ▸ hb), h2.only ho fun e => g2 e.symm, h3, h4.trans ho fun b e => .inr (by omega), h5, fun b e => ?_, h7⟩;obtain ⟨g1, g2, g3⟩ := h6 b e;exact ⟨g1, g2, by omega⟩
end
structure Fu where
 f : FuncId
 cap : List Value
 ok : ∀ (args : Array Value) (w : World), (callFunc f args).run prog w = .ok (.enter f args) w
def Fu.val (s : Fu) : Value := .func (.func s.f) #[] s.cap.toArray
section
variable {ρ : Operand -> Value} {o : Oper} {x y : Operand} {w : World} {s : Fu} {v : Value}
theorem ai5 {ad : Addr} (h : w.cell? ad = some s.val) : (Instr.loadAt 57 (.pointer (some ad))).run prog w = .ok s.val w := by unfold Fu.val at *; simp [go_sem, h]
theorem uu {a : Act} {ats : Array TypeId} (ho : o.op = .call { callee := .value x, args := #[], argTypes := ats }) (hx : a.eval x = s.val) : (execOp a.eval o).run prog w = .ok (.enter s.f s.cap.toArray) w := by
 unfold Fu.val at hx;unfold execOp;simp [ho, resolve, Deferred.ofValue, invoke, hx, s.ok]
theorem nj {a : Act} {ats : Array TypeId} (ho : o.op = .call { callee := .value x, args := #[y], argTypes := ats }) (hx : a.eval x = s.val) (hy : a.eval y = v) : (execOp a.eval o).run prog w = .ok (.enter s.f (v :: s.cap).toArray) w := by
 unfold Fu.val at hx;unfold execOp;simp [ho, resolve, Deferred.ofValue, invoke, hx, hy, s.ok]
end
def FJ (C : iV) (w0 : World) (H K : Nat -> Prop) (w : World) (q p : Nat) (h : HuS) : Prop :=
 ∃ G, C.J w G q p h /\ Only H w0 w /\ Grow w0 H G /\ (∀ b, K b -> ¬ G b /\ b < w.heap.size) /\ CrG w0 H
section
variable {C : iV} {w0 w w' : World} {H K K' : Nat -> Prop} {q p : Nat} {h h' : HuS}
theorem FJ.start {G : Nat -> Prop} (j : C.J w G q p h) (hc : CrG w G) : FJ C w G (fun _ => False) w q p h := ⟨G, j, Only.refl _ _, Grow.same _ _, fun _ e => e.elim, hc⟩
theorem FJ.size (j : FJ C w0 H K w q p h) : w0.heap.size <= w.heap.size := by obtain ⟨_, _, h2, _⟩ := j; exact h2.size
theorem FJ.lt (j : FJ C w0 H K w q p h) {b : Nat} (hb : K b) : b < w.heap.size := by obtain ⟨_, _, _, _, h4, _⟩ := j; exact (h4 b hb).2
theorem FJ.ajT {G : Nat -> Prop} (h2 : Only H w0 w) (h3 : Grow w0 H G) (hT : CrG w0 H) : CrG w G := by
 refine ⟨fun i hi => (h2.cell (p := ⟨0, i, none⟩) (fJ (hT.t i hi)) hT.off).trans (hT.t i hi), fun e => ?_⟩;rcases h3 _ e with e | e
 ·exact hT.off e
 ·have := fJ (hT.t 0 (by omega));exact absurd e (Nat.not_le_of_lt this)
theorem FJ.guard (j : FJ C w0 H K w q p h) (hb : Below w.heap.size w w') (hK : ∀ b, K' b -> K b \/ (w.heap.size <= b /\ b < w'.heap.size)) : FJ C w0 H K' w' q p h := by
 obtain ⟨G, h1, h2, h3, h4, h5⟩ := j;have hlt := C.lt h1;have hs := hb.size;refine ⟨G, C.below h1 hb, h2.ii hb, h3, fun b e => ?_, h5⟩;rcases hK b e with e | ⟨e1, e2⟩
 ·obtain ⟨g1, g2⟩ := h4 b e;exact ⟨g1, by omega⟩
 ·exact ⟨fun hg => by have := hlt b hg; omega, e2⟩
theorem FJ.below (j : FJ C w0 H K w q p h) (hb : Below w.heap.size w w') : FJ C w0 H K w' q p h := j.guard hb fun b e => .inl e
theorem FJ.less (j : FJ C w0 H K w q p h) (hK : ∀ b, K' b -> K b) : FJ C w0 H K' w q p h := j.guard ak fun b e => .inl (hK b e)
theorem FJ.kept (j : FJ C w0 H K w q p h) (hb : Below w.heap.size w w') : ci K w w' := fun b e => hb.block b (j.lt e)
theorem FJ.turn {G G' : Nat -> Prop} (h1 : C.J w G q p h) (h2 : Only H w0 w) (h3 : Grow w0 H G) (h4 : ∀ b, K b -> ¬ G b /\ b < w.heap.size) (h5 : CrG w0 H) (k1 : C.J w' G' q p h') (k2 : Only G w w') (k3 : Grow w G G') : FJ C w0 H K w' q p h' /\ ci K w w' /\ w.heap.size <= w'.heap.size := by
 have hs := k2.size;have hs0 := h2.size;refine ⟨⟨G', k1, h2.trans k2 fun b e => h3 b e, fun b e => ?_, fun b e => ?_, h5⟩, fun b e => k2.block b (h4 b e).2 (h4 b e).1, hs⟩
 ·rcases k3 b e with e | e
  ·exact h3 b e
  ·exact .inr (by omega)
 ·obtain ⟨g1, g2⟩ := h4 b e;refine ⟨fun hg => ?_, by omega⟩;rcases k3 b hg with e | e
  ·exact g1 e
  ·omega
theorem FJ.read (s m : Int) (j : FJ C w0 H K w q p h) (hr : HRm h) (hk : qy h s m) : Calls prog 114 #[.pointer (some ⟨p, 0, none⟩), .agg #[.int .i64 s, .int .i64 m]] w fun e w' => e = .returned (.tuple #[blk (jZ h s m), .int .i64 (f9 h s m)]) /\ FJ C w0 H K w' q p (ie h s m) /\ ci K w w' /\ w.heap.size <= w'.heap.size := by
 obtain ⟨G, h1, h2, h3, h4, h5⟩ := j;exact (C.read s m h1 (FJ.ajT h2 h3 h5) hr.1 hr.2).mono fun e w' ⟨k0, G', k1, k2, k3, _⟩ => ⟨k0, FJ.turn h1 h2 h3 h4 h5 (k1 hk) k2 k3⟩
theorem FJ.id_ (j : FJ C w0 H K w q p h) : Calls prog 56 #[.pointer (some ⟨p, 0, none⟩)] w fun e w' => e = .returned (.int .u64 (h.id : Int)) /\ Below w.heap.size w w' := by obtain ⟨G, h1, _⟩ := j; exact C.id_ h1
theorem FJ.is (j : FJ C w0 H K w q p h) : a7 h.R = true /\ h.id ≠ 0 := by obtain ⟨G, h1, _⟩ := j; exact C.fin h1
theorem FJ.sy (j : FJ C w0 H K w q p h) : Calls prog 49 #[.pointer (some ⟨p, 0, none⟩)] w fun e w' => e = .returned (ros h.R) /\ Below w.heap.size w w' := by obtain ⟨G, h1, _⟩ := j; exact C.sy h1
theorem FJ.fin {G : Nat -> Prop} (j : FJ C w G K w' q p h') : ∃ G', C.J w' G' q p h' /\ Only G w w' /\ Grow w G G' := by
 obtain ⟨G', h1, h2, h3, _⟩ := j;exact ⟨G', h1, h2, h3⟩
theorem FJ.mine {g : Nat} (j : FJ C w0 H K w q p h) (hg : K g) (hg0 : w0.heap.size <= g) (ho : Only (fun b => b = g) w w') : FJ C w0 H K w' q p h := by
 obtain ⟨G, h1, h2, h3, h4, h5⟩ := j;have hs := ho.size;obtain ⟨g1, g2⟩ := h4 g hg;refine ⟨G, C.only h1 ho fun b hb e => g1 (e ▸ hb), h2.trans ho fun b e => .inr (by omega), h3, fun b e => ?_, h5⟩;obtain ⟨g1, g2⟩ := h4 b e;exact ⟨g1, by omega⟩
end
def rwK (rd : HuS -> Int -> Int × Blk × HuS) (sk : Int) : Nat -> Nat -> HuS -> List Blk -> Int × List Blk × HuS
 |0, _, h, l => (0, l, h)
 |k + 1, i, h, l =>
  if (i : Int) = sk then rwK rd sk k (i + 1) h l
  else if (rd h i).1 = 0 then rwK rd sk k (i + 1) (rd h i).2.2 (l ++ [(rd h i).2.1])
  else ((rd h i).1, [], (rd h i).2.2)
def rwP (rd : HuS -> Int -> Int × Blk × HuS) (P : HuS -> Int -> Prop) (sk : Int) : Nat -> Nat -> HuS -> Prop
 |0, _, _ => True
 |k + 1, i, h => if (i : Int) = sk then rwP rd P sk k (i + 1) h else P h i /\ ((rd h i).1 = 0 -> rwP rd P sk k (i + 1) (rd h i).2.2)
def hrT (s : Int) (h : HuS) (m : Int) : Int × Blk × HuS := (f9 h s m, jZ h s m, ie h s m)
def hrQ (s : Int) (h : HuS) (m : Int) : Prop := HRm h /\ qy h s m
section
variable {s sk no : Int}
theorem abH : ∀ (k i : Nat) (h : HuS) (l : List Blk), ftK s sk no k i h (fold l) =
  (if (rwK (hrT s) sk k i h l).1 = 7 then no else (rwK (hrT s) sk k i h l).1, if (rwK (hrT s) sk k i h l).1 = 0 then fold (rwK (hrT s) sk k i h l).2.1 else aD, (rwK (hrT s) sk k i h l).2.2)
 |0, i, h, l => rfl
 |k + 1, i, h, l => by
  rw [ftK, rwK];by_cases e : (i : Int) = sk
  ·rw [if_pos e, if_pos e];exact abH k (i + 1) h l
  rw [if_neg e, if_neg e];by_cases e0 : f9 h s i = 0
  ·rw [if_pos e0, if_pos (show (hrT s h i).1 = 0 from e0)];have := abH k (i + 1) (ie h s i) (l ++ [jZ h s i]);rw [vd, show fold [jZ h s i] = jZ h s i by rw [zG, adw, sw]] at this;exact this
  ·rw [if_neg e0, if_neg (show ¬ (hrT s h i).1 = 0 from e0)]
   show _ = (if f9 h s i = 7 then no else f9 h s i, if f9 h s i = 0 then _ else aD, ie h s i)
   rw [if_neg e0]
theorem xG : ∀ (k i : Nat) (h : HuS), ftP s sk k i h -> rwP (hrT s) (hrQ s) sk k i h
 |0, i, h, _ => trivial
 |k + 1, i, h, hp => by
  rw [ftP] at hp;rw [rwP];by_cases e : (i : Int) = sk
  ·rw [if_pos e] at hp ⊢;exact xG k (i + 1) h hp
  ·rw [if_neg e] at hp ⊢;exact ⟨⟨hp.1, hp.2.1⟩, fun e0 => xG k (i + 1) _ (hp.2.2 e0)⟩
theorem aiD {h : HuS} {m : Int} (hf : a7 h.R = true) (hr : HRm h) : (ie h s m).R.m = h.R.m := by
 unfold ie
 split
 ·have hk := mX.los hf ((m.toNat : Nat) : Int);exact (hk.trans (yF (k := 0) 17 (m6 h m.toNat) hk.fine (dv hr.1 (by omega))).2.1).m
 ·rfl
end
def NoH (w : World) (v : Value) : Prop := v = .pointer none \/ ∃ p, v = .pointer (some ⟨p, 0, none⟩) /\ PHo w p none ⟨0, 0, 0, bP⟩
theorem NoH.below {w w' : World} {v : Value} (h : NoH w v) (hb : Below w.heap.size w w') : NoH w' v := by
 rcases h with h | ⟨p, h, h1⟩
 ·exact .inl h
 ·exact .inr ⟨p, h, h1.below hb⟩
section
variable {w : World} {p q : Nat} {qa : Option Addr} {x : HpS} {v : Value}
theorem kf (h : PHo w p (some ⟨q, 0, none⟩) x) : Calls prog 135 #[.pointer (some ⟨p, 0, none⟩)] w fun e w' => e = .returned (.bool true) /\ w = w' := by
 have HL := ae h;clear h;go_enter func135, ntmps135;go_upto_region 1 with fail;refine aI 1 ?_;refine aku (dh true underlying34 rfl akE evk rfl) ?_;refine runs 3 ?_;refine akB (ax rfl akE oS) ?_;refine akB (aC rfl akE (vD (PHo.c0 HL))) ?_;refine akB (dh true underlying35 rfl akE evk rfl) ?_;refine aH 2 ?_;go_wp2_with fail;go_ret;exact ⟨rfl, rfl⟩
theorem acA (h : PHo w p none x) : Calls prog 135 #[.pointer (some ⟨p, 0, none⟩)] w fun e w' => e = .returned (.bool false) /\ w = w' := by
 have HL := ae h;clear h;go_enter func135, ntmps135;go_upto_region 1 with fail;refine aI 1 ?_;refine aku (dh true underlying34 rfl akE evk rfl) ?_;refine runs 3 ?_;refine akB (ax rfl akE oS) ?_;refine akB (aC rfl akE (vD (PHo.c0 HL))) ?_;refine akB (dh false underlying35 rfl akE evk rfl) ?_;refine aH 2 ?_;go_wp2_with fail;go_ret;exact ⟨rfl, rfl⟩
theorem abk : Calls prog 135 #[.pointer none] w fun e w' => e = .returned (.bool false) /\ w = w' := by
 go_enter func135, ntmps135;go_upto_region 1 with fail;refine aI 1 ?_;refine aku (dh false underlying34 rfl akE evk rfl) ?_;refine bj 5 rfl (aM rfl akE) (by kernel_rfl) ?_;simp only [bQ, ac, aa];refine aH 2 ?_;go_wp2_with fail;go_ret;exact ⟨rfl, rfl⟩
theorem x7 (h : NoH w v) : Calls prog 135 #[v] w fun e w' => e = .returned (.bool false) /\ w = w' := by
 rcases h with rfl | ⟨p, rfl, h⟩
 ·exact abk
 ·exact acA h
theorem qE (h : PHo w p qa x) : Calls prog 49 #[.pointer (some ⟨p, 0, none⟩)] w fun e w' => e = .returned (ros (x.R)) /\ Below w.heap.size w w' := by
 have HL := ae (h.below ((Below.refl w.heap.size w).alloc aj (.cells (aX bP).toArray 86)));clear h;have HA := ae (bO.new w bP);have HB := ae ((Below.refl w.heap.size w).alloc aj (.cells (aX bP).toArray 86));go_enter func49, ntmps49;go_upto_region 0 with fail;refine af ?_;refine aku (cW rfl) ?_;generalize w.alloc (.cells (aX bP).toArray 86) = w1 at *
 skip
 refine ah ?_;go_upto_region 1 with fail;refine aI 1 ?_;refine aku (cI false underlying34 rfl akE evk rfl) ?_;refine ah ?_;go_upto_region 3 with fail;refine aI 2 ?_;refine aku (ax rfl akE rB) ?_;refine aku (bu rfl akE (PHo.ros HL)) ?_;refine aG rfl (dV rfl (ev rfl) (ev rfl) HA.out) ?_;simp only [aa];refine ah ?_;go_wp2_with fail;exact bodyPost_ret (aa4 rfl _ _ _ rfl (jL HA)) rfl ⟨rfl, ij HB aj⟩
theorem wj : Calls prog 49 #[.pointer none] w fun e w' => e = .returned (ros (bP)) /\ Below w.heap.size w w' := by
 have HA := ae (bO.new w bP);have HB := ae ((Below.refl w.heap.size w).alloc aj (.cells (aX bP).toArray 86));go_enter func49, ntmps49;go_upto_region 0 with fail;refine af ?_;refine aku (cW rfl) ?_;generalize w.alloc (.cells (aX bP).toArray 86) = w1 at *
 skip
 refine ah ?_;go_upto_region 1 with fail;refine aI 1 ?_;refine aku (cI true underlying34 rfl akE evk rfl) ?_;refine ah ?_;go_upto_region 2 with fail;refine af ?_;refine aku (pC rfl) ?_;refine aG rfl (dV rfl (ev rfl) (ev rfl) HA.out) ?_;simp only [aa];refine ah ?_;go_wp2_with fail;exact bodyPost_ret (aa4 rfl _ _ _ rfl (jL HA)) rfl ⟨rfl, ij HB aj⟩
theorem vp (h : PHo w p qa x) : Calls prog 47 #[.pointer (some ⟨p, 0, none⟩)] w fun e w' => e = .returned (.int .u64 (x.ev : Int)) /\ w = w' := by
 have HL := ae h;clear h;go_enter func47, ntmps47;go_upto_region 1 with fail;refine aI 1 ?_;refine aku (cI false underlying34 rfl akE evk rfl) ?_;refine ah ?_;go_upto_region 3 with fail;refine aI 2 ?_;refine aku (ax rfl akE agx) ?_;refine aku (aC rfl akE (kK (PHo.c2 HL))) ?_;refine aH 1 ?_;go_wp2_with fail;go_ret;exact ⟨rfl, rfl⟩
theorem aas : Calls prog 47 #[.pointer none] w fun e w' => e = .returned (.int .u64 0) /\ w = w' := by
 go_enter func47, ntmps47;go_upto_region 1 with fail;refine aI 1 ?_;refine aku (cI true underlying34 rfl akE evk rfl) ?_;refine ah ?_;go_upto_region 2 with fail;refine co 1 ?_;go_wp2_with fail;go_ret;exact ⟨rfl, rfl⟩
theorem agk (h : PHo w p qa x) : Calls prog 56 #[.pointer (some ⟨p, 0, none⟩)] w fun e w' => e = .returned (.int .u64 (x.id : Int)) /\ w = w' := by
 have HL := ae h;clear h;go_enter func56, ntmps56;go_upto_region 1 with fail;refine aI 1 ?_;refine aku (cI false underlying34 rfl akE evk rfl) ?_;refine ah ?_;go_upto_region 3 with fail;refine aI 2 ?_;refine aku (ax rfl akE agn) ?_;refine aku (aC rfl akE (kK (PHo.c1 HL))) ?_;refine aH 1 ?_;go_wp2_with fail;go_ret;exact ⟨rfl, rfl⟩
theorem ahz : Calls prog 56 #[.pointer none] w fun e w' => e = .returned (.int .u64 0) /\ w = w' := by
 go_enter func56, ntmps56;go_upto_region 1 with fail;refine aI 1 ?_;refine aku (cI true underlying34 rfl akE evk rfl) ?_;refine ah ?_;go_upto_region 2 with fail;refine co 1 ?_;go_wp2_with fail;go_ret;exact ⟨rfl, rfl⟩
theorem mc (h : PHo w p qa x) : Calls prog 182 #[.pointer (some ⟨p, 0, none⟩)] w fun e w' => e = .returned (.int .i64 (stN (x.R) : Nat)) /\ Below w.heap.size w w' := by
 have HL := ae h;clear h;obtain ⟨n, hn⟩ : ∃ n, stN (x.R) = n := ⟨_, rfl⟩;rw [hn];have HN := ae hn;clear hn;go_enter func182, ntmps182;go_upto_region 1 with fail;refine aI 1 ?_;refine aw rfl (aA call49 rfl (evc akE evn)) ?_;refine (qE HL).mono ?_;rintro e w1 ⟨rfl, b1⟩;have HB1 := ae b1;clear b1;refine aO ?_;refine aw rfl (aA call197 rfl (evc akE evn)) ?_;refine (tu w1 HN).mono ?_;rintro e w2 ⟨rfl, b2⟩;have HB2 := ae (HB1.out.trans (b2.mono HB1.out.size));clear b2;refine aO ?_;refine aH 1 ?_;go_wp2_with fail;go_ret;exact ⟨rfl, HB2⟩
theorem zS : Calls prog 182 #[.pointer none] w fun e w' => e = .returned (.int .i64 (stN (bP) : Nat)) /\ Below w.heap.size w w' := by
 obtain ⟨n, hn⟩ : ∃ n, stN (bP) = n := ⟨_, rfl⟩;rw [hn];have HN := ae hn;clear hn;go_enter func182, ntmps182;go_upto_region 1 with fail;refine aI 1 ?_;refine aw rfl (aA call49 rfl (evc akE evn)) ?_;refine (wj).mono ?_;rintro e w1 ⟨rfl, b1⟩;have HB1 := ae b1;clear b1;refine aO ?_;refine aw rfl (aA call197 rfl (evc akE evn)) ?_;refine (tu w1 HN).mono ?_;rintro e w2 ⟨rfl, b2⟩;have HB2 := ae (HB1.out.trans (b2.mono HB1.out.size));clear b2;refine aO ?_;refine aH 1 ?_;go_wp2_with fail;go_ret;exact ⟨rfl, HB2⟩
theorem iq (h : PHo w p (some ⟨q, 0, none⟩) x) : Calls prog 137 #[.pointer (some ⟨p, 0, none⟩)] w fun e w' => e = .returned (.int .i64 (if ge x.R = true then 16 else 0)) /\ Below w.heap.size w w' := by
 obtain ⟨n, hn⟩ : ∃ n, stN x.R = n := ⟨_, rfl⟩;have HN := ae hn;have HL := ae h;clear h;cases hf : ge x.R
 ·have H5 : Hid (((n : Int) == 5) = false) := ae (by
   unfold ge at hf;rw [hn] at hf;have := of_decide_eq_false hf; exact au (by omega))
  clear hf hn;go_enter func137, ntmps137;go_upto_region 1 with fail;refine aI 1 ?_;refine aw rfl (aA call135 rfl (evc akE evn)) ?_;refine (kf HL).mono ?_;rintro e w1 ⟨rfl, rfl⟩;refine aO ?_;refine aH 2 ?_;go_upto_region 3 with fail;refine aI 1 ?_;refine aw rfl (aA call182 rfl (evc akE evn)) ?_;refine (mc HL).mono ?_;rintro e w1 ⟨rfl, b1⟩;rw [HN.out];have HB1 := ae b1;clear b1;refine aO ?_;refine aku (aF false rfl akE evk H5) ?_;refine aH 1 ?_;go_upto_region 5 with fail;refine co 1 ?_;go_wp2_with fail;go_ret;exact ⟨rfl, HB1⟩
 ·have H5 : Hid (((n : Int) == 5) = true) := ae (by
   unfold ge at hf;rw [hn] at hf;have := of_decide_eq_true hf; subst this; rfl)
  clear hf hn;go_enter func137, ntmps137;go_upto_region 1 with fail;refine aI 1 ?_;refine aw rfl (aA call135 rfl (evc akE evn)) ?_;refine (kf HL).mono ?_;rintro e w1 ⟨rfl, rfl⟩;refine aO ?_;refine aH 2 ?_;go_upto_region 3 with fail;refine aI 1 ?_;refine aw rfl (aA call182 rfl (evc akE evn)) ?_;refine (mc HL).mono ?_;rintro e w1 ⟨rfl, b1⟩;rw [HN.out];have HB1 := ae b1;clear b1;refine aO ?_;refine aku (aF true rfl akE evk H5) ?_;refine aH 1 ?_;go_upto_region 4 with fail;refine co 1 ?_;go_wp2_with fail;go_ret;exact ⟨rfl, HB1⟩
theorem uv (h : NoH w v) : Calls prog 137 #[v] w fun e w' => e = .returned (.int .i64 1) /\ w = w' := by
 have HL := ae h;clear h;go_enter func137, ntmps137;go_upto_region 1 with fail;refine aI 1 ?_;refine aw rfl (aA call135 rfl (evc akE evn)) ?_;refine (x7 HL).mono ?_;rintro e w1 ⟨rfl, rfl⟩;refine aO ?_;refine aH 2 ?_;go_upto_region 2 with fail;refine co 1 ?_;go_wp2_with fail;go_ret;exact ⟨rfl, rfl⟩
theorem afA {R : Ros} (s m : Int) (hg : dO R = true) : (blE R.m R.s R.r s m != 12) = lH R s m := by
 have hm : may R.m R.s R.r = true := by
  have := ic.1 hg;exact iG.2 (by omega)
 have e : inP R.m R.s s m = lH R s m := rfl;rw [<- e];unfold blE;rw [if_pos hm];cases hp : inP R.m R.s s m
 ·rw [if_neg (by decide)]; rfl
 ·rw [if_pos rfl]
  split <;> rfl
theorem wu (s m : Int) (hg : dO x.R = true) (h : PHo w p qa x) : Calls prog 136 #[.pointer (some ⟨p, 0, none⟩), .agg #[.int .i64 s, .int .i64 m]] w fun e w' => e = .returned (.bool (lH x.R s m)) /\ Below w.heap.size w w' := by
 have hb := (Below.refl w.heap.size w).alloc aj (.cells ([.int .i64 s, .int .i64 m] : List Value).toArray 43);have HL := ae (h.below hb);have HA := ae (heap_alloc_new w (.cells ([.int .i64 s, .int .i64 m] : List Value).toArray 43));have HB := ae hb;have HP := afA s m hg;obtain ⟨bv, hbv⟩ : ∃ bv, lH x.R s m = bv := ⟨_, rfl⟩;rw [hbv] at HP ⊢;have HPP := ae HP;clear h hb HP hg;go_enter func136, ntmps136;go_upto_region 0 with fail;refine af ?_;refine aku (ch (cs := [.int .i64 s, .int .i64 m]) rfl akE) ?_;generalize w.alloc (.cells ([.int .i64 s, .int .i64 m] : List Value).toArray 43) = w1 at *;refine aH 1 ?_;go_upto_region 1 with fail;refine aR (B := w1.heap.size) (by kernel_rfl) ?_;refine cE 2 ?_;refine akC (fun _ hw => ax rfl akE rB) ?_;refine akC (fun _ hw => ax rfl akE aiZ) ?_;refine akC (fun _ hw => eD rfl akE (PHo.geo (HL.out.below hw))) ?_;refine akC (fun _ hw => bL (cs := [.int .i64 s, .int .i64 m]) underlying43 rfl (by kernel_rfl) rfl akE (aQ (aB HA hw))) ?_;refine bW rfl (fun _ => aA call110 rfl (evc akE (evc akE evn))) (bH aj fun w' hw => oK x.R.m x.R.s x.R.r s m w') ?_;simp only [aa];refine cE 3 ?_;refine cE 2 ?_;refine wpQuiet_nil ?_;intro w2 hw;have HBB := ae (HB.out.trans (hw.mono HB.out.size));clear hw;go_upto_region 2 with fail;refine aI 1 ?_;refine aku (aL bv rfl akE evk HPP) ?_;refine aH 1 ?_;go_wp2_with fail;go_ret;exact ⟨rfl, HBB⟩
end
end Go.Proofs.YtdmhelalbemlcaaGreatDoor
