import Derived.Test.YtehefifamaofkaaGreatDoorGlaj
namespace Go.Proofs.YtehefifamaofkaaGreatDoor
set_option maxHeartbeats 8000000
open Go.Proofs.Tryz
open Go.RowKit
set_option linter.unusedVariables false
set_option linter.unusedSimpArgs false
set_option maxRecDepth 100000
def fnO (x : Option Fnd) : Fnd := x.getD bv
section
variable {M : aR} {k : Nat}
theorem ri (h1 : gaE M (k : Int) = 0) (h2 : gaU (gaK M k) (gaN M (k : Int)) = true) : gaK M (k + 1) = some (gaP M (k : Int)) := by rw [gaK, if_pos ⟨h1, h2⟩]
theorem qe (h : ¬ (gaE M (k : Int) = 0 /\ gaU (gaK M k) (gaN M (k : Int)) = true)) : gaK M (k + 1) = gaK M k := by rw [gaK, if_neg h]
theorem xd {x : Option Fnd} {n : Nat} (h : x.isSome = true) : gaU x n = decide ((fnO x).ev < n) := by
 cases x with
 |none => cases h
 |some f => rfl
theorem yo {x : Option Fnd} {n : Nat} (h : x.isSome = false) : gaU x n = true := by
 cases x with
 |none => rfl
 |some f => cases h
end
theorem qT {w : World} {F : Nat -> Prop} {q : Nat} {M : aR} (hB : bV.Bn w F q M) : Calls prog 21 #[.pointer (some ⟨q, 0, none⟩)] w fun e w' => e = .returned (.tuple #[fnd (glF M), .int .i64 (glE M)]) /\ Below w.heap.size w w' := by
 have hwf := bV.wf hB;have hw1 := hwf.one;have hw2 := hwf.cap;obtain ⟨L, hL⟩ : ∃ L, M.ds.length = L + 1 := ⟨M.ds.length - 1, by omega⟩;have HBN := ae hB;have HLA : Hid (IntKind.i64.wrap ((M.ds.length : Int) - 1) = (L : Int)) := ae (by rw [dx (by omega)]; omega);have HL16 : Hid (L <= 16) := ae (by omega);have HO : Hid (gaO M = gaK M L) := ae (by unfold gaO; rw [hL]; rfl);obtain ⟨dk, hdk⟩ : ∃ dk, M.cf = dk := ⟨_, rfl⟩;have HDK := ae hdk;obtain ⟨XE, hXE⟩ : ∃ XE, glE M = XE := ⟨_, rfl⟩;obtain ⟨XF, hXF⟩ : ∃ XF, glF M = XF := ⟨_, rfl⟩;have HXE := ae hXE;have HXF := ae hXF;rw [hXE, hXF];clear hB hwf hw1 hw2 hL hdk hXE hXF;go_enter func21, ntmps21;go_upto_region 0 with fail;refine af ?_;refine aep (cW rfl) ?_;have hbx := (Below.refl w.heap.size w).alloc ai (.cells (bu bv).toArray 50);have HB1 := ae hbx;have HZ1 : Hid (ci (w.alloc (.cells (bu bv).toArray 50)) w.heap.size bv) := ae (heap_alloc_new w (.cells (bu bv).toArray 50));obtain ⟨b2, h2⟩ : ∃ b2, w.heap.size = b2 := ⟨_, rfl⟩;have HG2 : Hid (w.heap.size <= b2) := ae (Nat.le_of_eq h2);rw [h2] at HZ1 ⊢;clear hbx h2;generalize w.alloc (.cells (bu bv).toArray 50) = w1 at *;refine aK 1 ?_;go_upto_region 1 with fail;refine aV 1 ?_;refine ay rfl (aC call56 rfl (evc aez evn)) ?_;refine (bV.cf (bV.below HBN HB1)).mono ?_;rintro e w2 ⟨rfl, b_⟩;rw [HDK.out];have HB2 := ae (HB1.out.trans (b_.mono HB1.out.size));have HZ2 : Hid (ci w2 b2 bv) := ae (aB HZ1 b_);clear b_ HB1 HZ1;refine bm ?_;refine ag ?_;cases dk;rotate_left 1
 ·have HR : Hid (XE = 8 /\ XF = bv) := ae (by
   rw [<- HXE.out, <- HXF.out];unfold glE glF;rw [if_pos HDK.out, if_pos HDK.out];exact ⟨rfl, rfl⟩)
  go_upto_region 2 with fail;refine af ?_;refine aep (iD rfl) ?_;refine az rfl (ey (c := bv) rfl (ev rfl) (ev rfl) (aP HZ2.out (by rw [aZ]; decide))) ?_;simp only [aa];have hth := aP HZ2 (o := 0) (n := 23) (by rw [aZ]; decide);have HRG := ae (World.rangeAt_setCells_same w2 b2 0 (bu bv) (by rw [aZ]; exact hth));have HBz := ae (below_setCells HB2 HG2 (o := 0) (bu bv));clear hth;generalize w2.setCells b2 0 (bu bv) = wz at *;refine aK 1 ?_;go_wp2_with fail;rw [HR.out.1, HR.out.2];exact bodyPost_ret (gZ rfl _ _ _ rfl HRG.out underlying50 rfl (by rw [aZ]; exact ij)) rfl ⟨rfl, HBz.out⟩
 go_upto_region 3 with fail;refine af ?_;refine aep (cW rfl) ?_;have hbx := (Below.refl w2.heap.size w2).alloc ai (.cells (bu bv).toArray 50);have HB3 := ae (HB2.out.trans (hbx.mono HB2.out.size));have HZ3 : Hid (ci (w2.alloc (.cells (bu bv).toArray 50)) b2 bv) := ae (aB HZ2 hbx);have HF3 : Hid (ci (w2.alloc (.cells (bu bv).toArray 50)) w2.heap.size bv) := ae (heap_alloc_new w2 (.cells (bu bv).toArray 50));have HNE : Hid (b2 ≠ w2.heap.size) := ae (by have := aY HZ2; omega);have HG4 : Hid (w.heap.size <= w2.heap.size) := ae HB2.out.size;obtain ⟨b4, h4⟩ : ∃ b4, w2.heap.size = b4 := ⟨_, rfl⟩;rw [h4] at HF3 HNE HG4 ⊢;clear hbx h4 HB2 HZ2;generalize w2.alloc (.cells (bu bv).toArray 50) = w3 at *;refine ag ?_;go_upto_region 4 with fail;refine cy 1 ?_;go_upto_region 5 with fail;refine cy 1 ?_;go_wp2_with fail
 go_loopw [5, 6] (fun v z wr => ∃ i : Nat, z = .int .i64 i /\ i <= L /\ v = .bool (gaK M i).isSome /\ ci wr b4 (fnO (gaK M i)) /\ ci wr b2 bv /\ Below w.heap.size w wr) (fun _ z _ => L - (intOf z).toNat)
 case atStart => exact ⟨0, by go_num, Nat.zero_le _, rfl, HF3, HZ3, HB3⟩
 case round =>
  clear HB3 HZ3 HF3;obtain ⟨i, rfl, hi, hv, hf, hz, hb⟩ := hrel;obtain ⟨is, his⟩ : ∃ is, (gaK M i).isSome = is := ⟨_, rfl⟩;rw [his] at hv;subst hv;have HIS := ae his;have HIL := ae hi;have HFr := ae hf;have HZr := ae hz;have HBr := ae hb;clear hi his hf hz hb;by_cases hlt : i < L
  ·have HI := ae hlt;have HLT : Hid (decide ((i : Int) < (L : Int)) = true) := ae (am (by omega));have HIA : Hid (IntKind.i64.wrap ((i : Int) + 1) = ((i + 1 : Nat) : Int)) := ae (by have := HL16.out; rw [dx ⟨by omega, by omega⟩]; omega);have HDR : Hid (-9223372036854775808 <= (i : Int) /\ (i : Int) <= 9223372036854775807) := ae (by have := HL16.out; omega);obtain ⟨y, hy⟩ : ∃ y, gaS M (i : Int) = y := ⟨_, rfl⟩;obtain ⟨n, hn⟩ : ∃ n, gaN M (i : Int) = n := ⟨_, rfl⟩;obtain ⟨u, hu⟩ : ∃ u, gaE M (i : Int) = u := ⟨_, rfl⟩;have HY := ae hy;have HN := ae hn;have HU := ae hu;clear hlt hy hn hu;go_upto_region 6 with fail;refine aV 2 ?_;refine ay rfl (aC call17 rfl (evc aez evn)) ?_;refine (bV.devices (bV.below HBN HBr)).mono ?_;rintro e w4 ⟨rfl, b_⟩;have HB4 := ae (HBr.out.trans (b_.mono HBr.out.size));have HZ4 : Hid (ci _ b2 bv) := ae (aB HZr b_);have HF4 : Hid (ci _ b4 _) := ae (aB HFr b_);clear b_ HBr HZr HFr;refine bm ?_;refine aep (gr rfl aez evk HLA) ?_;refine aep (bi true rfl aez aez HLT) ?_;refine ag ?_;go_upto_region 8 with fail;refine aV 2 ?_;refine ay rfl (aC call19 rfl (evc aez (evc aez evn))) ?_;refine (jv (i : Int) HDR (bV.below HBN HB4)).mono ?_;rintro e w5 ⟨rfl, b_⟩;rw [HY.out, HN.out, HU.out];have HB5 := ae (HB4.out.trans (b_.mono HB4.out.size));have HZ5 : Hid (ci _ b2 bv) := ae (aB HZ4 b_);have HF5 : Hid (ci _ b4 _) := ae (aB HF4 b_);clear b_ HB4 HZ4 HF4;refine bm ?_;refine runs 3 ?_;refine runs 1 ?_;refine aep (aW rfl) ?_;refine runs 1 ?_;refine az rfl (bW rfl (ev rfl) (ev rfl)) ?_;simp only [aa];have hbx := (Below.refl w5.heap.size w5).alloc ai (.cells (aN y).toArray 37);have HS6 := ae (bJ.new w5 y);have HB6 := ae (HB5.out.trans (hbx.mono HB5.out.size));have HZ6 : Hid (ci _ b2 bv) := ae (aB HZ5 hbx);have HF6 : Hid (ci _ b4 _) := ae (aB HF5 hbx);obtain ⟨b8, hb8⟩ : ∃ b8, w5.heap.size = b8 := ⟨_, rfl⟩;rw [hb8] at HS6 ⊢;clear hbx hb8 HB5 HZ5 HF5;generalize w5.alloc (.cells (aN y).toArray 37) = w6 at *;refine aK 1 ?_;have hu0 : u ≠ 0 \/ u = 0 := by omega
   rcases hu0 with hu0 | hu0
   ·have H1 : Hid ((u == 0) = false) := ae (ar hu0);have HKP : Hid (¬ (gaE M (i : Int) = 0 /\ gaU (gaK M i) (gaN M (i : Int)) = true)) := ae fun e => hu0 (HU.out.symm.trans e.1)
    clear hu0;go_upto_region 9 with fail;refine aV 1 ?_;refine aep (aH false rfl aez evk H1) ?_;refine aG 8 rfl (aJ rfl aez) (by kernel_rfl) ?_;simp only [bc, ac, aa];refine aK 1 ?_;have HKK : Hid (gaK M (i + 1) = gaK M i) := ae (qe HKP);have HREL : Hid (Value.bool is = .bool (gaK M (i + 1)).isSome /\ ci w6 b4 (fnO (gaK M (i + 1)))) := ae (by rw [HKK.out, HIS.out]; exact ⟨rfl, HF6⟩);go_upto_region 7 with fail;refine aV 1 ?_;refine aep (bU rfl aez evk HIA) ?_;refine aK 1 ?_;go_wp2_with fail;go_roundw
    case rel => exact ⟨i + 1, by go_num, HI, HREL.out.1, HREL.out.2, HZ6, HB6⟩
    case measure => have := HI.out; simp [intOf]; omega
   have H0 : Hid (u = 0) := ae hu0;have H1 : Hid ((u == 0) = true) := ae (by rw [hu0]; rfl);clear hu0;cases is
   ·have HGU : Hid (gaU (gaK M i) (gaN M (i : Int)) = true) := ae (yo HIS);go_upto_region 9 with fail;refine aV 1 ?_;refine aep (aH true rfl aez evk H1) ?_;refine runs 3 ?_;refine aG 4 aek (aJ rfl aez) (by kernel_rfl) ?_;simp only [bc, ac, aa];refine aK 2 ?_;go_upto_region 10 with fail;refine cy 1 ?_;go_upto_region 11 with fail;refine aV 1 ?_;refine aep (ax rfl aez qP) ?_;refine aep (aE rfl aez (cO HS6.out.cells.1)) ?_;refine aep (ax rfl aez mF) ?_;refine aep (bq rfl aez HS6.out.il) ?_;refine aep (iW rfl aez aez aez) ?_;refine az rfl (ey (c := ⟨n, y.id, y.ros⟩) rfl (ev rfl) (ev rfl) (aP HF6.out (by rw [aZ]; decide))) ?_;simp only [aa];have HF7 : Hid (ci (w6.setCells b4 0 (bu ⟨n, y.id, y.ros⟩)) b4 ⟨n, y.id, y.ros⟩) := ae HF6.out.put;have HZ7 : Hid (ci (w6.setCells b4 0 (bu ⟨n, y.id, y.ros⟩)) b2 bv) := ae ((ch b4 _ 0 _ b2 HNE).trans HZ6);have HB7 := ae (below_setCells HB6 HG4 (o := 0) (bu ⟨n, y.id, y.ros⟩));generalize w6.setCells b4 0 (bu ⟨n, y.id, y.ros⟩) = w7 at *;refine ag ?_;have HKT : Hid (gaK M (i + 1) = some ⟨n, y.id, y.ros⟩) := ae (by rw [ri (HU.out.trans H0.out) HGU.out]; unfold gaP; rw [HY.out, HN.out]);have HREL : Hid (Value.bool true = .bool (gaK M (i + 1)).isSome /\ ci w7 b4 (fnO (gaK M (i + 1)))) := ae (by rw [HKT.out]; exact ⟨rfl, HF7⟩);go_upto_region 7 with fail;refine aV 1 ?_;refine aep (bU rfl aez evk HIA) ?_;refine aK 1 ?_;go_wp2_with fail;go_roundw
    case rel => exact ⟨i + 1, by go_num, HI, HREL.out.1, HREL.out.2, HZ7, HB7⟩
    case measure => have := HI.out; simp [intOf]; omega
   have HGE : Hid (gaU (gaK M i) (gaN M (i : Int)) = decide ((fnO (gaK M i)).ev < n)) := ae (by rw [xd HIS.out, HN.out]);go_upto_region 9 with fail;refine aV 1 ?_;refine aep (aH true rfl aez evk H1) ?_;refine runs 3 ?_;refine runs 2 ?_;refine aew (ax rfl aez uj) ?_;refine aew (aE rfl aez (cO HF6.out.cells.1)) ?_;by_cases hlt : (fnO (gaK M i)).ev < n
   ·have HGU : Hid (gaU (gaK M i) (gaN M (i : Int)) = true) := ae (HGE.out.trans (am hlt));have H2 : Hid (decide (((fnO (gaK M i)).ev : Int) < (n : Int)) = true) := ae (am (by omega));clear hlt;refine aew (df true rfl aez aez H2) ?_;refine aK 2 ?_;go_upto_region 10 with fail;refine cy 1 ?_;go_upto_region 11 with fail;refine aV 1 ?_;refine aep (ax rfl aez qP) ?_;refine aep (aE rfl aez (cO HS6.out.cells.1)) ?_;refine aep (ax rfl aez mF) ?_;refine aep (bq rfl aez HS6.out.il) ?_;refine aep (iW rfl aez aez aez) ?_;refine az rfl (ey (c := ⟨n, y.id, y.ros⟩) rfl (ev rfl) (ev rfl) (aP HF6.out (by rw [aZ]; decide))) ?_;simp only [aa];have HF7 : Hid (ci (w6.setCells b4 0 (bu ⟨n, y.id, y.ros⟩)) b4 ⟨n, y.id, y.ros⟩) := ae HF6.out.put;have HZ7 : Hid (ci (w6.setCells b4 0 (bu ⟨n, y.id, y.ros⟩)) b2 bv) := ae ((ch b4 _ 0 _ b2 HNE).trans HZ6);have HB7 := ae (below_setCells HB6 HG4 (o := 0) (bu ⟨n, y.id, y.ros⟩));generalize w6.setCells b4 0 (bu ⟨n, y.id, y.ros⟩) = w7 at *;refine ag ?_;have HKT : Hid (gaK M (i + 1) = some ⟨n, y.id, y.ros⟩) := ae (by rw [ri (HU.out.trans H0.out) HGU.out]; unfold gaP; rw [HY.out, HN.out]);have HREL : Hid (Value.bool true = .bool (gaK M (i + 1)).isSome /\ ci w7 b4 (fnO (gaK M (i + 1)))) := ae (by rw [HKT.out]; exact ⟨rfl, HF7⟩);go_upto_region 7 with fail;refine aV 1 ?_;refine aep (bU rfl aez evk HIA) ?_;refine aK 1 ?_;go_wp2_with fail;go_roundw
    case rel => exact ⟨i + 1, by go_num, HI, HREL.out.1, HREL.out.2, HZ7, HB7⟩
    case measure => have := HI.out; simp [intOf]; omega
   have H2 : Hid (decide (((fnO (gaK M i)).ev : Int) < (n : Int)) = false) := ae (al (by omega));have HKP : Hid (¬ (gaE M (i : Int) = 0 /\ gaU (gaK M i) (gaN M (i : Int)) = true)) := ae fun e => hlt (of_decide_eq_true (HGE.out.symm.trans e.2))
   clear hlt;refine aew (df false rfl aez aez H2) ?_;refine aK 2 ?_;have HKK : Hid (gaK M (i + 1) = gaK M i) := ae (qe HKP);have HREL : Hid (Value.bool true = .bool (gaK M (i + 1)).isSome /\ ci w6 b4 (fnO (gaK M (i + 1)))) := ae (by rw [HKK.out, HIS.out]; exact ⟨rfl, HF6⟩);go_upto_region 7 with fail;refine aV 1 ?_;refine aep (bU rfl aez evk HIA) ?_;refine aK 1 ?_;go_wp2_with fail;go_roundw
   case rel => exact ⟨i + 1, by go_num, HI, HREL.out.1, HREL.out.2, HZ6, HB6⟩
   case measure => have := HI.out; simp [intOf]; omega
  have hin : i = L := by have := HIL.out; omega
  subst hin;have HLT : Hid (decide ((i : Int) < (i : Int)) = false) := ae (al (by omega));clear hlt;go_upto_region 6 with fail;refine aV 2 ?_;refine ay rfl (aC call17 rfl (evc aez evn)) ?_;refine (bV.devices (bV.below HBN HBr)).mono ?_;rintro e w4 ⟨rfl, b_⟩;have HB4 := ae (HBr.out.trans (b_.mono HBr.out.size));have HZ4 : Hid (ci _ b2 bv) := ae (aB HZr b_);have HF4 : Hid (ci _ b4 _) := ae (aB HFr b_);clear b_ HBr HZr HFr;refine bm ?_;refine aep (gr rfl aez evk HLA) ?_;refine aep (bi false rfl aez aez HLT) ?_;refine ag ?_;cases is
  ·have HR : Hid (XE = 7 /\ XF = bv) := ae (by
    have hk : gaO M = none := by
     rw [HO.out];cases hx : gaK M i with
     |none => rfl
     |some f => have := HIS.out; rw [hx] at this; cases this
    rw [<- HXE.out, <- HXF.out];unfold glE glF;rw [HDK.out, if_neg (by decide), if_neg (by decide), hk];exact ⟨rfl, rfl⟩)
   go_upto_region 12 with fail;refine cy 2 ?_;go_upto_region 13 with fail;refine af ?_;refine aep (iD rfl) ?_;refine az rfl (ey (c := bv) rfl (ev rfl) (ev rfl) (aP HZ4.out (by rw [aZ]; decide))) ?_;simp only [aa];have hth := aP HZ4 (o := 0) (n := 23) (by rw [aZ]; decide);have HRG := ae (World.rangeAt_setCells_same w4 b2 0 (bu bv) (by rw [aZ]; exact hth));have HBz := ae (below_setCells HB4 HG2 (o := 0) (bu bv));clear hth;generalize w4.setCells b2 0 (bu bv) = wz at *;refine aK 1 ?_;go_wp2_with fail;rw [HR.out.1, HR.out.2];exact bodyPost_ret (gZ rfl _ _ _ rfl HRG.out underlying50 rfl (by rw [aZ]; exact ij)) rfl ⟨rfl, HBz.out⟩
  obtain ⟨f, hf⟩ : ∃ f, gaK M i = some f := Option.isSome_iff_exists.1 HIS;obtain ⟨j, _, hj, hfj⟩ := rP hf;obtain ⟨_, _, m3, _, _, _, _⟩ := pD hj;have hfine : bn f.R = true := by rw [hfj]; exact m3
  have hgg := eI (dy hfine).1;obtain ⟨mn, hmn⟩ : ∃ mn : Nat, f.R.m = (mn : Int) := ⟨f.R.m.toNat, by omega⟩;have HM16 : Hid (mn <= 16) := ae (by omega);have HKL : Hid (∀ k, (gaL M f k).m = (mn : Int) /\ g7 (gaL M f k) f.R = true) := ae fun k => by
   obtain ⟨_, k2, k3, k4⟩ := mQ (M := M) hfine k;exact ⟨k2.trans hmn, by unfold g7; rw [k2, k3, k4]; exact am ⟨rfl, rfl, rfl⟩⟩
  have HR : Hid (XE = 0 /\ XF = ⟨f.ev, f.id, gaL M f mn⟩) := ae (by
   have hk : gaO M = some f := by rw [HO.out]; exact hf
   rw [<- HXE.out, <- HXF.out];unfold glE glF;rw [HDK.out, if_neg (by decide), if_neg (by decide), hk];refine ⟨rfl, ?_⟩
   show (⟨f.ev, f.id, gaL M f f.R.m.toNat⟩ : Fnd) = _
   rw [hmn]
   rfl)
  have HF4' : Hid (ci w4 b4 ⟨f.ev, f.id, gaL M f 0⟩) := ae (by have := HF4.out; rw [hf] at this; exact this);clear hf hj hfj m3 hfine hgg hmn HF4;go_upto_region 12 with fail;refine cy 2 ?_;go_upto_region 14 with fail;refine cy 1 ?_;go_wp2_with fail
  go_loopw [10] (fun z wr => ∃ j : Nat, z = .int .i64 j /\ j <= mn /\ ci wr b4 ⟨f.ev, f.id, gaL M f j⟩ /\ ci wr b2 bv /\ Below w.heap.size w wr) (fun z _ => mn - (intOf z).toNat)
  case atStart => exact ⟨0, by go_num, Nat.zero_le _, HF4', HZ4, HB4⟩
  case round =>
   clear HB4 HZ4 HF4';obtain ⟨j, rfl, hi, hf, hz, hb⟩ := hrel;have HIL := ae hi;have HFr := ae hf;have HZr := ae hz;have HBr := ae hb;clear hi hf hz hb;by_cases hlt : j < mn
   ·have HI := ae hlt;have HLT : Hid (decide ((j : Int) < (gaL M f j).m) = true) := ae (am (by rw [(HKL.out j).1]; omega));have HIA : Hid (IntKind.i64.wrap ((j : Int) + 1) = ((j + 1 : Nat) : Int)) := ae (by have := HM16.out; rw [dx ⟨by omega, by omega⟩]; omega);have HDR : Hid (-9223372036854775808 <= (j : Int) /\ (j : Int) <= 9223372036854775807) := ae (by have := HM16.out; omega);obtain ⟨y, hy⟩ : ∃ y, gaS M (j : Int) = y := ⟨_, rfl⟩;obtain ⟨n, hn⟩ : ∃ n, gaN M (j : Int) = n := ⟨_, rfl⟩;obtain ⟨u, hu⟩ : ∃ u, gaE M (j : Int) = u := ⟨_, rfl⟩;obtain ⟨R, hR⟩ : ∃ R, gaL M f j = R := ⟨_, rfl⟩;have hgq : g7 R f.R = true := by rw [<- hR]; exact (HKL.out j).2
    rw [hR] at HFr HLT;have HY := ae hy;have HN := ae hn;have HU := ae hu;have HRR := ae hR;have HW : Hid (gaW M f j = (decide (u = 0) && decide (y.self = (j : Int)) && decide (y.id = f.id) && g7 y.ros R)) := ae (by
     unfold gaW;rw [hu, hy];have e := of_decide_eq_true hgq;unfold g7;rw [e.1, e.2.1, e.2.2])
    clear hlt hy hn hu hR hgq;go_upto_region 15 with fail;refine aV 1 ?_;refine aep (ax rfl aez fe) ?_;refine aep (ax rfl aez gO) ?_;refine aep (ax rfl aez kO) ?_;refine aep (aE rfl aez (cv (HFr.out.jZ 0 _ rfl))) ?_;refine aep (bi true rfl aez aez HLT) ?_;refine ag ?_;go_upto_region 17 with fail;refine aV 2 ?_;refine ay rfl (aC call19 rfl (evc aez (evc aez evn))) ?_;refine (jv (j : Int) HDR (bV.below HBN HBr)).mono ?_;rintro e w5 ⟨rfl, b_⟩;rw [HY.out, HN.out, HU.out];have HB5 := ae (HBr.out.trans (b_.mono HBr.out.size));have HZ5 : Hid (ci _ b2 bv) := ae (aB HZr b_);have HF5 : Hid (ci _ b4 _) := ae (aB HFr b_);clear b_ HBr HZr HFr;refine bm ?_;refine runs 3 ?_;refine runs 1 ?_;refine aep (aW rfl) ?_;refine runs 1 ?_;refine az rfl (bW rfl (ev rfl) (ev rfl)) ?_;simp only [aa];have hbx := (Below.refl w5.heap.size w5).alloc ai (.cells (aN y).toArray 37);have HS6 := ae (bJ.new w5 y);have HB6 := ae (HB5.out.trans (hbx.mono HB5.out.size));have HZ6 : Hid (ci _ b2 bv) := ae (aB HZ5 hbx);have HF6 : Hid (ci _ b4 _) := ae (aB HF5 hbx);obtain ⟨b12, hb12⟩ : ∃ b12, w5.heap.size = b12 := ⟨_, rfl⟩;rw [hb12] at HS6 ⊢;clear hbx hb12 HB5 HZ5 HF5;generalize w5.alloc (.cells (aN y).toArray 37) = w6 at *;refine aK 1 ?_;have hu0 : u ≠ 0 \/ u = 0 := by omega
    rcases hu0 with hu0 | hu0
    ·have H1 : Hid ((u != 0) = true) := ae (by simp [hu0]);have HWF : Hid (gaW M f j = false) := ae (by rw [HW.out, al hu0]; rfl);clear hu0;go_upto_region 18 with fail;refine aV 1 ?_;refine aep (aI true rfl aez evk H1) ?_;refine aG 4 rfl (aJ rfl aez) (by kernel_rfl) ?_;simp only [bc, ac, aa];refine runs 1 ?_;refine aG 5 rfl (aJ rfl aez) (by kernel_rfl) ?_;simp only [bc, ac, aa];refine runs 1 ?_;refine aG 7 rfl (aJ rfl aez) (by kernel_rfl) ?_;simp only [bc, ac, aa];refine aK 1 ?_;go_upto_region 19 with fail;refine af ?_;refine aep (ax rfl aez fe) ?_;refine aep (bq rfl aez HF6.out.il) ?_;refine runs 1 ?_;refine ay rfl (aC call30 rfl (evc aez (evc aez evn))) ?_;refine (ui R (j : Int) w6).mono ?_;rintro e w7 ⟨rfl, b_⟩;have HB7 := ae (HB6.out.trans (b_.mono HB6.out.size));have HZ7 : Hid (ci _ b2 bv) := ae (aB HZ6 b_);have HF7 : Hid (ci _ b4 _) := ae (aB HF6 b_);clear b_ HB6 HZ6 HF6 HS6;refine bm ?_;refine runs 3 ?_;refine aep (ax rfl aez fe) ?_;refine az rfl (dq (cs := aS (cx R (j : Int))) (by rw [a9]; exact jT) (eV _) rfl (ev rfl) (ev rfl) (aP HF7.out (by rw [aZ, a9]; decide))) ?_;simp only [aa];have HF8 : Hid (ci (w7.setCells b4 2 (aS (cx R (j : Int)))) b4 ⟨f.ev, f.id, (cx R (j : Int))⟩) := ae HF7.out.ros;have HZ8 : Hid (ci (w7.setCells b4 2 (aS (cx R (j : Int)))) b2 bv) := ae ((ch b4 _ 2 _ b2 HNE).trans HZ7);have HB8 := ae (below_setCells HB7 HG4 (o := 2) (aS (cx R (j : Int))));generalize w7.setCells b4 2 (aS (cx R (j : Int))) = w8 at *;refine ag ?_;have HLN : Hid (gaL M f (j + 1) = cx R (j : Int)) := ae (by rw [gaL, if_neg (by rw [HWF.out]; decide), HRR.out]);have HREL : Hid (ci w8 b4 ⟨f.ev, f.id, gaL M f (j + 1)⟩) := ae (by rw [HLN.out]; exact HF8);go_upto_region 16 with fail;refine aV 1 ?_;refine aep (bU rfl aez evk HIA) ?_;refine aK 1 ?_;go_wp2_with fail;go_roundw
     case rel => exact ⟨j + 1, by go_num, HI, HREL, HZ8, HB8⟩
     case measure => have := HI.out; simp [intOf]; omega
    have H1 : Hid ((u != 0) = false) := ae (by rw [hu0]; rfl);by_cases h2 : y.self ≠ (j : Int)
    ·have H2 : Hid ((y.self != (j : Int)) = true) := ae (by simp [h2]);have HWF : Hid (gaW M f j = false) := ae (by rw [HW.out, al h2, Bool.and_false]; rfl);clear hu0 h2;go_upto_region 18 with fail;refine aV 1 ?_;refine aep (aI false rfl aez evk H1) ?_;refine runs 1 ?_;refine aew (ax rfl aez uh) ?_;refine aew (aE rfl aez (cv HS6.out.cells.2.1)) ?_;refine runs 1 ?_;refine aew (aI true rfl aez aez H2) ?_;refine runs 1 ?_;refine aG 5 rfl (aJ rfl aez) (by kernel_rfl) ?_;simp only [bc, ac, aa];refine runs 1 ?_;refine aG 7 rfl (aJ rfl aez) (by kernel_rfl) ?_;simp only [bc, ac, aa];refine aK 1 ?_;go_upto_region 19 with fail;refine af ?_;refine aep (ax rfl aez fe) ?_;refine aep (bq rfl aez HF6.out.il) ?_;refine runs 1 ?_;refine ay rfl (aC call30 rfl (evc aez (evc aez evn))) ?_;refine (ui R (j : Int) w6).mono ?_;rintro e w7 ⟨rfl, b_⟩;have HB7 := ae (HB6.out.trans (b_.mono HB6.out.size));have HZ7 : Hid (ci _ b2 bv) := ae (aB HZ6 b_);have HF7 : Hid (ci _ b4 _) := ae (aB HF6 b_);clear b_ HB6 HZ6 HF6 HS6;refine bm ?_;refine runs 3 ?_;refine aep (ax rfl aez fe) ?_;refine az rfl (dq (cs := aS (cx R (j : Int))) (by rw [a9]; exact jT) (eV _) rfl (ev rfl) (ev rfl) (aP HF7.out (by rw [aZ, a9]; decide))) ?_;simp only [aa];have HF8 : Hid (ci (w7.setCells b4 2 (aS (cx R (j : Int)))) b4 ⟨f.ev, f.id, (cx R (j : Int))⟩) := ae HF7.out.ros;have HZ8 : Hid (ci (w7.setCells b4 2 (aS (cx R (j : Int)))) b2 bv) := ae ((ch b4 _ 2 _ b2 HNE).trans HZ7);have HB8 := ae (below_setCells HB7 HG4 (o := 2) (aS (cx R (j : Int))));generalize w7.setCells b4 2 (aS (cx R (j : Int))) = w8 at *;refine ag ?_;have HLN : Hid (gaL M f (j + 1) = cx R (j : Int)) := ae (by rw [gaL, if_neg (by rw [HWF.out]; decide), HRR.out]);have HREL : Hid (ci w8 b4 ⟨f.ev, f.id, gaL M f (j + 1)⟩) := ae (by rw [HLN.out]; exact HF8);go_upto_region 16 with fail;refine aV 1 ?_;refine aep (bU rfl aez evk HIA) ?_;refine aK 1 ?_;go_wp2_with fail;go_roundw
     case rel => exact ⟨j + 1, by go_num, HI, HREL, HZ8, HB8⟩
     case measure => have := HI.out; simp [intOf]; omega
    have H2 : Hid ((y.self != (j : Int)) = false) := ae (by simp; omega);by_cases h3 : y.id ≠ f.id
    ·have H3 : Hid (((y.id : Int) != (f.id : Int)) = true) := ae (by simp; omega);have HWF : Hid (gaW M f j = false) := ae (by rw [HW.out, al h3, Bool.and_false]; rfl);clear hu0 h2 h3;go_upto_region 18 with fail;refine aV 1 ?_;refine aep (aI false rfl aez evk H1) ?_;refine runs 1 ?_;refine aew (ax rfl aez uh) ?_;refine aew (aE rfl aez (cv HS6.out.cells.2.1)) ?_;refine runs 1 ?_;refine aew (aI false rfl aez aez H2) ?_;refine runs 2 ?_;refine aew (ax rfl aez qP) ?_;refine aew (aE rfl aez (cO HS6.out.cells.1)) ?_;refine aew (ax rfl aez jX) ?_;refine aew (aE rfl aez (cO HF6.out.cells.2)) ?_;refine aew (aI true rfl aez aez H3) ?_;refine runs 1 ?_;refine aG 7 rfl (aJ rfl aez) (by kernel_rfl) ?_;simp only [bc, ac, aa];refine aK 1 ?_;go_upto_region 19 with fail;refine af ?_;refine aep (ax rfl aez fe) ?_;refine aep (bq rfl aez HF6.out.il) ?_;refine runs 1 ?_;refine ay rfl (aC call30 rfl (evc aez (evc aez evn))) ?_;refine (ui R (j : Int) w6).mono ?_;rintro e w7 ⟨rfl, b_⟩;have HB7 := ae (HB6.out.trans (b_.mono HB6.out.size));have HZ7 : Hid (ci _ b2 bv) := ae (aB HZ6 b_);have HF7 : Hid (ci _ b4 _) := ae (aB HF6 b_);clear b_ HB6 HZ6 HF6 HS6;refine bm ?_;refine runs 3 ?_;refine aep (ax rfl aez fe) ?_;refine az rfl (dq (cs := aS (cx R (j : Int))) (by rw [a9]; exact jT) (eV _) rfl (ev rfl) (ev rfl) (aP HF7.out (by rw [aZ, a9]; decide))) ?_;simp only [aa];have HF8 : Hid (ci (w7.setCells b4 2 (aS (cx R (j : Int)))) b4 ⟨f.ev, f.id, (cx R (j : Int))⟩) := ae HF7.out.ros;have HZ8 : Hid (ci (w7.setCells b4 2 (aS (cx R (j : Int)))) b2 bv) := ae ((ch b4 _ 2 _ b2 HNE).trans HZ7);have HB8 := ae (below_setCells HB7 HG4 (o := 2) (aS (cx R (j : Int))));generalize w7.setCells b4 2 (aS (cx R (j : Int))) = w8 at *;refine ag ?_;have HLN : Hid (gaL M f (j + 1) = cx R (j : Int)) := ae (by rw [gaL, if_neg (by rw [HWF.out]; decide), HRR.out]);have HREL : Hid (ci w8 b4 ⟨f.ev, f.id, gaL M f (j + 1)⟩) := ae (by rw [HLN.out]; exact HF8);go_upto_region 16 with fail;refine aV 1 ?_;refine aep (bU rfl aez evk HIA) ?_;refine aK 1 ?_;go_wp2_with fail;go_roundw
     case rel => exact ⟨j + 1, by go_num, HI, HREL, HZ8, HB8⟩
     case measure => have := HI.out; simp [intOf]; omega
    have H3 : Hid (((y.id : Int) != (f.id : Int)) = false) := ae (by simp; omega);cases h4 : g7 y.ros R
    ·have H4 : Hid ((!g7 y.ros R) = true) := ae (by rw [h4]; rfl);have HWF : Hid (gaW M f j = false) := ae (by rw [HW.out, h4, Bool.and_false]);clear hu0 h2 h3 h4;go_upto_region 18 with fail;refine aV 1 ?_;refine aep (aI false rfl aez evk H1) ?_;refine runs 1 ?_;refine aew (ax rfl aez uh) ?_;refine aew (aE rfl aez (cv HS6.out.cells.2.1)) ?_;refine runs 1 ?_;refine aew (aI false rfl aez aez H2) ?_;refine runs 2 ?_;refine aew (ax rfl aez qP) ?_;refine aew (aE rfl aez (cO HS6.out.cells.1)) ?_;refine aew (ax rfl aez jX) ?_;refine aew (aE rfl aez (cO HF6.out.cells.2)) ?_;refine aew (aI false rfl aez aez H3) ?_;refine runs 2 ?_;refine aew (ax rfl aez mF) ?_;refine aew (ax rfl aez gO) ?_;refine aew (cu (c := y.ros) rfl aez HS6.out.jZ) ?_;refine aew (ax rfl aez fe) ?_;refine aew (ax rfl aez gO) ?_;refine aew (cu (c := R) rfl aez HF6.out.jZ) ?_;refine aew (ob (x := y.ros) (y := R) true rfl aez aez H4) ?_;refine aK 1 ?_;go_upto_region 19 with fail;refine af ?_;refine aep (ax rfl aez fe) ?_;refine aep (bq rfl aez HF6.out.il) ?_;refine runs 1 ?_;refine ay rfl (aC call30 rfl (evc aez (evc aez evn))) ?_;refine (ui R (j : Int) w6).mono ?_;rintro e w7 ⟨rfl, b_⟩;have HB7 := ae (HB6.out.trans (b_.mono HB6.out.size));have HZ7 : Hid (ci _ b2 bv) := ae (aB HZ6 b_);have HF7 : Hid (ci _ b4 _) := ae (aB HF6 b_);clear b_ HB6 HZ6 HF6 HS6;refine bm ?_;refine runs 3 ?_;refine aep (ax rfl aez fe) ?_;refine az rfl (dq (cs := aS (cx R (j : Int))) (by rw [a9]; exact jT) (eV _) rfl (ev rfl) (ev rfl) (aP HF7.out (by rw [aZ, a9]; decide))) ?_;simp only [aa];have HF8 : Hid (ci (w7.setCells b4 2 (aS (cx R (j : Int)))) b4 ⟨f.ev, f.id, (cx R (j : Int))⟩) := ae HF7.out.ros;have HZ8 : Hid (ci (w7.setCells b4 2 (aS (cx R (j : Int)))) b2 bv) := ae ((ch b4 _ 2 _ b2 HNE).trans HZ7);have HB8 := ae (below_setCells HB7 HG4 (o := 2) (aS (cx R (j : Int))));generalize w7.setCells b4 2 (aS (cx R (j : Int))) = w8 at *;refine ag ?_;have HLN : Hid (gaL M f (j + 1) = cx R (j : Int)) := ae (by rw [gaL, if_neg (by rw [HWF.out]; decide), HRR.out]);have HREL : Hid (ci w8 b4 ⟨f.ev, f.id, gaL M f (j + 1)⟩) := ae (by rw [HLN.out]; exact HF8);go_upto_region 16 with fail;refine aV 1 ?_;refine aep (bU rfl aez evk HIA) ?_;refine aK 1 ?_;go_wp2_with fail;go_roundw
     case rel => exact ⟨j + 1, by go_num, HI, HREL, HZ8, HB8⟩
     case measure => have := HI.out; simp [intOf]; omega
    ·have H4 : Hid ((!g7 y.ros R) = false) := ae (by rw [h4]; rfl);have HWT : Hid (gaW M f j = true) := ae (by rw [HW.out, h4, am hu0, am (show y.self = (j : Int) by omega), am (show y.id = f.id by omega)]; rfl);have HREL : Hid (ci w6 b4 ⟨f.ev, f.id, gaL M f (j + 1)⟩) := ae (by rw [gaL, if_pos HWT.out, HRR.out]; exact HF6);clear hu0 h2 h3 h4;go_upto_region 18 with fail;refine aV 1 ?_;refine aep (aI false rfl aez evk H1) ?_;refine runs 1 ?_;refine aew (ax rfl aez uh) ?_;refine aew (aE rfl aez (cv HS6.out.cells.2.1)) ?_;refine runs 1 ?_;refine aew (aI false rfl aez aez H2) ?_;refine runs 2 ?_;refine aew (ax rfl aez qP) ?_;refine aew (aE rfl aez (cO HS6.out.cells.1)) ?_;refine aew (ax rfl aez jX) ?_;refine aew (aE rfl aez (cO HF6.out.cells.2)) ?_;refine aew (aI false rfl aez aez H3) ?_;refine runs 2 ?_;refine aew (ax rfl aez mF) ?_;refine aew (ax rfl aez gO) ?_;refine aew (cu (c := y.ros) rfl aez HS6.out.jZ) ?_;refine aew (ax rfl aez fe) ?_;refine aew (ax rfl aez gO) ?_;refine aew (cu (c := R) rfl aez HF6.out.jZ) ?_;refine aew (ob (x := y.ros) (y := R) false rfl aez aez H4) ?_;refine aK 1 ?_;go_upto_region 16 with fail;refine aV 1 ?_;refine aep (bU rfl aez evk HIA) ?_;refine aK 1 ?_;go_wp2_with fail;go_roundw
     case rel => exact ⟨j + 1, by go_num, HI, HREL, HZ6, HB6⟩
     case measure => have := HI.out; simp [intOf]; omega
   have hin : j = mn := by have := HIL.out; omega
   subst hin;have HLT : Hid (decide ((j : Int) < (gaL M f j).m) = false) := ae (al (by rw [(HKL.out j).1]; omega));clear hlt;go_upto_region 15 with fail;refine aV 1 ?_;refine aep (ax rfl aez fe) ?_;refine aep (ax rfl aez gO) ?_;refine aep (ax rfl aez kO) ?_;refine aep (aE rfl aez (cv (HFr.out.jZ 0 _ rfl))) ?_;refine aep (bi false rfl aez aez HLT) ?_;refine ag ?_;go_upto_region 20 with fail;refine af ?_;refine aep (dP (c := ⟨f.ev, f.id, gaL M f j⟩) rfl aez (br HFr)) ?_;refine az rfl (ey (c := ⟨f.ev, f.id, gaL M f j⟩) rfl (ev rfl) (ev rfl) (aP HZr.out (by rw [aZ]; decide))) ?_;simp only [aa];have hth := aP HZr (o := 0) (n := 23) (by rw [aZ]; decide);have HRG := ae (World.rangeAt_setCells_same wr b2 0 (bu ⟨f.ev, f.id, gaL M f j⟩) (by rw [aZ]; exact hth));have HBz := ae (below_setCells HBr HG2 (o := 0) (bu ⟨f.ev, f.id, gaL M f j⟩));clear hth;generalize wr.setCells b2 0 (bu ⟨f.ev, f.id, gaL M f j⟩) = wz at *;refine aK 1 ?_;go_wp2_with fail;rw [HR.out.1, HR.out.2];exact bodyPost_ret (gZ rfl _ _ _ rfl HRG.out underlying50 rfl (by rw [aZ]; exact ij)) rfl ⟨rfl, HBz.out⟩
def adi (C : pj) (w : World) (p q : Nat) (wx : World) : Prop := ∃ M, TwB C.R.toBen bV.toBen w w.heap.size (fun _ => False) wx p q M M
theorem qB {M : aR} {k : Nat} (h : Room M k) : Room (f8 M 1) k := by
 unfold f8
 split
 ·exact ⟨h.1, by show (1 : Int).toNat < _; decide, h.2.2⟩
 ·exact h
theorem zR (C : pj) (I : qo C.R) (a D : Nat) (dk : Bool) (A : Option Addr) (nn cc : Nat) (l : List cg) (w : World) (T : Tab w) (ha : a < 256) (hD : D < 65536) (hl : RdE gK w w.heap.size A nn l) (hn : nn <= maxLen) (hin : ∀ k, k < nn -> (l.getD k cg.zero).In w) : Calls prog 3 #[.int .u8 (a : Int), .slice A nn cc, .int .u16 (D : Int), .bool dk] w fun e w' => e = .returned (.bool true) /\ Below w.heap.size w w' := by
 unfold maxLen at hn;obtain ⟨NN, hNN⟩ : ∃ NN, 3 + a % 4 = NN := ⟨_, rfl⟩;have h1 : 3 <= NN := by omega
 have h2 : NN <= 6 := by omega
 obtain ⟨M0, hm0⟩ : ∃ M0, cp (szK NN 4) = M0 := ⟨_, rfl⟩;have HT := ae T;have HL := ae hl;have HLN := ae hn;have HIN := ae hin;have HD := ae hD;have HN1 := ae h1;have HN2 := ae h2;have HM0 := ae hm0;have HS0 : Hid (Room M0 100) := ae (by rw [<- hm0]; exact qQ (by omega));have HRA : Hid ((a : Int).tmod 4 = ((a % 4 : Nat) : Int)) := ae rfl;have HCA : Hid (IntKind.i64.wrap ((a % 4 : Nat) : Int) = ((a % 4 : Nat) : Int)) := ae (dx (by omega));have HAA : Hid (IntKind.i64.wrap (3 + ((a % 4 : Nat) : Int)) = (NN : Int)) := ae (by rw [dx (by omega)]; omega);clear T ha hD hl hn hin hNN h1 h2 hm0;go_enter func3, ntmps3;go_upto_region 0 with fail;refine cy 1 ?_;go_upto_region 1 with fail;refine aV 1 ?_;refine aep (fw rfl aez evk (by decide) HRA) ?_;refine aep (i9 rfl aez HCA) ?_;refine aep (bU rfl evk aez HAA) ?_;refine ay rfl (aC call7 rfl (evc aez evn)) ?_;refine (abd C.R NN w HT HN1 (by have := HN2.out; omega)).mono ?_;rintro e w1 ⟨p, q, rfl, a1⟩;rw [HM0.out] at a1;have HA1 := ae a1;clear a1;refine bm ?_;refine runs 3 ?_;refine runs 3 ?_;refine aK 1 ?_;go_upto_region 2 with fail;refine cy 2 ?_;go_upto_region 4 with fail;refine cy 1 ?_;go_wp2_with fail
 go_loopw [12] (fun z wr => ∃ (i : Nat) (M : aR), z = .int .i64 i /\ i <= nn /\ i <= 40 /\ TwB C.R.toBen bV.toBen w w.heap.size (fun _ => False) wr p q M M /\ Room M (100 - i)) (fun z _ => 40 - (intOf z).toNat)
 case atStart => exact ⟨0, M0, by go_num, Nat.zero_le _, Nat.zero_le _, HA1, HS0⟩
 case round =>
  clear HA1;obtain ⟨i, M, rfl, hi1, hi2, ha, hr⟩ := hrel;have HI1 := ae hi1;have HI2 := ae hi2;have HAr := ae ha;have HR := ae hr;clear hi1 hi2 ha hr;by_cases hlt : i < nn /\ i < 40
  ·have HI := ae hlt;have HLT1 : Hid (decide ((i : Int) < (nn : Int)) = true) := ae (am (by omega));have HLT2 : Hid (decide ((i : Int) < 40) = true) := ae (am (by omega));have HIA : Hid (IntKind.i64.wrap ((i : Int) + 1) = ((i + 1 : Nat) : Int)) := ae (by rw [dx ⟨by omega, by omega⟩]; omega);obtain ⟨bA, oA, hA, hbA, hcA⟩ := HL.out.2 i hlt.1;obtain ⟨x, hx⟩ : ∃ x, l.getD i cg.zero = x := ⟨_, rfl⟩;have hxi := HIN.out i hlt.1;rw [show gK.d = cg.zero from rfl, hx] at hcA;rw [hx] at hxi;have HXI := ae hxi;have HA := ae hA;have HC0 : Hid (∀ {w' : World}, Below w.heap.size w w' -> w'.rangeAt bA (oA + i * gK.n) x.C) := ae fun hw => ce hcA hbA hw
   have HR2 : Hid (Room M (99 - i + 1)) := ae (by have := HR.out; rw [show 100 - i = 99 - i + 1 by omega] at this; exact this);clear hlt hA hbA hcA hx hxi;go_upto_region 5 with fail;refine aV 2 ?_;refine aep (lh underlying22 rfl aez) ?_;refine aep (bi true rfl aez aez HLT1) ?_;refine runs 2 ?_;refine aew (bi true rfl aez evk HLT2) ?_;refine aK 1 ?_;go_upto_region 7 with fail;refine aV 2 ?_;refine aep (cK (E := gK) (b := bA) (off := oA) rfl ((ev (Eq.refl _)).trans (by rw [HA.out])) aez HI.out.1) ?_;refine aep (nQ (a := x) rfl aez (HC0.out HAr.out.bel)) ?_;refine ay rfl (aC call8 rfl (evc aez evn)) ?_;refine (vj x w HXI wr).mono ?_;rintro e w3 ⟨c, rfl, b_⟩;have HA3 := ae (HAr.out.below b_);clear b_ HAr;refine bm ?_;refine aep (bw rfl) ?_;refine az rfl (e9 (c := c) rfl (ev rfl) (ev rfl)) ?_;simp only [aa];have hx := (Below.refl w3.heap.size w3).alloc ai (.cells (cel c).toArray 29);have HX4 := ae (heap_alloc_new w3 (.cells (cel c).toArray 29));have hsz : (w3.alloc (.cells (cel c).toArray 29)).heap.size = w3.heap.size + 1 := ak;have HA4 := ae (HA3.out.guard (K' := fun b => b = w3.heap.size) hx fun b e => .inr ⟨by omega, by omega⟩);obtain ⟨b13, hb13⟩ : ∃ b, w3.heap.size = b := ⟨_, rfl⟩;rw [hb13] at HX4 HA4 ⊢;clear hx hsz hb13 HA3;generalize w3.alloc (.cells (cel c).toArray 29) = w4 at *;refine ag ?_;have HAd := ae (HA4.out.below (Below.refl w4.heap.size w4).drew);have HXd : Hid ((World.drew w4).heap[b13]? = some (.cells (cel c).toArray 29 (0, 0))) := ae HX4;have HSd := ae (And.intro HAd.out.bel HXd);go_upto_region 8 with fail;refine wp_region_held (S := fun w' => Below w.heap.size w w' /\ w'.heap[b13]? = some (.cells (cel c).toArray 29 (0, 0))) (by kernel_rfl) ?_;change wpAnyH _ _ _ _ _ 27 _ _ w4.drew;refine aeM 0 rfl HSd ?_;refine aeM 1 rfl HSd ?_;refine aeM 2 rfl HSd ?_;refine aes 3 rfl (fun _ hw => cK (E := gK) (b := bA) (off := oA) rfl ((ev (Eq.refl _)).trans (by rw [HA.out])) aez HI.out.1) HSd ?_;refine aes 4 rfl (fun _ hw => ax rfl aez uG) HSd ?_;refine aes 5 rfl (fun _ hw => aE rfl aez (cv (k := x.D) ((HC0.out hw.1) 0 _ rfl))) HSd ?_;refine aeM 6 rfl HSd ?_;refine aeM 7 rfl HSd ?_;refine aes 8 rfl (fun _ hw => cK (E := gK) (b := bA) (off := oA) rfl ((ev (Eq.refl _)).trans (by rw [HA.out])) aez HI.out.1) HSd ?_;refine aes 9 rfl (fun _ hw => ax rfl aez tT) HSd ?_;refine aes 10 rfl (fun _ hw => aE rfl aez (cv (k := x.N) ((HC0.out hw.1) 1 _ rfl))) HSd ?_;refine aes 11 rfl (fun _ hw => bf (c := c) rfl aez (br hw.2)) HSd ?_;refine aeM 13 rfl HSd ?_;refine aeM 14 rfl HSd ?_;refine aeM 15 rfl HSd ?_;refine aes 16 rfl (fun _ hw => cK (E := gK) (b := bA) (off := oA) rfl ((ev (Eq.refl _)).trans (by rw [HA.out])) aez HI.out.1) HSd ?_;refine aes 17 rfl (fun _ hw => ax rfl aez uG) HSd ?_;refine aes 18 rfl (fun _ hw => aE rfl aez (cv (k := x.D) ((HC0.out hw.1) 0 _ rfl))) HSd ?_;refine aeM 19 rfl HSd ?_;refine aeM 20 rfl HSd ?_;refine aes 21 rfl (fun _ hw => cK (E := gK) (b := bA) (off := oA) rfl ((ev (Eq.refl _)).trans (by rw [HA.out])) aez HI.out.1) HSd ?_;refine aes 22 rfl (fun _ hw => ax rfl aez tT) HSd ?_;refine aes 23 rfl (fun _ hw => aE rfl aez (cv (k := x.N) ((HC0.out hw.1) 1 _ rfl))) HSd ?_;refine aes 24 rfl (fun _ hw => bf (c := c) rfl aez (br hw.2)) HSd ?_;refine fx 12 rfl (by kernel_rfl) rfl (aC call9 rfl (evc aez (evc aez (evc aez (evc aez evn))))) ?_;refine (HAd.out.left fun F hF => C.R.write x.D x.N c (kZ HR2.out) hF).mono ?_;rintro e w5 ⟨rfl, a_, k_⟩;have HA5 := ae a_;have HX5 := ae ((k_ b13 rfl).trans HXd);have HS5 := ae (And.intro HA5.out.bel HX5);clear a_ k_;refine ⟨_, rfl, HS5, ?_⟩;simp only [aa];refine fx 25 rfl (by kernel_rfl) rfl (aC call10 rfl (evc aez (evc aez (evc aez (evc aez evn))))) ?_;refine (HA5.out.right fun F hF => bV.write x.D x.N c (kZ HR2.out) hF).mono ?_;rintro e w6 ⟨rfl, a_, k_⟩;have HA6 := ae a_;have HX6 := ae ((k_ b13 rfl).trans HX5);have HS6 := ae (And.intro HA6.out.bel HX6);clear a_ k_;refine ⟨_, rfl, HS6, ?_⟩;simp only [aa];refine aes 26 rfl (fun _ hw => aI false rfl aez aez (bne_self_eq_false _)) HS6 ?_;refine wpAnyH_done (by kernel_rfl) ?_ _;have HA7 := ae (HA6.out.guard (K' := fun _ => False) aj fun b e => e.elim);have HRN : Hid (Room (eg M x.D x.N c) (100 - (i + 1))) := ae (by rw [show 100 - (i + 1) = 99 - i by omega]; exact pF HR2 _ _ _);go_upto_region 6 with fail;refine aV 1 ?_;refine aep (bU rfl aez evk HIA) ?_;refine aK 1 ?_;go_wp2_with fail;go_roundw
   case rel => exact ⟨i + 1, _, by go_num, HI.out.1, HI.out.2, HA7, HRN⟩
   case measure => have := HI.out; simp [intOf]; omega
  have HR5 : Hid (Room M 50) := ae (by have := HI2.out; exact dA HR (by omega));obtain ⟨b1, hb1⟩ : ∃ b1, decide ((i : Int) < (nn : Int)) = b1 := ⟨_, rfl⟩;have HB1 := ae hb1;have HB2 : Hid (b1 = true -> decide ((i : Int) < 40) = false) := ae fun e => al fun h => hlt ⟨by have := of_decide_eq_true (hb1.trans e); omega, by omega⟩
  clear hlt hb1;cases b1
  ·have HLT1 : Hid (decide ((i : Int) < (nn : Int)) = false) := HB1;go_upto_region 5 with fail;refine aV 2 ?_;refine aep (lh underlying22 rfl aez) ?_;refine aep (bi false rfl aez aez HLT1) ?_;refine aG 2 rfl (aJ rfl aez) (by kernel_rfl) ?_;simp only [bc, ac, aa];refine aK 1 ?_;go_upto_region 10 with fail;refine cy 1 ?_;go_wp2_with fail
   go_loopw [14] (fun z wr => ∃ (j : Nat) (M : aR), z = .int .i64 j /\ j <= 8 /\ TwB C.R.toBen bV.toBen w w.heap.size (fun _ => False) wr p q M M /\ Room M 50) (fun z _ => 8 - (intOf z).toNat)
   case atStart => exact ⟨0, M, by go_num, Nat.zero_le _, HAr, HR5⟩
   case round =>
    clear HAr HR5;obtain ⟨j, M, rfl, hj, ha, hr⟩ := hrel;have HJL := ae hj;have HAj := ae ha;have HRj := ae hr;clear hj ha hr;by_cases hlt : j < 8
    ·have HJ := ae hlt;have HLT : Hid (decide ((j : Int) < 8) = true) := ae (am (by omega));have HIA : Hid (IntKind.i64.wrap ((j : Int) + 1) = ((j + 1 : Nat) : Int)) := ae (by rw [dx ⟨by omega, by omega⟩]; omega);have HU : Hid (IntKind.u64.wrap (j : Int) = (j : Int)) := ae (by rw [IntKind.wrap_u64]; exact Int.emod_eq_of_lt (by omega) (by omega));have HI16 : Hid (j <= 16) := ae (by omega);clear hlt;go_upto_region 11 with fail;refine aV 1 ?_;refine aep (bi true rfl aez evk HLT) ?_;refine ag ?_;cases hq : aas D j
     ·have HQ : Hid ((((D / 2 ^ j % 2 : Nat) : Int) == 1) = false) := ae (by rw [oX]; exact hq);clear hq;go_upto_region 13 with fail;refine aV 2 ?_;refine aep (kx rfl aez HU) ?_;refine aep (iH rfl aez aez HI16) ?_;refine aep (iq rfl aez evk (mu HD)) ?_;refine aep (aH false rfl aez evk HQ) ?_;refine ag ?_;go_upto_region 12 with fail;refine aV 1 ?_;refine aep (bU rfl aez evk HIA) ?_;refine aK 1 ?_;go_wp2_with fail;go_roundw
      case rel => exact ⟨j + 1, _, by go_num, HJ, HAj, HRj⟩
      case measure => have := HJ.out; simp [intOf]; omega
     have HQ : Hid ((((D / 2 ^ j % 2 : Nat) : Int) == 1) = true) := ae (by rw [oX]; exact hq);clear hq;go_upto_region 13 with fail;refine aV 2 ?_;refine aep (kx rfl aez HU) ?_;refine aep (iH rfl aez aez HI16) ?_;refine aep (iq rfl aez evk (mu HD)) ?_;refine aep (aH true rfl aez evk HQ) ?_;refine ag ?_;go_upto_region 14 with fail;refine aV 2 ?_;refine ay rfl (aC call11 rfl (evc aez (evc aez evn))) ?_;refine (HAj.out.left fun F hF => C.R.fail (j : Int) hF).mono ?_;rintro e w8 ⟨rfl, a_, _⟩;have HA8 := ae a_;clear a_;refine bm ?_;refine ag ?_;go_upto_region 15 with fail;refine aV 2 ?_;refine ay rfl (aC call12 rfl (evc aez (evc aez evn))) ?_;refine (HA8.out.right fun F hF => bV.fail (j : Int) hF).mono ?_;rintro e w9 ⟨rfl, a_, _⟩;have HA9 := ae a_;clear a_;refine bm ?_;refine ag ?_;go_upto_region 12 with fail;refine aV 1 ?_;refine aep (bU rfl aez evk HIA) ?_;refine aK 1 ?_;go_wp2_with fail;go_roundw
     case rel => exact ⟨j + 1, _, by go_num, HJ, HA9, uc HRj _⟩
     case measure => have := HJ.out; simp [intOf]; omega
    have hin : j = 8 := by have := HJL.out; omega
    subst hin;have HLT : Hid (decide (((8 : Nat) : Int) < 8) = false) := ae rfl;have HRA2 : Hid ((a : Int).tmod 4 = ((a % 4 : Nat) : Int)) := ae rfl;clear hlt;go_upto_region 11 with fail;refine aV 1 ?_;refine aep (bi false rfl aez evk HLT) ?_;refine ag ?_;go_upto_region 16 with fail;refine cy 1 ?_
    go_upto_if 95 with fail
    go_cut [8] (fun s8 wx => adi C w p q wx)
    case first =>
     cases dk
     ·go_wp2_with fail
      go_meet
      exact ⟨M, HAj⟩
     ·go_upto_region 17 with fail;refine aV 1 ?_;refine ay rfl (aC call13 rfl (evc aez (evc evk evn))) ?_;refine (HAj.out.left fun F hF => C.R.arm 1 hF).mono ?_;rintro e w8 ⟨rfl, a_, _⟩;have HA8 := ae a_;clear a_;refine bm ?_;refine ag ?_;go_upto_region 18 with fail;refine aV 1 ?_;refine ay rfl (aC call14 rfl (evc aez (evc evk evn))) ?_;refine (HA8.out.right fun F hF => bV.arm 1 hF).mono ?_;rintro e w9 ⟨rfl, a_, _⟩;have HA9 := ae a_;have HRN : Hid (Room (f8 M 1) 1) := ae (kZ (k := 49) (qB HRj.out));clear a_;refine bm ?_;refine ag ?_;go_upto_region 19 with fail;refine aV 2 ?_;refine aep (fw rfl aez evk (by decide) HRA) ?_;refine aep (i9 rfl aez HCA) ?_;refine ay rfl (aC call15 rfl (evc aez (evc aez evn))) ?_;refine (HA9.out.left fun F hF => C.R.flush ((a % 4 : Nat) : Int) HRN hF).mono ?_;rintro e w10 ⟨rfl, a_, _⟩;have HA10 := ae a_;clear a_;refine bm ?_;refine ag ?_;go_upto_region 20 with fail;refine aV 2 ?_;refine aep (fw rfl aez evk (by decide) HRA) ?_;refine aep (i9 rfl aez HCA) ?_;refine ay rfl (aC call16 rfl (evc aez (evc aez evn))) ?_;refine (HA10.out.right fun F hF => bV.flush ((a % 4 : Nat) : Int) HRN hF).mono ?_;rintro e w11 ⟨rfl, a_, _⟩;have HA11 := ae a_;clear a_;refine bm ?_;refine ag ?_;go_wp2_with fail
      go_meet
      exact ⟨_, HA11⟩
    case rest =>
     obtain ⟨Mf, ha⟩ := hcut;have HAc := ae ha;have hwf : Mf.ds.length <= 17 := by
      obtain ⟨_, _, f1, _⟩ := ha;exact (C.R.wf f1).cap
     obtain ⟨L, hLL⟩ : ∃ L, Mf.ds.length = L := ⟨_, rfl⟩;have HLL := ae hLL;have HL17 : Hid (L <= 17) := ae (hLL ▸ hwf);clear ha hwf hLL;go_upto_region 21 with fail;refine cy 1 ?_;go_wp2_with fail
     go_loopw [15] (fun z wr => ∃ j : Nat, z = .int .i64 ((j : Int) - 1) /\ j <= L + 2 /\ TwB C.R.toBen bV.toBen w w.heap.size (fun _ => False) wr p q Mf Mf) (fun z _ => L + 2 - (intOf z + 1).toNat)
     case atStart => exact ⟨0, by go_num, Nat.zero_le _, HAc⟩
     case round =>
      clear HAc;obtain ⟨j, rfl, hj, ha⟩ := hrel;have HJL := ae hj;have HAj := ae ha;clear hj ha;by_cases hlt : j < L + 2
      ·have HJ := ae hlt;have HLE : Hid (decide ((j : Int) - 1 <= (L : Int)) = true) := ae (am (by omega));obtain ⟨d, hd⟩ : ∃ d : Int, (j : Int) - 1 = d := ⟨_, rfl⟩;have HDJ := ae hd;rw [hd] at HLE ⊢;have HDR : Hid (-9223372036854775808 <= d /\ d <= 9223372036854775807) := ae (by have := HL17.out; omega);have HIA : Hid (IntKind.i64.wrap (d + 1) = ((j + 1 : Nat) : Int) - 1) := ae (by have := HL17.out; rw [dx ⟨by omega, by omega⟩]; omega);obtain ⟨y, hy⟩ : ∃ y, gaS Mf d = y := ⟨_, rfl⟩;obtain ⟨n, hn⟩ : ∃ n, gaN Mf d = n := ⟨_, rfl⟩;obtain ⟨u, hu⟩ : ∃ u, gaE Mf d = u := ⟨_, rfl⟩;have HY := ae hy;have HN := ae hn;have HU := ae hu;clear hlt hd hy hn hu;go_upto_region 22 with fail;refine aV 2 ?_;refine ay rfl (aC call17 rfl (evc aez evn)) ?_;refine (HAj.out.lZ fun F hF => bV.devices hF).mono ?_;rintro e w4 ⟨rfl, b_⟩;rw [HLL.out];have HA4 := ae (HAj.out.below b_);clear b_ HAj;refine bm ?_;refine aep (eS true rfl aez aez HLE) ?_;refine ag ?_;go_upto_region 24 with fail;refine aV 2 ?_;refine ay rfl (aC call18 rfl (evc aez (evc aez evn))) ?_;refine (HA4.out.sup I d HN HY HU).mono ?_;rintro e w5 ⟨rfl, b_⟩;have HA5 := ae (HA4.out.below b_);clear b_ HA4;refine bm ?_;refine runs 3 ?_;refine runs 1 ?_;refine aep (aW rfl) ?_;refine runs 1 ?_;refine az rfl (bW (c := y) rfl (ev rfl) (ev rfl)) ?_;simp only [aa];have hx := (Below.refl w5.heap.size w5).alloc ai (.cells (aN y).toArray 37);have HS6 := ae (bJ.new w5 y);have HA6 := ae (HA5.out.below hx);obtain ⟨b17, hb17⟩ : ∃ b, w5.heap.size = b := ⟨_, rfl⟩;rw [hb17] at HS6 ⊢;clear hx hb17 HA5;generalize w5.alloc (.cells (aN y).toArray 37) = w6 at *;refine aK 1 ?_;go_upto_region 25 with fail;refine aV 2 ?_;refine ay rfl (aC call19 rfl (evc aez (evc aez evn))) ?_;refine (HA6.out.lZ fun F hF => jv d HDR hF).mono ?_;rintro e w7 ⟨rfl, b_⟩;rw [HY.out, HN.out, HU.out];have HA7 := ae (HA6.out.below b_);have HS7 : Hid (bJ w7 b17 y) := ae (aB HS6 b_);clear b_ HA6 HS6;refine bm ?_;refine runs 3 ?_;refine runs 1 ?_;refine aep (aW rfl) ?_;refine runs 1 ?_;refine az rfl (bW (c := y) rfl (ev rfl) (ev rfl)) ?_;simp only [aa];have hx := (Below.refl w7.heap.size w7).alloc ai (.cells (aN y).toArray 37);have HQ8 := ae (bJ.new w7 y);have HA8 := ae (HA7.out.below hx);have HS8 : Hid (bJ (w7.alloc (.cells (aN y).toArray 37)) b17 y) := ae (aB HS7 hx);obtain ⟨b20, hb20⟩ : ∃ b, w7.heap.size = b := ⟨_, rfl⟩;rw [hb20] at HQ8 ⊢;clear hx hb20 HA7 HS7;generalize w7.alloc (.cells (aN y).toArray 37) = w8 at *;refine aK 1 ?_;go_upto_region 26 with fail;refine aV 2 ?_;refine aep (aI false rfl aez aez (bne_self_eq_false _)) ?_;refine runs 1 ?_;refine aew (bz (c := y) rfl aez (br HS8)) ?_;refine aew (bz (c := y) rfl aez (br HQ8)) ?_;refine aew (rl true rfl aez aez (am rfl)) ?_;refine runs 3 ?_;refine runs 1 ?_;refine aew (aI false rfl aez aez (bne_self_eq_false _)) ?_;refine aK 1 ?_;go_upto_region 23 with fail;refine aV 1 ?_;refine aep (bU rfl aez evk HIA) ?_;refine aK 1 ?_;go_wp2_with fail;go_roundw
       case rel => exact ⟨j + 1, by go_num, HJ, HA8⟩
       case measure => have := HJ.out; have := HDJ.out; simp [intOf]; omega
      have HLE : Hid (decide ((j : Int) - 1 <= (L : Int)) = false) := ae (al (by omega));obtain ⟨le, hle⟩ : ∃ le, glE Mf = le := ⟨_, rfl⟩;obtain ⟨lf, hlf⟩ : ∃ lf, glF Mf = lf := ⟨_, rfl⟩;have HGE := ae hle;have HGF := ae hlf;clear hlt hle hlf;go_upto_region 22 with fail;refine aV 2 ?_;refine ay rfl (aC call17 rfl (evc aez evn)) ?_;refine (HAj.out.lZ fun F hF => bV.devices hF).mono ?_;rintro e w4 ⟨rfl, b_⟩;rw [HLL.out];have HA4 := ae (HAj.out.below b_);clear b_ HAj;refine bm ?_;refine aep (eS false rfl aez aez HLE) ?_;refine ag ?_;go_upto_region 28 with fail;refine aV 1 ?_;refine ay rfl (aC call20 rfl (evc aez evn)) ?_;refine (HA4.out.gat I HGF HGE).mono ?_;rintro e w5 ⟨rfl, b_⟩;have HA5 := ae (HA4.out.below b_);clear b_ HA4;refine bm ?_;refine runs 3 ?_;refine aep (cW rfl) ?_;refine az rfl (dO (c := lf) rfl (ev rfl) (ev rfl)) ?_;simp only [aa];have hx := (Below.refl w5.heap.size w5).alloc ai (.cells (bu lf).toArray 50);have HP6 : Hid (ci _ _ lf) := ae (heap_alloc_new w5 (.cells (bu lf).toArray 50));have HA6 := ae (HA5.out.below hx);obtain ⟨b22, hb22⟩ : ∃ b, w5.heap.size = b := ⟨_, rfl⟩;rw [hb22] at HP6 ⊢;clear hx hb22 HA5;generalize w5.alloc (.cells (bu lf).toArray 50) = w6 at *;refine aK 1 ?_;go_upto_region 29 with fail;refine aV 1 ?_;refine ay rfl (aC call21 rfl (evc aez evn)) ?_;refine (HA6.out.lZ fun F hF => qT hF).mono ?_;rintro e w7 ⟨rfl, b_⟩;rw [HGF.out, HGE.out];have HA7 := ae (HA6.out.below b_);have HP7 : Hid (ci w7 b22 lf) := ae (aB HP6 b_);clear b_ HA6 HP6;refine bm ?_;refine runs 3 ?_;refine aep (cW rfl) ?_;refine az rfl (dO (c := lf) rfl (ev rfl) (ev rfl)) ?_;simp only [aa];have hx := (Below.refl w7.heap.size w7).alloc ai (.cells (bu lf).toArray 50);have HQ8 : Hid (ci _ _ lf) := ae (heap_alloc_new w7 (.cells (bu lf).toArray 50));have HA8 := ae (HA7.out.below hx);have HP8 : Hid (ci (w7.alloc (.cells (bu lf).toArray 50)) b22 lf) := ae (aB HP7 hx);obtain ⟨b24, hb24⟩ : ∃ b, w7.heap.size = b := ⟨_, rfl⟩;rw [hb24] at HQ8 ⊢;clear hx hb24 HA7 HP7;generalize w7.alloc (.cells (bu lf).toArray 50) = w8 at *;refine aK 1 ?_;go_upto_region 30 with fail;refine af ?_;refine aep (dP (c := lf) rfl aez (br HP8)) ?_;refine aep (dP (c := lf) rfl aez (br HQ8)) ?_;refine ay rfl (aC call22 rfl (evc aez (evc aez evn))) ?_;refine (n9 lf w8).mono ?_;rintro e w9 ⟨rfl, b_⟩;have HA9 := ae (HA8.out.below b_);clear b_ HA8;refine bm ?_;refine runs 3 ?_;refine aew (aH true rfl aez aez (beq_self_eq_true _)) ?_;refine runs 2 ?_;refine ay aek (aC call23 rfl evn) ?_;refine (ub C I w9 HA9.out.tab).mono ?_;rintro e wz ⟨rfl, b_⟩;have HZ := ae (HA9.out.bel.trans (b_.mono HA9.out.bel.size));clear b_;refine bm ?_;refine aK 2 ?_;go_wp2_with fail;go_ret;exact ⟨rfl, HZ⟩
  ·have HLT1 : Hid (decide ((i : Int) < (nn : Int)) = true) := HB1;have HLT2 : Hid (decide ((i : Int) < 40) = false) := ae (HB2.out rfl);go_upto_region 5 with fail;refine aV 2 ?_;refine aep (lh underlying22 rfl aez) ?_;refine aep (bi true rfl aez aez HLT1) ?_;refine runs 2 ?_;refine aew (bi false rfl aez evk HLT2) ?_;refine aK 1 ?_;go_upto_region 10 with fail;refine cy 1 ?_;go_wp2_with fail
   go_loopw [14] (fun z wr => ∃ (j : Nat) (M : aR), z = .int .i64 j /\ j <= 8 /\ TwB C.R.toBen bV.toBen w w.heap.size (fun _ => False) wr p q M M /\ Room M 50) (fun z _ => 8 - (intOf z).toNat)
   case atStart => exact ⟨0, M, by go_num, Nat.zero_le _, HAr, HR5⟩
   case round =>
    clear HAr HR5;obtain ⟨j, M, rfl, hj, ha, hr⟩ := hrel;have HJL := ae hj;have HAj := ae ha;have HRj := ae hr;clear hj ha hr;by_cases hlt : j < 8
    ·have HJ := ae hlt;have HLT : Hid (decide ((j : Int) < 8) = true) := ae (am (by omega));have HIA : Hid (IntKind.i64.wrap ((j : Int) + 1) = ((j + 1 : Nat) : Int)) := ae (by rw [dx ⟨by omega, by omega⟩]; omega);have HU : Hid (IntKind.u64.wrap (j : Int) = (j : Int)) := ae (by rw [IntKind.wrap_u64]; exact Int.emod_eq_of_lt (by omega) (by omega));have HI16 : Hid (j <= 16) := ae (by omega);clear hlt;go_upto_region 11 with fail;refine aV 1 ?_;refine aep (bi true rfl aez evk HLT) ?_;refine ag ?_;cases hq : aas D j
     ·have HQ : Hid ((((D / 2 ^ j % 2 : Nat) : Int) == 1) = false) := ae (by rw [oX]; exact hq);clear hq;go_upto_region 13 with fail;refine aV 2 ?_;refine aep (kx rfl aez HU) ?_;refine aep (iH rfl aez aez HI16) ?_;refine aep (iq rfl aez evk (mu HD)) ?_;refine aep (aH false rfl aez evk HQ) ?_;refine ag ?_;go_upto_region 12 with fail;refine aV 1 ?_;refine aep (bU rfl aez evk HIA) ?_;refine aK 1 ?_;go_wp2_with fail;go_roundw
      case rel => exact ⟨j + 1, _, by go_num, HJ, HAj, HRj⟩
      case measure => have := HJ.out; simp [intOf]; omega
     have HQ : Hid ((((D / 2 ^ j % 2 : Nat) : Int) == 1) = true) := ae (by rw [oX]; exact hq);clear hq;go_upto_region 13 with fail;refine aV 2 ?_;refine aep (kx rfl aez HU) ?_;refine aep (iH rfl aez aez HI16) ?_;refine aep (iq rfl aez evk (mu HD)) ?_;refine aep (aH true rfl aez evk HQ) ?_;refine ag ?_;go_upto_region 14 with fail;refine aV 2 ?_;refine ay rfl (aC call11 rfl (evc aez (evc aez evn))) ?_;refine (HAj.out.left fun F hF => C.R.fail (j : Int) hF).mono ?_;rintro e w8 ⟨rfl, a_, _⟩;have HA8 := ae a_;clear a_;refine bm ?_;refine ag ?_;go_upto_region 15 with fail;refine aV 2 ?_;refine ay rfl (aC call12 rfl (evc aez (evc aez evn))) ?_;refine (HA8.out.right fun F hF => bV.fail (j : Int) hF).mono ?_;rintro e w9 ⟨rfl, a_, _⟩;have HA9 := ae a_;clear a_;refine bm ?_;refine ag ?_;go_upto_region 12 with fail;refine aV 1 ?_;refine aep (bU rfl aez evk HIA) ?_;refine aK 1 ?_;go_wp2_with fail;go_roundw
     case rel => exact ⟨j + 1, _, by go_num, HJ, HA9, uc HRj _⟩
     case measure => have := HJ.out; simp [intOf]; omega
    have hin : j = 8 := by have := HJL.out; omega
    subst hin;have HLT : Hid (decide (((8 : Nat) : Int) < 8) = false) := ae rfl;have HRA2 : Hid ((a : Int).tmod 4 = ((a % 4 : Nat) : Int)) := ae rfl;clear hlt;go_upto_region 11 with fail;refine aV 1 ?_;refine aep (bi false rfl aez evk HLT) ?_;refine ag ?_;go_upto_region 16 with fail;refine cy 1 ?_
    go_upto_if 95 with fail
    go_cut [8] (fun s8 wx => adi C w p q wx)
    case first =>
     cases dk
     ·go_wp2_with fail
      go_meet
      exact ⟨M, HAj⟩
     ·go_upto_region 17 with fail;refine aV 1 ?_;refine ay rfl (aC call13 rfl (evc aez (evc evk evn))) ?_;refine (HAj.out.left fun F hF => C.R.arm 1 hF).mono ?_;rintro e w8 ⟨rfl, a_, _⟩;have HA8 := ae a_;clear a_;refine bm ?_;refine ag ?_;go_upto_region 18 with fail;refine aV 1 ?_;refine ay rfl (aC call14 rfl (evc aez (evc evk evn))) ?_;refine (HA8.out.right fun F hF => bV.arm 1 hF).mono ?_;rintro e w9 ⟨rfl, a_, _⟩;have HA9 := ae a_;have HRN : Hid (Room (f8 M 1) 1) := ae (kZ (k := 49) (qB HRj.out));clear a_;refine bm ?_;refine ag ?_;go_upto_region 19 with fail;refine aV 2 ?_;refine aep (fw rfl aez evk (by decide) HRA) ?_;refine aep (i9 rfl aez HCA) ?_;refine ay rfl (aC call15 rfl (evc aez (evc aez evn))) ?_;refine (HA9.out.left fun F hF => C.R.flush ((a % 4 : Nat) : Int) HRN hF).mono ?_;rintro e w10 ⟨rfl, a_, _⟩;have HA10 := ae a_;clear a_;refine bm ?_;refine ag ?_;go_upto_region 20 with fail;refine aV 2 ?_;refine aep (fw rfl aez evk (by decide) HRA) ?_;refine aep (i9 rfl aez HCA) ?_;refine ay rfl (aC call16 rfl (evc aez (evc aez evn))) ?_;refine (HA10.out.right fun F hF => bV.flush ((a % 4 : Nat) : Int) HRN hF).mono ?_;rintro e w11 ⟨rfl, a_, _⟩;have HA11 := ae a_;clear a_;refine bm ?_;refine ag ?_;go_wp2_with fail
      go_meet
      exact ⟨_, HA11⟩
    case rest =>
     obtain ⟨Mf, ha⟩ := hcut;have HAc := ae ha;have hwf : Mf.ds.length <= 17 := by
      obtain ⟨_, _, f1, _⟩ := ha;exact (C.R.wf f1).cap
     obtain ⟨L, hLL⟩ : ∃ L, Mf.ds.length = L := ⟨_, rfl⟩;have HLL := ae hLL;have HL17 : Hid (L <= 17) := ae (hLL ▸ hwf);clear ha hwf hLL;go_upto_region 21 with fail;refine cy 1 ?_;go_wp2_with fail
     go_loopw [15] (fun z wr => ∃ j : Nat, z = .int .i64 ((j : Int) - 1) /\ j <= L + 2 /\ TwB C.R.toBen bV.toBen w w.heap.size (fun _ => False) wr p q Mf Mf) (fun z _ => L + 2 - (intOf z + 1).toNat)
     case atStart => exact ⟨0, by go_num, Nat.zero_le _, HAc⟩
     case round =>
      clear HAc;obtain ⟨j, rfl, hj, ha⟩ := hrel;have HJL := ae hj;have HAj := ae ha;clear hj ha;by_cases hlt : j < L + 2
      ·have HJ := ae hlt;have HLE : Hid (decide ((j : Int) - 1 <= (L : Int)) = true) := ae (am (by omega));obtain ⟨d, hd⟩ : ∃ d : Int, (j : Int) - 1 = d := ⟨_, rfl⟩;have HDJ := ae hd;rw [hd] at HLE ⊢;have HDR : Hid (-9223372036854775808 <= d /\ d <= 9223372036854775807) := ae (by have := HL17.out; omega);have HIA : Hid (IntKind.i64.wrap (d + 1) = ((j + 1 : Nat) : Int) - 1) := ae (by have := HL17.out; rw [dx ⟨by omega, by omega⟩]; omega);obtain ⟨y, hy⟩ : ∃ y, gaS Mf d = y := ⟨_, rfl⟩;obtain ⟨n, hn⟩ : ∃ n, gaN Mf d = n := ⟨_, rfl⟩;obtain ⟨u, hu⟩ : ∃ u, gaE Mf d = u := ⟨_, rfl⟩;have HY := ae hy;have HN := ae hn;have HU := ae hu;clear hlt hd hy hn hu;go_upto_region 22 with fail;refine aV 2 ?_;refine ay rfl (aC call17 rfl (evc aez evn)) ?_;refine (HAj.out.lZ fun F hF => bV.devices hF).mono ?_;rintro e w4 ⟨rfl, b_⟩;rw [HLL.out];have HA4 := ae (HAj.out.below b_);clear b_ HAj;refine bm ?_;refine aep (eS true rfl aez aez HLE) ?_;refine ag ?_;go_upto_region 24 with fail;refine aV 2 ?_;refine ay rfl (aC call18 rfl (evc aez (evc aez evn))) ?_;refine (HA4.out.sup I d HN HY HU).mono ?_;rintro e w5 ⟨rfl, b_⟩;have HA5 := ae (HA4.out.below b_);clear b_ HA4;refine bm ?_;refine runs 3 ?_;refine runs 1 ?_;refine aep (aW rfl) ?_;refine runs 1 ?_;refine az rfl (bW (c := y) rfl (ev rfl) (ev rfl)) ?_;simp only [aa];have hx := (Below.refl w5.heap.size w5).alloc ai (.cells (aN y).toArray 37);have HS6 := ae (bJ.new w5 y);have HA6 := ae (HA5.out.below hx);obtain ⟨b17, hb17⟩ : ∃ b, w5.heap.size = b := ⟨_, rfl⟩;rw [hb17] at HS6 ⊢;clear hx hb17 HA5;generalize w5.alloc (.cells (aN y).toArray 37) = w6 at *;refine aK 1 ?_;go_upto_region 25 with fail;refine aV 2 ?_;refine ay rfl (aC call19 rfl (evc aez (evc aez evn))) ?_;refine (HA6.out.lZ fun F hF => jv d HDR hF).mono ?_;rintro e w7 ⟨rfl, b_⟩;rw [HY.out, HN.out, HU.out];have HA7 := ae (HA6.out.below b_);have HS7 : Hid (bJ w7 b17 y) := ae (aB HS6 b_);clear b_ HA6 HS6;refine bm ?_;refine runs 3 ?_;refine runs 1 ?_;refine aep (aW rfl) ?_;refine runs 1 ?_;refine az rfl (bW (c := y) rfl (ev rfl) (ev rfl)) ?_;simp only [aa];have hx := (Below.refl w7.heap.size w7).alloc ai (.cells (aN y).toArray 37);have HQ8 := ae (bJ.new w7 y);have HA8 := ae (HA7.out.below hx);have HS8 : Hid (bJ (w7.alloc (.cells (aN y).toArray 37)) b17 y) := ae (aB HS7 hx);obtain ⟨b20, hb20⟩ : ∃ b, w7.heap.size = b := ⟨_, rfl⟩;rw [hb20] at HQ8 ⊢;clear hx hb20 HA7 HS7;generalize w7.alloc (.cells (aN y).toArray 37) = w8 at *;refine aK 1 ?_;go_upto_region 26 with fail;refine aV 2 ?_;refine aep (aI false rfl aez aez (bne_self_eq_false _)) ?_;refine runs 1 ?_;refine aew (bz (c := y) rfl aez (br HS8)) ?_;refine aew (bz (c := y) rfl aez (br HQ8)) ?_;refine aew (rl true rfl aez aez (am rfl)) ?_;refine runs 3 ?_;refine runs 1 ?_;refine aew (aI false rfl aez aez (bne_self_eq_false _)) ?_;refine aK 1 ?_;go_upto_region 23 with fail;refine aV 1 ?_;refine aep (bU rfl aez evk HIA) ?_;refine aK 1 ?_;go_wp2_with fail;go_roundw
       case rel => exact ⟨j + 1, by go_num, HJ, HA8⟩
       case measure => have := HJ.out; have := HDJ.out; simp [intOf]; omega
      have HLE : Hid (decide ((j : Int) - 1 <= (L : Int)) = false) := ae (al (by omega));obtain ⟨le, hle⟩ : ∃ le, glE Mf = le := ⟨_, rfl⟩;obtain ⟨lf, hlf⟩ : ∃ lf, glF Mf = lf := ⟨_, rfl⟩;have HGE := ae hle;have HGF := ae hlf;clear hlt hle hlf;go_upto_region 22 with fail;refine aV 2 ?_;refine ay rfl (aC call17 rfl (evc aez evn)) ?_;refine (HAj.out.lZ fun F hF => bV.devices hF).mono ?_;rintro e w4 ⟨rfl, b_⟩;rw [HLL.out];have HA4 := ae (HAj.out.below b_);clear b_ HAj;refine bm ?_;refine aep (eS false rfl aez aez HLE) ?_;refine ag ?_;go_upto_region 28 with fail;refine aV 1 ?_;refine ay rfl (aC call20 rfl (evc aez evn)) ?_;refine (HA4.out.gat I HGF HGE).mono ?_;rintro e w5 ⟨rfl, b_⟩;have HA5 := ae (HA4.out.below b_);clear b_ HA4;refine bm ?_;refine runs 3 ?_;refine aep (cW rfl) ?_;refine az rfl (dO (c := lf) rfl (ev rfl) (ev rfl)) ?_;simp only [aa];have hx := (Below.refl w5.heap.size w5).alloc ai (.cells (bu lf).toArray 50);have HP6 : Hid (ci _ _ lf) := ae (heap_alloc_new w5 (.cells (bu lf).toArray 50));have HA6 := ae (HA5.out.below hx);obtain ⟨b22, hb22⟩ : ∃ b, w5.heap.size = b := ⟨_, rfl⟩;rw [hb22] at HP6 ⊢;clear hx hb22 HA5;generalize w5.alloc (.cells (bu lf).toArray 50) = w6 at *;refine aK 1 ?_;go_upto_region 29 with fail;refine aV 1 ?_;refine ay rfl (aC call21 rfl (evc aez evn)) ?_;refine (HA6.out.lZ fun F hF => qT hF).mono ?_;rintro e w7 ⟨rfl, b_⟩;rw [HGF.out, HGE.out];have HA7 := ae (HA6.out.below b_);have HP7 : Hid (ci w7 b22 lf) := ae (aB HP6 b_);clear b_ HA6 HP6;refine bm ?_;refine runs 3 ?_;refine aep (cW rfl) ?_;refine az rfl (dO (c := lf) rfl (ev rfl) (ev rfl)) ?_;simp only [aa];have hx := (Below.refl w7.heap.size w7).alloc ai (.cells (bu lf).toArray 50);have HQ8 : Hid (ci _ _ lf) := ae (heap_alloc_new w7 (.cells (bu lf).toArray 50));have HA8 := ae (HA7.out.below hx);have HP8 : Hid (ci (w7.alloc (.cells (bu lf).toArray 50)) b22 lf) := ae (aB HP7 hx);obtain ⟨b24, hb24⟩ : ∃ b, w7.heap.size = b := ⟨_, rfl⟩;rw [hb24] at HQ8 ⊢;clear hx hb24 HA7 HP7;generalize w7.alloc (.cells (bu lf).toArray 50) = w8 at *;refine aK 1 ?_;go_upto_region 30 with fail;refine af ?_;refine aep (dP (c := lf) rfl aez (br HP8)) ?_;refine aep (dP (c := lf) rfl aez (br HQ8)) ?_;refine ay rfl (aC call22 rfl (evc aez (evc aez evn))) ?_;refine (n9 lf w8).mono ?_;rintro e w9 ⟨rfl, b_⟩;have HA9 := ae (HA8.out.below b_);clear b_ HA8;refine bm ?_;refine runs 3 ?_;refine aew (aH true rfl aez aez (beq_self_eq_true _)) ?_;refine runs 2 ?_;refine ay aek (aC call23 rfl evn) ?_;refine (ub C I w9 HA9.out.tab).mono ?_;rintro e wz ⟨rfl, b_⟩;have HZ := ae (HA9.out.bel.trans (b_.mono HA9.out.bel.size));clear b_;refine bm ?_;refine aK 2 ?_;go_wp2_with fail;go_ret;exact ⟨rfl, HZ⟩
structure Tld where
 ev : Nat
 S : Sup
def bh : Tld := ⟨0, aT⟩
def j5 (M : aR) (d : Int) : Tld := ⟨gaN M d, gaS M d⟩
def me (M : aR) (k : Nat) : List Tld := (List.range k).map fun (j : Nat) => j5 M (j : Int)
section
variable {M : aR} {k j : Nat} {f : Fnd}
theorem fd : (me M k).length = k := by simp [me]
theorem gy (h : j < k) : (me M k).getD j bh = j5 M (j : Int) := by simp [me, List.getD, h]
theorem uP : me M (k + 1) = me M k ++ [j5 M (k : Int)] := by simp [me, List.range_succ]
theorem pC (h : gaE M (j : Int) = 0) : 1 <= gaN M (j : Int) := (pD h).1.1
theorem pQ (h : gaE M (j : Int) ≠ 0) : gaN M (j : Int) = 0 := (lP h).1
theorem zK : gaE M (j : Int) = 0 ↔ gaN M (j : Int) ≠ 0 := ⟨fun h => by have := pC h; omega, fun h => Decidable.byContradiction fun e => h (pQ e)⟩
theorem tB (M : aR) : ∀ k : Nat, (gaK M k = none /\ ∀ i, i < k -> gaN M (i : Int) = 0) \/ (∃ j, j < k /\ gaK M k = some (gaP M (j : Int)) /\ gaE M (j : Int) = 0 /\ (∀ i, i < j -> gaN M (i : Int) < gaN M (j : Int)) /\ ∀ i, i < k -> gaN M (i : Int) <= gaN M (j : Int))
 |0 => .inl ⟨rfl, fun i hi => absurd hi (by omega)⟩
 |k + 1 => by
  by_cases he : gaE M (k : Int) = 0
  ·have hp := pC he;rcases tB M k with ⟨e1, e2⟩ | ⟨j, e1, e2, e3, e4, e5⟩
   ·refine .inr ⟨k, by omega, by rw [gaK, e1, if_pos ⟨he, rfl⟩], he, fun i hi => by rw [e2 i hi]; omega, fun i hi => ?_⟩;by_cases x : i = k
    ·subst x; omega
    ·rw [e2 i (by omega)]; omega
   ·by_cases hl : gaN M (j : Int) < gaN M (k : Int)
    ·refine .inr ⟨k, by omega, by rw [gaK, e2, if_pos ⟨he, am hl⟩], he, fun i hi => by have := e5 i hi; omega, fun i hi => ?_⟩;by_cases x : i = k
     ·subst x; omega
     ·have := e5 i (by omega); omega
    ·refine .inr ⟨j, by omega, by rw [gaK, e2, if_neg (fun x => hl (of_decide_eq_true x.2))], e3, e4, fun i hi => ?_⟩;by_cases x : i = k
     ·subst x; omega
     ·exact e5 i (by omega)
  ·have hz := pQ he;have hk : gaK M (k + 1) = gaK M k := by rw [gaK, if_neg (fun x => he x.1)]
   rcases tB M k with ⟨e1, e2⟩ | ⟨j, e1, e2, e3, e4, e5⟩
   ·refine .inl ⟨hk.trans e1, fun i hi => ?_⟩;by_cases x : i = k
    ·subst x; exact hz
    ·exact e2 i (by omega)
   ·refine .inr ⟨j, by omega, hk.trans e2, e3, e4, fun i hi => ?_⟩;by_cases x : i = k
    ·subst x; omega
    ·exact e5 i (by omega)
def ada (l : List Tld) (j : Nat) : Prop := j < l.length /\ (∀ i, i < j -> (l.getD i bh).ev < (l.getD j bh).ev) /\ ∀ i, i < l.length -> (l.getD i bh).ev <= (l.getD j bh).ev
theorem yX (M : aR) (k : Nat) : (k = 0 /\ gaK M k = none) \/ ∃ j, ada (me M k) j /\ j < k /\ ((gaN M (j : Int) = 0 /\ gaK M k = none) \/ (gaN M (j : Int) ≠ 0 /\ gaE M (j : Int) = 0 /\ gaK M k = some (gaP M (j : Int)))) := by
 rcases tB M k with ⟨e1, e2⟩ | ⟨j, e1, e2, e3, e4, e5⟩
 ·by_cases h : k = 0
  ·exact .inl ⟨h, e1⟩
  ·refine .inr ⟨0, ⟨by rw [fd]; omega, fun i hi => absurd hi (by omega), fun i hi => ?_⟩, by omega, .inl ⟨e2 0 (by omega), e1⟩⟩;rw [fd] at hi;rw [gy hi, gy (by omega)]
   show gaN M _ <= gaN M _
   rw [e2 i hi];exact Nat.zero_le _
 ·refine .inr ⟨j, ⟨by rw [fd]; exact e1, fun i hi => ?_, fun i hi => ?_⟩, e1, .inr ⟨by have := pC e3; omega, e3, e2⟩⟩
  ·rw [gy (by omega), gy e1];exact e4 i hi
  ·rw [fd] at hi;rw [gy hi, gy e1];exact e5 i hi
def tlW (t : Tld) (j : Nat) (id : Nat) (R : Ros) : Bool := decide (t.ev ≠ 0) && (decide (t.S.id = id) && (decide (t.S.self = (j : Int)) && g7 t.S.ros R))
theorem acP (hf : bn f.R = true) (k : Nat) : tlW (j5 M (j : Int)) j f.id (gaL M f k) = gaW M f j := by
 obtain ⟨_, h2, h3, h4⟩ := mQ (M := M) hf k;have hg : g7 (gaS M (j : Int)).ros (gaL M f k) = g7 (gaS M (j : Int)).ros f.R := by unfold g7; rw [h2, h3, h4]
 have he : decide (gaN M (j : Int) ≠ 0) = decide (gaE M (j : Int) = 0) := by rw [decide_eq_decide]; exact zK.symm
 unfold tlW gaW j5;dsimp only;rw [hg, he];cases decide (gaE M (j : Int) = 0) <;> cases decide ((gaS M (j : Int)).self = (j : Int)) <;> cases decide ((gaS M (j : Int)).id = f.id) <;> rfl
end
def may (m s r : Int) : Bool := decide (3 <= m /\ m <= 16 /\ 1 <= s /\ s <= 64 /\ 40 <= r /\ r <= 256)
def has (s t : Int) : Bool := decide (0 <= t /\ t < s)
theorem mf {s t : Int} : has s t = true ↔ (0 <= t /\ t < s) := by unfold has; rw [decide_eq_true_iff]
def par (M T : Nat) : Nat := M - 1 - T % M
def wT (t : Int) : Int := if has 64 t = true then 2 + t else 0
def wt (t : Int) : Int := if has 64 t = true then 0 else 12
theorem lQ (t : Int) (w : World) : Calls prog 93 #[.int .i64 t] w fun e w' => e = .returned (.tuple #[.int .i64 (wT t), .int .i64 (wt t)]) /\ Below w.heap.size w w' := by
 go_enter func93, ntmps93;go_wp2
 all_goals
  go_ret2;refine ⟨rv ?_ ?_, aj⟩
  all_goals
   first
   |unfold wT
   |unfold wt
   first
   |rw [if_pos (mf.2 (by omega))]
   |rw [if_neg (by rw [mf]; omega)]
theorem aax (a b : Blk) (k : Nat) (w : World) (T : Tab w) (h : ma a b = k) : Calls prog 114 #[blk a, blk b] w fun e w' => e = .returned (.int .i64 (k : Nat)) /\ Below w.heap.size w w' := by
 subst h;exact ac4 a b w T
structure HpS where
 id : Nat
 ev : Nat
 us : Nat
 R : Ros
def phC (qa : Option Addr) (x : HpS) : List Value := .pointer qa :: .int .u64 (x.id : Int) :: .int .u64 (x.ev : Int) :: (aS x.R ++ [.int .u64 (x.us : Int)])
theorem aaX (qa : Option Addr) (x : HpS) : (phC qa x).length = 25 := by simp [phC, a9]
def PHo (w : World) (p : Nat) (qa : Option Addr) (x : HpS) : Prop := w.heap[p]? = some (.cells (phC qa x).toArray 112 (0, 0))
abbrev PHu (w : World) (p q : Nat) (x : HpS) : Prop := PHo w p (some ⟨q, 0, none⟩) x
section
variable {w w' : World} {p : Nat} {qa : Option Addr} {x : HpS} {G : Nat -> Prop}
theorem PHo.only (h : PHo w p qa x) (ho : Only G w w') (hn : ¬ G p) : PHo w' p qa x := ho.keep h hn
theorem PHo.below (h : PHo w p qa x) (hb : Below w.heap.size w w') : PHo w' p qa x := aB h hb
theorem PHo.lt (h : PHo w p qa x) : p < w.heap.size := aY h
theorem PHo.c0 (h : PHo w p qa x) : w.cell? ⟨p, 0, none⟩ = some (.pointer qa) := (br h) 0 _ rfl
theorem PHo.c1 (h : PHo w p qa x) : w.cell? ⟨p, 1, none⟩ = some (.int .u64 (x.id : Int)) := (br h) 1 _ rfl
theorem PHo.c2 (h : PHo w p qa x) : w.cell? ⟨p, 2, none⟩ = some (.int .u64 (x.ev : Int)) := (br h) 2 _ rfl
theorem PHo.c24 (h : PHo w p qa x) : w.cell? ⟨p, 24, none⟩ = some (.int .u64 (x.us : Int)) := (br h) 24 _ (by
 show (aS x.R ++ [_])[21]? = _
 rw [List.getElem?_append_right (by rw [a9]; exact ai), a9]; rfl)
theorem PHo.ros (h : PHo w p qa x) : w.rangeAt p 3 (aS x.R) := by
 have := ei (k := 3) (ds := [.pointer qa, .int .u64 (x.id : Int), .int .u64 (x.ev : Int)]) (es := aS x.R) (fs := [.int .u64 (x.us : Int)]) (br h) (by simp [phC]) rfl;rwa [Nat.zero_add] at this
theorem PHo.x7 (h : PHo w p qa x) (j : Nat) : w.frozen? ⟨p, j, none⟩ = false := frozen_of_row w p j _ _ h
theorem PHo.there (h : PHo w p qa x) {o n : Nat} (hn : o + n <= 25) : w.there p o n := aP h (by rw [aaX]; exact hn)
theorem qH : (Instr.fieldAt 112 (.pointer (some ⟨p, 0, none⟩)) 0).run prog w = .ok (.pointer (some ⟨p, 0, none⟩)) w := by kernel_rfl
theorem adp : (Instr.fieldAt 112 (.pointer (some ⟨p, 0, none⟩)) 1).run prog w = .ok (.pointer (some ⟨p, 1, none⟩)) w := by kernel_rfl
theorem abv : (Instr.fieldAt 112 (.pointer (some ⟨p, 0, none⟩)) 2).run prog w = .ok (.pointer (some ⟨p, 2, none⟩)) w := by kernel_rfl
theorem yO : (Instr.fieldAt 112 (.pointer (some ⟨p, 0, none⟩)) 3).run prog w = .ok (.pointer (some ⟨p, 3, none⟩)) w := by kernel_rfl
theorem yp : (Instr.fieldAt 112 (.pointer (some ⟨p, 0, none⟩)) 4).run prog w = .ok (.pointer (some ⟨p, 24, none⟩)) w := by kernel_rfl
theorem xm {ad : Addr} {a : Option Addr} (h : w.cell? ad = some (.pointer a)) : (Instr.loadAt 24 (.pointer (some ad))).run prog w = .ok (.pointer a) w := by simp [go_sem, h]
theorem wK {ad : Addr} {a : Option Addr} (h : w.cell? ad = some (.pointer a)) : (Instr.loadAt 62 (.pointer (some ad))).run prog w = .ok (.pointer a) w := by simp [go_sem, h]
theorem PHo.set {y : HpS} (h : PHo w p qa x) {j : Nat} {u : Value} (hy : (phC qa x).set j u = phC qa y) : PHo (w.setCell ⟨p, j, none⟩ u) p qa y := by
 have := heap_setCell_same w p j _ 112 u h;rw [List.setIfInBounds_toArray, hy] at this;exact this
theorem PHo.put (h : PHo w p qa x) (y : Ros) : PHo (w.setCells p 3 (aS y)) p qa { x with R := y } :=
 heap_put p 112 [.int .u64 (x.us : Int)] (aS y) (aS x.R) [.pointer qa, .int .u64 (x.id : Int), .int .u64 (x.ev : Int)] w (by rw [a9, a9]) h
theorem acw (qa : Option Addr) (x : HpS) (e : Nat) : (phC qa x).set 2 (.int .u64 (e : Int)) = phC qa { x with ev := e } := rfl
theorem xR (qa : Option Addr) (x : HpS) (e : Nat) : (phC qa x).set 24 (.int .u64 (e : Int)) = phC qa { x with us := e } := by
 show _ :: _ :: _ :: (aS x.R ++ [_]).set 21 _ = _
 rw [List.set_append_right _ _ (by rw [a9]; exact ai), a9]
 rfl
end
def HJ (w0 : World) (H K : Nat -> Prop) (w : World) (p q : Nat) (M : aR) (x : HpS) : Prop :=
 ∃ G, a8.Bn w G q M /\ PHu w p q x /\ ¬ G p /\ Only H w0 w /\ Grow w0 H (fun b => G b \/ b = p) /\ (∀ b, K b -> ¬ G b /\ b ≠ p /\ b < w.heap.size) /\ CrG w0 H
section
variable {w0 w w' : World} {H K K' : Nat -> Prop} {p q : Nat} {M : aR} {x y : HpS}
theorem HJ.hul (h : HJ w0 H K w p q M x) : PHu w p q x := by obtain ⟨_, _, h, _⟩ := h; exact h
theorem HJ.tab (h : HJ w0 H K w p q M x) : Tab w := by
 obtain ⟨_, _, _, _, h, _, _, hT⟩ := h;intro i hi;have := hT.t i hi;exact (h.cell (p := ⟨0, i, none⟩) (lW this) hT.off).trans this
theorem HJ.lt (h : HJ w0 H K w p q M x) {b : Nat} (hb : K b) : b < w.heap.size := by obtain ⟨_, _, _, _, _, _, h, _⟩ := h; exact (h b hb).2.2
theorem HJ.ne (h : HJ w0 H K w p q M x) {b : Nat} (hb : K b) : b ≠ p := by obtain ⟨_, _, _, _, _, _, h, _⟩ := h; exact (h b hb).2.1
theorem HJ.size (h : HJ w0 H K w p q M x) : w0.heap.size <= w.heap.size := by obtain ⟨_, _, _, _, h, _⟩ := h; exact h.size
theorem HJ.guard (h : HJ w0 H K w p q M x) (hb : Below w.heap.size w w') (hK : ∀ b, K' b -> K b \/ (w.heap.size <= b /\ b < w'.heap.size)) : HJ w0 H K' w' p q M x := by
 obtain ⟨G, h1, h2, h3, h4, h5, h6, h7⟩ := h;have hlt := a8.lt h1;have hp := h2.lt;have hs := hb.size;refine ⟨G, a8.below h1 hb, h2.below hb, h3, h4.mY hb, h5, fun b e => ?_, h7⟩;rcases hK b e with e | ⟨e1, e2⟩
 ·obtain ⟨g1, g2, g3⟩ := h6 b e;exact ⟨g1, g2, by omega⟩
 ·exact ⟨fun hg => by have := hlt b hg; omega, by omega, e2⟩
theorem HJ.below (h : HJ w0 H K w p q M x) (hb : Below w.heap.size w w') : HJ w0 H K w' p q M x := h.guard hb fun b e => .inl e
theorem HJ.drew (h : HJ w0 H K w p q M x) : HJ w0 H K w.drew p q M x := h.below (bd aj)
theorem HJ.less (h : HJ w0 H K w p q M x) (hK : ∀ b, K' b -> K b) : HJ w0 H K' w p q M x := h.guard aj fun b e => .inl (hK b e)
def up (K : Nat -> Prop) (n m : Nat) : Nat -> Prop := fun b => K b \/ (n <= b /\ b < m)
theorem HJ.up (h : HJ w0 H K w p q M x) (hb : Below w.heap.size w w') : HJ w0 H (Proofs.YtehefifamaofkaaGreatDoor.up K w.heap.size w'.heap.size) w' p q M x := h.guard hb fun b e => e
theorem HJ.kept (h : HJ w0 H K w p q M x) (hb : Below w.heap.size w w') : dv K w w' := fun b e => hb.block b (h.lt e)
theorem HJ.turn {G G' : Nat -> Prop} {M' : aR} (h1 : a8.Bn w G q M) (h2 : PHu w p q x) (h3 : ¬ G p) (h4 : Only H w0 w) (h5 : Grow w0 H (fun b => G b \/ b = p)) (h6 : ∀ b, K b -> ¬ G b /\ b ≠ p /\ b < w.heap.size) (h7 : CrG w0 H)
  (k1 : a8.Bn w' G' q M') (k2 : Only G w w') (k3 : Grow w G G') : HJ w0 H K w' p q M' x /\ dv K w w' := by
 have hs := k2.size;have hs0 := h4.size;have hp := h2.lt;refine ⟨⟨G', k1, h2.only k2 h3, fun e => ?_, h4.trans k2 fun b e => h5 b (.inl e), fun b e => ?_, fun b e => ?_, h7⟩, fun b e => k2.block b (h6 b e).2.2 (h6 b e).1⟩
 ·rcases k3 p e with e | e
  ·exact h3 e
  ·omega
 ·rcases e with e | e
  ·rcases k3 b e with e | e
   ·exact h5 b (.inl e)
   ·exact .inr (by omega)
  ·exact h5 b (.inr e)
 ·obtain ⟨g1, g2, g3⟩ := h6 b e;refine ⟨fun hg => ?_, g2, by omega⟩;rcases k3 b hg with e | e
  ·exact g1 e
  ·omega
theorem HJ.write (d n : Int) (b : Blk) (hr : Room M 1) (h : HJ w0 H K w p q M x) : Calls prog 9 #[.pointer (some ⟨q, 0, none⟩), .int .i64 d, .int .i64 n, blk b] w fun e w' => e = .returned (.int .i64 (jL M d n)) /\ HJ w0 H K w' p q (eg M d n b) x /\ dv K w w' := by
 obtain ⟨G, h1, h2, h3, h4, h5, h6, h7⟩ := h;exact (a8.write d n b hr h1).mono fun e w' ⟨k0, G', k1, k2, k3⟩ => ⟨k0, HJ.turn h1 h2 h3 h4 h5 h6 h7 k1 k2 k3⟩
theorem HJ.flush (d : Int) (hr : Room M 1) (h : HJ w0 H K w p q M x) : Calls prog 15 #[.pointer (some ⟨q, 0, none⟩), .int .i64 d] w fun e w' => e = .returned (.int .i64 (hZ M d)) /\ HJ w0 H K w' p q (fk M d) x /\ dv K w w' := by
 obtain ⟨G, h1, h2, h3, h4, h5, h6, h7⟩ := h;exact (a8.flush d hr h1).mono fun e w' ⟨k0, G', k1, k2, k3⟩ => ⟨k0, HJ.turn h1 h2 h3 h4 h5 h6 h7 k1 k2 k3⟩
theorem HJ.read (d n : Int) (h : HJ w0 H K w p q M x) : Calls prog 81 #[.pointer (some ⟨q, 0, none⟩), .int .i64 d, .int .i64 n] w fun e w' => e = .returned (.tuple #[blk (dY M d n), .int .i64 (ct M d n)]) /\ Below w.heap.size w w' := by
 obtain ⟨G, h1, _⟩ := h;exact a8.read d n h1
theorem HJ.obj (h : HJ w0 H K w p q M x) (ho : Only (fun b => b = p) w w') (hp : PHu w' p q y) : HJ w0 H K w' p q M y /\ dv K w w' := by
 obtain ⟨G, h1, h2, h3, h4, h5, h6, h7⟩ := h;have hs := ho.size;refine ⟨⟨G, a8.only h1 ho fun b hb e => h3 (e ▸ hb), hp, h3, h4.trans ho fun b e => h5 b (.inr e), h5, fun b e => ?_, h7⟩, fun b e => ho.block b (h6 b e).2.2 (h6 b e).2.1⟩;obtain ⟨g1, g2, g3⟩ := h6 b e;exact ⟨g1, g2, by omega⟩
theorem HJ.mine {g : Nat} (h : HJ w0 H K w p q M x) (hg : K g) (hg0 : w0.heap.size <= g) (ho : Only (fun b => b = g) w w') : HJ w0 H K w' p q M x := by
 obtain ⟨G, h1, h2, h3, h4, h5, h6, h7⟩ := h;have hs := ho.size;obtain ⟨g1, g2, g3⟩ := h6 g hg;refine ⟨G, a8.only h1 ho fun b hb e => g1 (e ▸ hb), h2.only ho fun e => g2 e.symm, h3, h4.trans ho fun b e => .inr (by omega), h5, fun b e => ?_, h7⟩;obtain ⟨g1, g2, g3⟩ := h6 b e;exact ⟨g1, g2, by omega⟩
end
structure Fu where
 f : FuncId
 cap : List Value
 ok : ∀ (args : Array Value) (w : World), (callFunc f args).run prog w = .ok (.enter f args) w
def Fu.val (s : Fu) : Value := .func (.func s.f) #[] s.cap.toArray
section
variable {ρ : Operand -> Value} {o : Oper} {x y : Operand} {w : World} {s : Fu} {v : Value}
theorem qy {a : Act} {ats : Array TypeId} (ho : o.op = .call { callee := .value x, args := #[y], argTypes := ats }) (hx : a.eval x = s.val) (hy : a.eval y = v) : (execOp a.eval o).run prog w = .ok (.enter s.f (v :: s.cap).toArray) w := by
 unfold Fu.val at hx;unfold execOp;simp [ho, resolve, Deferred.ofValue, invoke, hx, hy, s.ok]
end
def NoH (w : World) (v : Value) : Prop := v = .pointer none \/ ∃ p, v = .pointer (some ⟨p, 0, none⟩) /\ PHo w p none ⟨0, 0, 0, bK⟩
theorem NoH.below {w w' : World} {v : Value} (h : NoH w v) (hb : Below w.heap.size w w') : NoH w' v := by
 rcases h with h | ⟨p, h, h1⟩
 ·exact .inl h
 ·exact .inr ⟨p, h, h1.below hb⟩
section
variable {w : World} {p q : Nat} {qa : Option Addr} {x : HpS} {v : Value}
theorem xv (h : PHo w p (some ⟨q, 0, none⟩) x) : Calls prog 68 #[.pointer (some ⟨p, 0, none⟩)] w fun e w' => e = .returned (.bool true) /\ w = w' := by
 have HL := ae h;clear h;go_enter func68, ntmps68;go_upto_region 1 with fail;refine aV 1 ?_;refine aep (gd true underlying62 rfl aez evk rfl) ?_;refine runs 3 ?_;refine aew (ax rfl aez qH) ?_;refine aew (aE rfl aez (xm (PHo.c0 HL))) ?_;refine aew (gd true underlying24 rfl aez evk rfl) ?_;refine aK 2 ?_;go_wp2_with fail;go_ret;exact ⟨rfl, rfl⟩
theorem yf (h : PHo w p none x) : Calls prog 68 #[.pointer (some ⟨p, 0, none⟩)] w fun e w' => e = .returned (.bool false) /\ w = w' := by
 have HL := ae h;clear h;go_enter func68, ntmps68;go_upto_region 1 with fail;refine aV 1 ?_;refine aep (gd true underlying62 rfl aez evk rfl) ?_;refine runs 3 ?_;refine aew (ax rfl aez qH) ?_;refine aew (aE rfl aez (xm (PHo.c0 HL))) ?_;refine aew (gd false underlying24 rfl aez evk rfl) ?_;refine aK 2 ?_;go_wp2_with fail;go_ret;exact ⟨rfl, rfl⟩
theorem xn : Calls prog 68 #[.pointer none] w fun e w' => e = .returned (.bool false) /\ w = w' := by
 go_enter func68, ntmps68;go_upto_region 1 with fail;refine aV 1 ?_;refine aep (gd false underlying62 rfl aez evk rfl) ?_;refine aG 5 rfl (aJ rfl aez) (by kernel_rfl) ?_;simp only [bc, ac, aa];refine aK 2 ?_;go_wp2_with fail;go_ret;exact ⟨rfl, rfl⟩
theorem zJ (h : NoH w v) : Calls prog 68 #[v] w fun e w' => e = .returned (.bool false) /\ w = w' := by
 rcases h with rfl | ⟨p, rfl, h⟩
 ·exact xn
 ·exact yf h
theorem uV (h : PHo w p qa x) : Calls prog 29 #[.pointer (some ⟨p, 0, none⟩)] w fun e w' => e = .returned (ros (x.R)) /\ Below w.heap.size w w' := by
 have HL := ae (h.below ((Below.refl w.heap.size w).alloc ai (.cells (aS bK).toArray 35)));clear h;have HA := ae (bQ.new w bK);have HB := ae ((Below.refl w.heap.size w).alloc ai (.cells (aS bK).toArray 35));go_enter func29, ntmps29;go_upto_region 0 with fail;refine af ?_;refine aep (cn rfl) ?_;generalize w.alloc (.cells (aS bK).toArray 35) = w1 at *
 skip
 refine ag ?_;go_upto_region 1 with fail;refine aV 1 ?_;refine aep (ka false underlying62 rfl aez evk rfl) ?_;refine ag ?_;go_upto_region 3 with fail;refine aV 2 ?_;refine aep (ax rfl aez yO) ?_;refine aep (bq rfl aez (PHo.ros HL)) ?_;refine az rfl (cX rfl (ev rfl) (ev rfl) HA.out) ?_;simp only [aa];refine ag ?_;go_wp2_with fail;exact bodyPost_ret (abH rfl _ _ _ rfl (jH HA)) rfl ⟨rfl, ip HB ai⟩
theorem rR (h : PHo w p qa x) : Calls prog 32 #[.pointer (some ⟨p, 0, none⟩)] w fun e w' => e = .returned (.int .u64 (x.ev : Int)) /\ w = w' := by
 have HL := ae h;clear h;go_enter func32, ntmps32;go_upto_region 1 with fail;refine aV 1 ?_;refine aep (ka false underlying62 rfl aez evk rfl) ?_;refine ag ?_;go_upto_region 3 with fail;refine aV 2 ?_;refine aep (ax rfl aez abv) ?_;refine aep (aE rfl aez (cO (PHo.c2 HL))) ?_;refine aK 1 ?_;go_wp2_with fail;go_ret;exact ⟨rfl, rfl⟩
theorem wD : Calls prog 32 #[.pointer none] w fun e w' => e = .returned (.int .u64 0) /\ w = w' := by
 go_enter func32, ntmps32;go_upto_region 1 with fail;refine aV 1 ?_;refine aep (ka true underlying62 rfl aez evk rfl) ?_;refine ag ?_;go_upto_region 2 with fail;refine cy 1 ?_;go_wp2_with fail;go_ret;exact ⟨rfl, rfl⟩
end
section
variable {P : Program} {md : Region.Mode} {l : List Oper} {Q : Exit -> Act -> World -> Prop} {S : World -> Prop} {fuel : Nat} {listed : Array Bool} {a : Act} {w w1 : World} {o o' : Oper} {v : Value}
theorem wm (i : Nat) (hi : l[i]? = some o) (hr : Region.ready md l.toArray listed = [i]) (hw : Region.wanted o (yielded l.toArray a.tmps) = true) (h : (execOp a.eval o).run P w = .ok (.value v) w1)
  (hS : S w1) (hk : wpAnyH P md l.toArray Q S fuel (listed.setIfInBounds i true) (a.put o.dst v) w1) : wpAnyH P md l.toArray Q S (fuel + 1) listed a w :=
 wpAnyH_all hr (by simp) fun j hj => by
  obtain rfl : j = i := by simpa using hj
  unfold wpOp;simp only [List.getElem?_toArray, hi, hw, if_true];refine .inl ?_;unfold Oper.wp;rw [h];exact ⟨hS, hk⟩
theorem rt (i j : Nat) {f : FuncId} {vs : Array Value} (hi : l[i]? = some o) (hj : l[j]? = some o') (hr : Region.ready md l.toArray listed = [i, j]) (hwi : Region.wanted o (yielded l.toArray a.tmps) = true) (hwj : Region.wanted o' (yielded l.toArray a.tmps) = true) (h : (execOp a.eval o).run P w = .ok (.enter f vs) w)
  (hc : Calls P f vs w fun e w' => ∃ v, e = .returned v /\ S w' /\ wpAnyH P md l.toArray Q S fuel (listed.setIfInBounds i true) (a.put o.dst v) w') (h' : (execOp a.eval o').run P w = .ok (.value v) w1) (hS : S w1)
  (hk : wpAnyH P md l.toArray Q S fuel (listed.setIfInBounds j true) (a.put o'.dst v) w1) : wpAnyH P md l.toArray Q S (fuel + 1) listed a w :=
 wpAnyH_all hr (by simp) fun z hz => by
  rcases (show z = i \/ z = j by simpa using hz) with rfl | rfl
  ·unfold wpOp;simp only [List.getElem?_toArray, hi, hwi, if_true];refine .inl ?_;unfold Oper.wp;rw [h];exact hc.mono fun e w' ⟨v, he, hk⟩ => by subst he; exact hk
  ·unfold wpOp;simp only [List.getElem?_toArray, hj, hwj, if_true];refine .inl ?_;unfold Oper.wp;rw [h'];exact ⟨hS, hk⟩
theorem abI {α β : Type} {F : α -> β -> Prop} {G : Prop} {T : α -> β -> Prop} (k : (∀ a b, F a b -> T a b) -> G) (h : ∀ a b, F a b -> T a b) : G := k h
end
end Go.Proofs.YtehefifamaofkaaGreatDoor
