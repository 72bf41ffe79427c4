import Derived.Test.YtlmdklakcmnaiaaGreatDoorBhak
namespace Go.Proofs.YtlmdklakcmnaiaaGreatDoor
set_option maxHeartbeats 8000000
open Go.Proofs.Tryz
open Go.RowKit
open Go.Maps (Keyed)
set_option linter.unusedVariables false
set_option linter.unusedSimpArgs false
set_option maxRecDepth 100000
section
variable {w w' : World} {B : Nat -> Prop} {p room E bm i : Nat} {bs : List Nat} {ky : Nat -> Ky} {pv nx : Nat -> Nat} {M : Int -> Option Nat} {L : List Ky} {k : Int}
theorem oQ {w0 : World} (h : iW B w0 w) (hB : B bm) (ht : w.mapTurned w' bm) : iW B w0 w' := h.map (k := 0) hB (fun _ _ => trivial) ht
theorem dx.pvm (h : dx w B p room E bm bs ky pv nx M) {b : Nat} (hb : b ∈ E :: bs) : pv b ∈ E :: bs := by
 rcases List.mem_cons.1 hb with rfl | hb
 ·exact rR h.seg
 ·obtain ⟨l, r, e⟩ := List.append_of_mem hb;have hs := h.seg;rw [e] at hs;have := rR (seg_append.1 hs).1;rw [e];rcases List.mem_cons.1 this with e2 | e2
  ·rw [e2]; simp
  ·exact List.mem_cons_of_mem _ (List.mem_append.2 (.inl e2))
theorem dx.nxm (h : dx w B p room E bm bs ky pv nx M) {b : Nat} (hb : b ∈ E :: bs) : nx b ∈ E :: bs := by
 have key : ∀ x, x ∈ bs ++ [E] -> x ∈ E :: bs := fun x hx => by
  rcases List.mem_append.1 hx with e | e
  ·exact List.mem_cons_of_mem _ e
  ·simp at e; rw [e]; simp
 rcases List.mem_cons.1 hb with rfl | hb
 ·exact key _ (rL h.seg)
 ·obtain ⟨l, r, e⟩ := List.append_of_mem hb;have hs := h.seg;rw [e] at hs;have := rL (seg_append.1 hs).2;refine key _ ?_;rw [e];rcases List.mem_append.1 this with e2 | e2
  ·simp [e2]
  ·simp at e2; simp [e2]
theorem dx.ac2 (h : dx w B p room E bm bs ky pv nx M) (hi : plc k (bs.map ky) < bs.length) : M k = some (bs.getD (plc k (bs.map ky)) 0) := by
 have h1 := o8 (k := k) (L := bs.map ky) (by simpa using hi);rw [getD_map ky bs 0 ky0 hi] at h1;have := h.hit _ (cI (d := 0) hi);rwa [h1] at this
theorem dx.m7 (h : dx w B p room E bm bs ky pv nx M) (hw : (Lit.int .i64 k).wf = true) (hi : ¬ plc k (bs.map ky) < bs.length) : M k = none := by
 cases e : M k with
 |none => rfl
 |some b =>
  obtain ⟨h1, h2⟩ := h.who k b hw e;have : plc k (bs.map ky) < (bs.map ky).length := lG.2 (by unfold fw; rw [List.map_map]; exact List.mem_map.2 ⟨b, h1, h2⟩);rw [List.length_map] at this;exact absurd this hi
theorem dx.kwf (h : dx w B p room E bm bs ky pv nx M) {b : Nat} (hb : b ∈ bs) : (Lit.int .i64 (ky b).n).wf = true := h.ok.wf _ (List.mem_map.2 ⟨b, hb, rfl⟩)
theorem dx.inj (h : dx w B p room E bm bs ky pv nx M) {b c : Nat} (hb : b ∈ bs) (hc : c ∈ bs) (e : (ky b).n = (ky c).n) : b = c := by
 have h1 := h.hit b hb;have h2 := h.hit c hc;rw [e, h2] at h1;injection h1 with h1;exact h1.symm
theorem fI (w : World) (h : dx w B p room E bm bs ky pv nx M) : Calls prog 89 #[.pointer (some ⟨p, 0, none⟩)] w fun e w' => e = .returned (.bool true) /\ w = w' := by
 have c0 := h.c0;have hr := h.rm;have hd : decide (0 < room) = true := ao (by omega);clear h hr;go_enter func89, ntmps89;go_wp2_with fail;go_ret;exact ⟨rfl, rfl⟩
theorem tq (w : World) (h : dx w B p room E bm bs ky pv nx M) (hw : (Lit.int .i64 k).wf = true) {b : Nat} (hm : M k = some b) :
  Calls prog 59 #[.pointer (some ⟨p, 0, none⟩), .int .i64 k] w fun e w' => e = .returned (.tuple #[.pointer (some ⟨b, 0, none⟩), .int .i64 0]) /\ w = w' := by
 have HL := ae h;have HK : Hid ((Instr.lookup 146 (.map (some bm)) (.int .i64 k) false).run prog w = .ok (.pointer (some ⟨b, 0, none⟩)) w) := ae (by have := h.map.look hw; rw [hm] at this; exact this);clear h hw hm;go_enter func59, ntmps59;go_wp2_with fail;refine (fI _ HL).mono ?_;rintro e w1 ⟨rfl, rfl⟩;go_upto_region 3 with fail;refine aI 2 ?_;refine akj (ax rfl akt ko) ?_;refine akj (aD rfl akt (pP (HL.out).c2)) ?_;refine runs 1 ?_;refine akj (dw rfl akt akt HK) ?_;refine aF 1 ?_;go_upto_region 4 with fail;refine aI 1 ?_;refine akj (dl false underlying119 rfl akt evk rfl) ?_;refine ah ?_;go_wp2_with fail;go_ret2;exact ⟨rfl, rfl⟩
theorem o9 (w : World) (h : dx w B p room E bm bs ky pv nx M) (hw : (Lit.int .i64 k).wf = true) (hm : M k = none) :
  Calls prog 59 #[.pointer (some ⟨p, 0, none⟩), .int .i64 k] w fun e w' => e = .returned (.tuple #[.pointer none, .int .i64 7]) /\ w = w' := by
 have HL := ae h;have HK : Hid ((Instr.lookup 146 (.map (some bm)) (.int .i64 k) false).run prog w = .ok (.pointer none) w) := ae (by have := h.map.look hw; rw [hm] at this; exact this);clear h hw hm;go_enter func59, ntmps59;go_wp2_with fail;refine (fI _ HL).mono ?_;rintro e w1 ⟨rfl, rfl⟩;go_upto_region 3 with fail;refine aI 2 ?_;refine akj (ax rfl akt ko) ?_;refine akj (aD rfl akt (pP (HL.out).c2)) ?_;refine runs 1 ?_;refine akj (dw rfl akt akt HK) ?_;refine aF 1 ?_;go_upto_region 4 with fail;refine aI 1 ?_;refine akj (dl true underlying119 rfl akt evk rfl) ?_;refine ah ?_;go_wp2_with fail;go_ret2;exact ⟨rfl, rfl⟩
theorem py (w : World) (h : dx w B p room E bm bs ky pv nx M) :
  Calls prog 124 #[.pointer (some ⟨p, 0, none⟩)] w fun e w' => e = .returned (ptO (lsB bs (bs.map ky))) /\ w = w' := by
 have HL := ae h;have HE := ae (h.lnk E (by simp));have HPV : Hid (∀ i, i <= bs.length -> pv ((bs ++ [E]).getD i 0) = (E :: bs).getD i 0) := ae (aed h.seg);have HEV : Hid (pv E = (E :: bs).getD bs.length 0) := ae (by have := HPV.out bs.length aj; rw [<- this]; simp);have HPS : Hid (∀ i, i <= bs.length -> nH ((E :: bs).getD i 0) (E :: bs) = i) := ae fun i hi => kJ h.one (by simp; omega)
 have HNO := ae (List.nodup_cons.1 h.one).1;obtain ⟨j0, hj0, hz0⟩ := agr;have HJ := ae hj0;have HZ := ae hz0;have HLK := ae h.lnk;clear h hj0 hz0;go_enter func124, ntmps124;go_upto_region 1 with fail;refine aI 2 ?_;refine akj (ax rfl akt ns) ?_;refine akj (aD rfl akt (jB (HL.out).c1)) ?_;refine runs 1 ?_;refine akj (ax rfl akt nz) ?_;refine akj (aD rfl akt (jB (HE.out).c2)) ?_;refine aF 1 ?_;rw [HEV.out];go_wp2_with fail
 go_loop [3] (fun v => ∃ i, i <= bs.length /\ v = .pointer (some ⟨(E :: bs).getD i 0, 0, none⟩) /\ Hid (∀ j, i <= j -> j < bs.length -> ((bs.map ky).getD j ky0).pin = true)) (fun v => nH (agq v) (E :: bs))
 case atStart => exact ⟨bs.length, aj, rfl, ae fun j h1 h2 => absurd h2 (by omega)⟩
 case round =>
  obtain ⟨i, hi, rfl, hpin⟩ := hrel;cases i with
  |zero =>
   have hlu : lu (bs.map ky) = 0 := ae1 fun j hj => hpin.out j (Nat.zero_le _) (by simpa using hj)
   have HLU := ae hlu;clear hlu;rw [show (E :: bs).getD 0 0 = E from rfl];go_upto_region 2 with fail;refine aI 3 ?_;refine akj (ax rfl akt ns) ?_;refine akj (aD rfl akt (jB (HL.out).c1)) ?_;refine akj (kK false underlying119 HJ.out HZ.out rfl (ev rfl) (ev rfl) HE.out HE.out (by simp)) ?_;refine ah ?_;go_wp2_with fail;go_ret;exact ⟨by rw [ug HLU.out]; rfl, rfl⟩
  |succ i =>
   rw [show (E :: bs).getD (i + 1) 0 = bs.getD i 0 from rfl];obtain ⟨b, hb⟩ : ∃ b, bs.getD i 0 = b := ⟨_, rfl⟩;have hm : b ∈ bs := by rw [<- hb]; exact cI hi
   have HN := ae (HLK.out b (List.mem_cons_of_mem _ hm));have HNE : Hid (b ≠ E) := ae fun e => HNO.out (by rw [<- e]; exact hm)
   have HPB : Hid (pv b = (E :: bs).getD i 0) := ae (by
    have := HPV.out i (by omega);rw [<- this, <- hb];simp [List.getD, List.getElem?_append_left (show i < bs.length from hi)])
   have HKY : Hid ((bs.map ky).getD i ky0 = ky b) := ae (by rw [getD_map ky bs 0 ky0 hi, hb]);have HB := ae hb;have HM := ae hm;clear hb hm;rw [HB.out];go_upto_region 2 with fail;refine aI 3 ?_;refine akj (ax rfl akt ns) ?_;refine akj (aD rfl akt (jB (HL.out).c1)) ?_;refine akj (kK true underlying119 HJ.out HZ.out rfl (ev rfl) (ev rfl) HN.out HE.out (by have := HNE.out; simp [this])) ?_;refine ah ?_;cases hp : (ky b).pin
   ·have HPI := ae hp;have HC1 : Hid (w.cell? ⟨b, 1, none⟩ = some (.bool false)) := ae (by have := HN.out.c1; rwa [hp] at this);have hlu : lu (bs.map ky) = i + 1 := ai5 (by rw [List.length_map]; omega) (by rw [HKY.out]; exact hp) fun j h1 h2 => hpin.out j (by omega) (by simpa using h2)
    have HLU := ae hlu;clear hlu hp;go_upto_region 4 with fail;refine aI 2 ?_;refine akj (ax rfl akt yr) ?_;refine akj (aD rfl akt (ti HC1)) ?_;refine aF 1 ?_;go_wp2_with fail;go_ret;exact ⟨by rw [tE HLU.out, HB.out]; rfl, rfl⟩
   ·have HPI := ae hp;have HC1 : Hid (w.cell? ⟨b, 1, none⟩ = some (.bool true)) := ae (by have := HN.out.c1; rwa [hp] at this);clear hp;go_upto_region 4 with fail;refine aI 2 ?_;refine akj (ax rfl akt yr) ?_;refine akj (aD rfl akt (ti HC1)) ?_;refine aF 1 ?_;go_upto_region 3 with fail;refine aI 2 ?_;refine akj (ax rfl akt nz) ?_;refine akj (aD rfl akt (jB (HN.out).c2)) ?_;refine aF 1 ?_;rw [HPB.out];go_wp2_with fail
    go_round
    case rel =>
     refine ⟨i, by omega, rfl, ae fun j h1 h2 => ?_⟩;by_cases e : j = i
     ·subst e; rw [HKY.out]; exact HPI
     ·exact hpin.out j (by omega) h2
    case measure =>
     show nH ((E :: bs).getD i 0) (E :: bs) < nH b (E :: bs)
     have h1 := HPS.out i (by omega);have h2 := HPS.out (i + 1) hi;rw [show (E :: bs).getD (i + 1) 0 = bs.getD i 0 from rfl, HB.out] at h2;omega
theorem zD (w : World) (h : dx w B p room E bm bs ky pv nx M) {b : Nat} (hi : i < bs.length) (hb : bs.getD i 0 = b) :
  Calls prog 125 #[.pointer (some ⟨p, 0, none⟩), .pointer (some ⟨b, 0, none⟩)] w fun e w' => e = .returned (.tuple #[]) /\ (∃ pv' nx' M', dx w' B p room E bm (wo bs i) ky pv' nx' M') /\ iW B w w' /\ ∃ u v, dB w' b (ky b) u v := by
 have hbs : b ∈ bs := by rw [<- hb]; exact cI hi
 have hm : b ∈ E :: bs := List.mem_cons_of_mem _ hbs;have HL := ae h;have HLV := ae (tc (B := B) w h.lnk hm (h.pvm hm) (h.nxm hm) h.low.2.2);have HSG := ae (acb h.seg h.one hi);have HI := ae hi;have HB := ae hb;have HBS := ae hbs;clear h hi hb hm hbs;go_enter func125, ntmps125;go_upto_region 0 with fail;refine aI 1 ?_;refine ay rfl (aB call122 rfl (evc akt evn)) ?_;refine HLV.out.mono ?_;rintro e w1 ⟨rfl, hl1, ht1⟩;refine aR ?_;refine ah ?_;have hat : w1.heap[p]? = some (.cells #[.int .i64 (room : Int), ptB E, .map (some bm)] 148 (0, 0)) := ht1.keep HL.out.at_ (by show ¬ (148 = 123); decide);have hmp : dI w1 bm bs.length M := HL.out.map.kept fun es c hb => ht1.keep hb fun e => e
 have hlen : bs.length = (wo bs i).length + 1 := (oq HI).symm;rw [hlen] at hmp;have HC2 := ae (cells3 hat).2.2;have HAT := ae hat
 have HMP := ae hmp;have HN := ae (hl1 b (List.mem_cons_of_mem _ HBS));have HLK := ae hl1;have HT := ae (ht1.widen yE);have HWF := ae (HL.out.kwf HBS);have HSM : Hid ((M (ky b).n).isSome = true) := ae (by rw [HL.out.hit b HBS.out]; rfl);clear hat hmp hlen hl1 ht1;go_upto_region 1 with fail;refine wp_region_still_tail 8 (by kernel_rfl) (by kernel_rfl) ?_;simp only [ac];refine aP rfl (aM rfl akt) ?_;simp only [aa];refine aP rfl (bq rfl akt) ?_;simp only [aa];refine aP rfl (ax rfl akt ko) ?_;simp only [aa];refine aP rfl (aD rfl akt (pP HC2)) ?_;simp only [aa];refine aP rfl (aM rfl akt) ?_;simp only [aa];refine aP rfl (bq rfl akt) ?_;simp only [aa];refine aP rfl (ax rfl akt acc) ?_;simp only [aa];refine aP rfl (aD rfl akt (cd (HN.out).c0)) ?_;simp only [aa];refine wpStill_nil ?_;change wpList _ _ _ _ _ (World.drew _);refine tR (w := w1.drew) rfl rfl akt akt (N := (wo bs i).length) HMP HWF HSM ?_;intro w2 hm2 ht2;simp only [Act.put];refine ah ?_
 go_end0
 refine ⟨rfl, ⟨dh pv (nx b) (pv b), dh nx (pv b) (nx b), fun j => if j = (ky b).n then none else M j, ?_⟩, oQ HT.out.drew HL.out.low.2.1 ht2, ⟨_, _, iJ ht2 HN fun _ _ e => by cases e⟩⟩;have hsub := jJ bs i;have hlk : Lnk w2 ky (dh pv (nx b) (pv b)) (dh nx (pv b) (nx b)) (E :: bs) := Lnk.turned (w := w1.drew) HLK ht2;refine ⟨iJ ht2 HAT (fun _ _ e => by cases e), hlk.sub fun x hx => ?_, by have := HSG.out; rwa [HB.out] at this, HL.out.one.sublist (hsub.cons_cons _), hm2, fun x hx => ?_, fun j x hj hx => ?_, ⟨HL.out.low.1, HL.out.low.2.1, fun x hx => HL.out.low.2.2 x ?_⟩, by rw [pG]; exact HL.out.ok.wo i, HL.out.rm⟩
 ·rcases List.mem_cons.1 hx with rfl | hx
  ·simp
  ·exact List.mem_cons_of_mem _ (hsub.subset hx)
 ·try dsimp only
  rw [if_neg, HL.out.hit x (hsub.subset hx)];intro e;have := HL.out.inj (hsub.subset hx) HBS e;have hn := xz (List.nodup_cons.1 HL.out.one).2 HI;rw [HB.out, <- this] at hn;exact hn hx
 ·try dsimp only at hx
  split at hx
  ·cases hx
  ·rename_i hne
   obtain ⟨h1, h2⟩ := HL.out.who j x hj hx;exact ⟨abQ HI h1 (fun e => hne (by rw [<- h2, e, HB.out])), h2⟩
 ·rcases List.mem_cons.1 hx with rfl | hx
  ·simp
  ·exact List.mem_cons_of_mem _ (hsub.subset hx)
theorem abl (w : World) (hsz : B w.heap.size) (h : dx w B p room E bm bs ky pv nx M) (hk : ¬ plc k (bs.map ky) < bs.length) (hl : bs.length < room) (hw : (Lit.int .i64 k).wf = true) :
  Calls prog 126 #[.pointer (some ⟨p, 0, none⟩), .int .i64 k] w fun e w' => e = .returned (.tuple #[]) /\ (∃ n ky' pv' nx' M', dx w' B p room E bm (n :: bs) ky' pv' nx' M' /\ (n :: bs).map ky' = ⟨k, false⟩ :: bs.map ky) /\ iW B w w' := by
 have hn0 := h.m7 hw hk;have hnS : w.heap.size ∉ E :: bs := fun e => by have := aU (h.lnk _ e); omega
 obtain ⟨w1, hw1⟩ : ∃ w1, w.alloc (.cells (qv ⟨k, false⟩ (.pointer none) (.pointer none)).toArray 123) = w1 := ⟨_, rfl⟩;have hn1 : dB w1 w.heap.size ⟨k, false⟩ (.pointer none) (.pointer none) := by rw [<- hw1]; exact heap_alloc_new w _
 have hb1 : Below w.heap.size w w1 := by rw [<- hw1]; exact ak.alloc aj _
 have h1 := h.keep fun b o ho _ => aC ho hb1
 have HF := ae (qZ (B := B) (E := E) w1 ⟨k, false⟩ _ _ h1.lnk hn1 hnS (by simp) (h.nxm (by simp)) h.low.2.2 hsz);have HSG := ae (pJ h.seg h.one hnS);have HW1 := ae hw1;have HL := ae h1;have HT1 := ae (bZ.of_below (I := tI) (F := B) hb1);have HN0 := ae hn0;have HK := ae hk;have HLT := ae hl;have HWF := ae hw;have HNS := ae hnS;have HSZ := ae hsz;clear h h1 hk hl hw hn0 hsz hnS hw1 hn1 hb1;go_enter func126, ntmps126;go_upto_region 1 with fail;have hw1 := HW1.out;unfold qv at hw1;rw [hw1];clear hw1;refine aI 3 ?_;refine akj (ax rfl akt ns) ?_;refine akj (aD rfl akt (jB (HL.out).c1)) ?_;refine ay rfl (aB call123 rfl (evc akt (evc akt evn))) ?_;refine HF.out.mono ?_;rintro e w2 ⟨rfl, hl2, ht2⟩;refine aR ?_;refine ah ?_;have hat : w2.heap[p]? = some (.cells #[.int .i64 (room : Int), ptB E, .map (some bm)] 148 (0, 0)) := ht2.keep HL.out.at_ (by show ¬ (148 = 123); decide);have hmp : dI w2 bm bs.length M := HL.out.map.kept fun es c hb => ht2.keep hb fun e => e
 have HC2 := ae (cells3 hat).2.2;have HAT := ae hat
 obtain ⟨w3, hr3, hm3, ht3⟩ := hmp.store HWF HN0 (by unfold maxLen; have := HLT.out; have := HL.out.rm; omega) w.heap.size;have HR3 := ae hr3;have HM3 := ae hm3;have HT3 := ae ht3;have HLK := ae hl2;have HT := ae (HT1.out.trans (ht2.widen yE));clear hat hmp hr3 hm3 ht3 hl2 ht2;go_upto_region 2 with fail;refine aI 2 ?_;refine akj (ax rfl akt ko) ?_;refine akj (aD rfl akt (pP HC2)) ?_;refine runs 2 ?_;refine aG rfl (i7 rfl (ev rfl) (ev rfl) (ev rfl) HR3.out) ?_;simp only [Act.put];refine ah ?_
 go_end0
 have hne : ∀ b ∈ bs, b ≠ w.heap.size := fun b hb e => HNS.out (by rw [<- e]; exact List.mem_cons_of_mem _ hb)
 have hmap : (w.heap.size :: bs).map (dh ky w.heap.size ⟨k, false⟩) = ⟨k, false⟩ :: bs.map ky := by
  rw [List.map_cons, c7]
  congr 1
  exact List.map_congr_left fun b hb => cg _ _ (hne b hb)
 have hkn : k ∉ fw (bs.map ky) := fun e => HK.out (by have := lG.2 e; simpa using this)
 refine ⟨rfl, ⟨w.heap.size, dh ky w.heap.size ⟨k, false⟩, dh (dh pv w.heap.size E) (nx E) w.heap.size, dh (dh nx w.heap.size (nx E)) E w.heap.size, fun j => if j = k then some w.heap.size else M j, ?_, hmap⟩, oQ HT HL.out.low.2.1 HT3⟩;have hlk := Lnk.turned HLK HT3;refine ⟨iJ HT3 HAT (fun _ _ e => by cases e), hlk.sub fun x hx => ?_, HSG, ?_, HM3, fun x hx => ?_, fun j x hj hx => ?_, ⟨HL.out.low.1, HL.out.low.2.1, fun x hx => ?_⟩, by rw [hmap]; exact HL.out.ok.cons hkn (by rw [List.length_map]; exact HLT) HWF, HL.out.rm⟩
 ·rcases List.mem_cons.1 hx with rfl | hx
  ·simp
  ·rcases List.mem_cons.1 hx with rfl | hx
   ·simp
   ·simp [hx]
 ·have hd := List.nodup_cons.1 HL.out.one;refine List.nodup_cons.2 ⟨fun e => ?_, List.nodup_cons.2 ⟨fun e => HNS.out (List.mem_cons_of_mem _ e), hd.2⟩⟩;rcases List.mem_cons.1 e with e | e
  ·exact HNS.out (by rw [<- e]; simp)
  ·exact hd.1 e
 ·try dsimp only
  rcases List.mem_cons.1 hx with rfl | hx
  ·rw [c7, if_pos rfl]
  ·rw [cg _ _ (hne x hx), if_neg (fun e => hkn (by rw [<- e]; exact List.mem_map.2 ⟨ky x, List.mem_map.2 ⟨x, hx, rfl⟩, rfl⟩)), HL.out.hit x hx]
 ·try dsimp only at hx
  split at hx
  ·rename_i e
   injection hx with hx;subst hx e;exact ⟨by simp, by rw [c7]⟩
  ·obtain ⟨h1, h2⟩ := HL.out.who j x hj hx;exact ⟨List.mem_cons_of_mem _ h1, by rw [cg _ _ (hne x h1)]; exact h2⟩
 ·rcases List.mem_cons.1 hx with rfl | hx
  ·exact HL.out.low.2.2 _ (by simp)
  ·rcases List.mem_cons.1 hx with rfl | hx
   ·exact HSZ
   ·exact HL.out.low.2.2 _ (List.mem_cons_of_mem _ hx)
end
section
variable {w w' : World} {B p room E bm i : Nat} {bs : List Nat} {ky : Nat -> Ky} {pv nx : Nat -> Nat} {M : Int -> Option Nat} {L : List Ky} {k : Int}
theorem iD {x : Nat} (hi : i < bs.length) : x ∈ bs.getD i 0 :: wo bs i ↔ x ∈ bs := by
 constructor
 ·intro h;rcases List.mem_cons.1 h with rfl | h
  ·exact cI hi
  ·exact (jJ bs i).subset h
 ·intro h;by_cases e : x = bs.getD i 0
  ·rw [e]; simp
  ·exact List.mem_cons_of_mem _ (abQ hi h e)
theorem ab4 {i : Nat} (hp : plc k L = i) (hi : i < L.length) : xh k L = 0 := by unfold xh; rw [hp, if_pos hi]
theorem afd (hi : ¬ plc k L < L.length) : xh k L = 7 := if_neg hi
theorem aca {x : Ky} (hd : bs.Nodup) (hi : i < bs.length) : bs.map (dh ky (bs.getD i 0) x) = (bs.map ky).set i x := by
 apply List.ext_getElem (by simp);intro j h1 h2;have hj : j < bs.length := by simpa using h1
 rw [List.getElem_map, List.getElem_set];by_cases e : i = j
 ·subst e;have e0 : bs.getD i 0 = bs[i] := by simp [List.getD, hi]
  rw [if_pos rfl];exact (congrArg (dh ky (bs.getD i 0) x) e0.symm).trans (c7 _ _ _)
 ·rw [if_neg e, List.getElem_map, cg];intro e2;have e3 : nH (bs.getD j 0) bs = j := kJ hd hj;rw [show bs.getD j 0 = bs[j] from by simp [List.getD, hj], e2, kJ hd hi] at e3;exact e e3
end
theorem zU (n : Int) (w : World) (h : ¬ (1 <= n /\ n <= 64)) : Calls prog 48 #[.int .i64 n] w fun e w' => e = .returned (.tuple #[.pointer none, .int .i64 2]) /\ w = w' := by
 by_cases h1 : n < 1
 ·have hd : decide (n < 1) = true := ao h1;go_enter func48, ntmps48;go_wp2_with fail;go_ret2;exact ⟨rfl, rfl⟩
 ·have hd : decide (n < 1) = false := am h1;have hd2 : decide (64 < n) = true := ao (by omega);go_enter func48, ntmps48;go_wp2_with fail;go_ret2;exact ⟨rfl, rfl⟩
section
variable {w w' : World} {B : Nat -> Prop} {p room E bm i : Nat} {bs : List Nat} {ky : Nat -> Ky} {pv nx : Nat -> Nat} {M : Int -> Option Nat} {L : List Ky} {k : Int}
theorem dx.below (h : dx w B p room E bm bs ky pv nx M) (hb : Below w.heap.size w w') : dx w' B p room E bm bs ky pv nx M := h.keep fun b o ho _ => aC ho hb
theorem t7 (w : World) (h : dx w B p room E bm bs ky pv nx M) (h0 : lu (bs.map ky) = 0) : Calls prog 124 #[.pointer (some ⟨p, 0, none⟩)] w fun e w' => e = .returned (.pointer none) /\ w = w' :=
 (py w h).mono fun e w' hh => by rw [ug h0] at hh; exact hh
theorem uO (w : World) (h : dx w B p room E bm bs ky pv nx M) {j b : Nat} (h0 : lu (bs.map ky) = j + 1) (hb : bs.getD j 0 = b) : Calls prog 124 #[.pointer (some ⟨p, 0, none⟩)] w fun e w' => e = .returned (.pointer (some ⟨b, 0, none⟩)) /\ w = w' :=
 (py w h).mono fun e w' hh => by rw [tE h0, hb] at hh; exact hh
theorem dx.front (h : dx w B p room E bm bs ky pv nx M) (hi : i < bs.length) {pv' nx' : Nat -> Nat} (hat : w'.heap[p]? = some (.cells #[.int .i64 (room : Int), ptB E, .map (some bm)] 148 (0, 0)))
  (hl : Lnk w' ky pv' nx' (bs.getD i 0 :: E :: wo bs i)) (hs : Seg pv' nx' E (bs.getD i 0 :: wo bs i) E) (hm : dI w' bm bs.length M) : dx w' B p room E bm (bs.getD i 0 :: wo bs i) ky pv' nx' M := by
 have hd := List.nodup_cons.1 h.one;refine ⟨hat, hl.sub fun x hx => ?_, hs, List.nodup_cons.2 ⟨fun e => hd.1 ((iD hi).1 e), List.nodup_cons.2 ⟨xz hd.2 hi, hd.2.sublist (jJ bs i)⟩⟩, by rw [List.length_cons, oq hi]; exact hm, fun x hx => h.hit x ((iD hi).1 hx), fun j x hj hx => ⟨(iD hi).2 (h.who j x hj hx).1, (h.who j x hj hx).2⟩, ⟨h.low.1, h.low.2.1, fun x hx => ?_⟩, ?_, h.rm⟩
 ·rcases List.mem_cons.1 hx with rfl | hx
  ·simp
  ·rcases List.mem_cons.1 hx with rfl | hx
   ·simp
   ·simp [hx]
 ·rcases List.mem_cons.1 hx with rfl | hx
  ·exact h.low.2.2 _ (by simp)
  ·exact h.low.2.2 _ (List.mem_cons_of_mem _ ((iD hi).1 hx))
 ·have hw := h.ok.wf _ (List.mem_map.2 ⟨_, cI (d := 0) hi, rfl⟩);have hi' : i < (bs.map ky).length := by rw [List.length_map]; exact hi
  rw [List.map_cons, pG, <- getD_map ky bs 0 ky0 hi];exact (h.ok.wo i).cons (ahy h.ok.one hi') (h.ok.lt hi') (h.ok.wf _ (cI hi'))
def ku (B : Nat -> Prop) (p room : Nat) (k : Int) (L : List Ky) (w : World) (e : Ending) (w' : World) : Prop := e = .returned (.tuple #[.int .i64 (t6 room k L), .bool (wQ room k L), .int .i64 (vG room k L)]) /\ PLF w' B p room (vk room k L) /\ iW B w w'
theorem v8 (w : World) (h : dx w B p room E bm bs ky pv nx M) (hw : (Lit.int .i64 k).wf = true) (hi : plc k (bs.map ky) < bs.length) :
  Calls prog 85 #[.pointer (some ⟨p, 0, none⟩), .int .i64 k] w (ku B p room k (bs.map ky) w) := by
 obtain ⟨i, hpi⟩ : ∃ i, plc k (bs.map ky) = i := ⟨_, rfl⟩;have hmk := h.ac2 hi;rw [hpi] at hi hmk;obtain ⟨b, hb⟩ : ∃ b, bs.getD i 0 = b := ⟨_, rfl⟩;rw [hb] at hmk;have hbs : b ∈ bs := by rw [<- hb]; exact cI hi
 have hm : b ∈ E :: bs := List.mem_cons_of_mem _ hbs;have HL := ae h;have HK : Hid ((Instr.lookup 146 (.map (some bm)) (.int .i64 k) false).run prog w = .ok (.pointer (some ⟨b, 0, none⟩)) w) := ae (by have := h.map.look hw; rw [hmk] at this; exact this);have HLV := ae (tc (B := B) w h.lnk hm (h.pvm hm) (h.nxm hm) h.low.2.2);have HSG := ae (acb h.seg h.one hi);have HI := ae hi;have HB := ae hb;have HPI := ae hpi;clear h hi hb hm hbs hmk hpi hw;go_enter func85, ntmps85;go_wp2_with fail;refine (fI _ HL).mono ?_;rintro e w1 ⟨rfl, rfl⟩;go_upto_region 3 with fail;refine aI 2 ?_;refine akj (ax rfl akt ko) ?_;refine akj (aD rfl akt (pP (HL.out).c2)) ?_;refine runs 1 ?_;refine akj (dw rfl akt akt HK) ?_;refine aF 1 ?_;go_upto_region 4 with fail;refine aI 1 ?_;refine akj (dc true underlying119 rfl akt evk rfl) ?_;refine ah ?_;go_upto_region 5 with fail;refine aI 1 ?_;refine ay rfl (aB call122 rfl (evc akt evn)) ?_;refine HLV.out.mono ?_;rintro e w1 ⟨rfl, hl1, ht1⟩;refine aR ?_;refine ah ?_;have hat : w1.heap[p]? = some (.cells #[.int .i64 (room : Int), ptB E, .map (some bm)] 148 (0, 0)) := ht1.keep HL.out.at_ (by show ¬ (148 = 123); decide);have hsg := HSG.out;rw [HB.out] at hsg;have hnw : b ∉ E :: wo bs i := fun e => by
  have hd := List.nodup_cons.1 HL.out.one;rcases List.mem_cons.1 e with e | e
  ·exact hd.1 (by rw [<- e, <- HB.out]; exact cI HI)
  ·exact xz hd.2 HI (by rw [HB.out]; exact e)
 have hod : (E :: wo bs i).Nodup := HL.out.one.sublist ((jJ bs i).cons_cons _);have hsub : ∀ x, x ∈ E :: wo bs i -> x ∈ E :: bs := fun x hx => by
  rcases List.mem_cons.1 hx with rfl | hx
  ·simp
  ·exact List.mem_cons_of_mem _ ((jJ bs i).subset hx)
 have hbs : b ∈ bs := by rw [<- HB.out]; exact cI HI
 have hnxm : dh nx (pv b) (nx b) E ∈ E :: wo bs i := by
  rcases List.mem_append.1 (rL hsg) with e | e
  ·exact List.mem_cons_of_mem _ e
  ·simp at e; rw [e]; simp
 have HF := ae (qZ (B := B) (E := E) w1 (ky b) _ _ (hl1.sub hsub) (hl1 b (List.mem_cons_of_mem _ hbs)) hnw (by simp) hnxm (fun x hx => HL.out.low.2.2 x (hsub x hx)) (HL.out.low.2.2 b (List.mem_cons_of_mem _ hbs)));have HS2 := ae (pJ hsg hod hnw);have HC1 := ae (cells3 hat).2.1;have HAT := ae hat
 have HT := ae ht1;clear hat hsg hnw hod hsub hbs hnxm hl1 ht1;go_upto_region 6 with fail;refine aI 3 ?_;refine akj (ax rfl akt ns) ?_;refine akj (aD rfl akt (jB HC1)) ?_;refine ay rfl (aB call123 rfl (evc akt (evc akt evn))) ?_;refine HF.out.mono ?_;rintro e w2 ⟨rfl, hl2, ht2⟩;refine aR ?_;refine ah ?_;go_wp2_with fail
 go_ret3
 rw [zK] at hl2;have hnd : ∀ es c, ¬ nF (.map es c) := fun _ _ e => e
 have hat2 := ht2.keep HAT (by show ¬ (148 = 123); decide);have hmp : dI w2 bm bs.length M := HL.out.map.kept fun es c hb => ht2.keep (HT.out.keep hb (hnd es c)) (hnd es c)
 have hs2 := HS2.out;rw [<- HB.out] at hl2 hs2;have hp := HL.out.front HI hat2 hl2 hs2 hmp;have hi' : plc k (bs.map ky) < (bs.map ky).length := by rw [HPI.out, List.length_map]; exact HI
 refine ⟨?_, ⟨E, bm, _, ky, _, _, M, hp, ?_⟩, (HT.out.trans ht2).widen yE⟩
 ·unfold t6 wQ vG;rw [if_pos hi', if_pos hi', if_pos hi']
  rfl
 ·unfold vk;rw [if_pos hi', HPI.out, List.map_cons, pG, getD_map ky bs 0 ky0 HI.out]
theorem tZ (w : World) (hup : ∀ b, w.heap.size <= b -> B b) (h : dx w B p room E bm bs ky pv nx M) (hw : (Lit.int .i64 k).wf = true) (hi : ¬ plc k (bs.map ky) < bs.length) (hl : bs.length < room) :
  Calls prog 85 #[.pointer (some ⟨p, 0, none⟩), .int .i64 k] w (ku B p room k (bs.map ky) w) := by
 have hmk := h.m7 hw hi;have hlen : (bs.map ky).length = bs.length := List.length_map _;have hle := h.ok.len;rw [hlen] at hle;have HI' : Hid (¬ plc k (bs.map ky) < (bs.map ky).length) := ae (by rw [hlen]; exact hi);have HLN := ae hlen;have HL := ae h;have HUP := ae hup;clear hup;have HK : Hid ((Instr.lookup 146 (.map (some bm)) (.int .i64 k) false).run prog w = .ok (.pointer none) w) := ae (by have := h.map.look hw; rw [hmk] at this; exact this);have HI := ae hi;have HW := ae hw;have HLT := ae hl;have HEQ : Hid (((bs.length : Int) == (room : Int)) = false) := ae (by simp; omega);clear hl;clear h hi hmk hw hlen hle;go_enter func85, ntmps85;go_wp2_with fail;refine (fI _ HL).mono ?_;rintro e w1 ⟨rfl, rfl⟩;go_upto_region 3 with fail;refine aI 2 ?_;refine akj (ax rfl akt ko) ?_;refine akj (aD rfl akt (pP (HL.out).c2)) ?_;refine runs 1 ?_;refine akj (dw rfl akt akt HK) ?_;refine aF 1 ?_;go_upto_region 4 with fail;refine aI 1 ?_;refine akj (dc false underlying119 rfl akt evk rfl) ?_;refine ah ?_;go_upto_region 8 with fail;refine aS (B := w.heap.size) (by kernel_rfl) ?_;refine cC 2 ?_;refine akr (fun _ hw => ax rfl akt ko) ?_;refine akr (fun _ hw => aD rfl akt (pP (HL.out.below hw).c2)) ?_;refine akr (fun _ hw => mH rfl akt (HL.out.below hw).map) ?_;refine cC 2 ?_;refine akr (fun _ hw => ax rfl akt adu) ?_;refine akr (fun _ hw => aD rfl akt (cd (HL.out.below hw).c0)) ?_;refine akr (fun _ hw => aH false rfl akt akt HEQ) ?_;refine wpQuiet_nil ?_;intro w2 hw2;have HL2 := ae (HL.out.below hw2);have HT2 := ae (bZ.of_below (I := tI) (F := B) hw2);clear hw2;go_upto_region 14 with fail;refine aI 2 ?_;refine ay rfl (aB call126 rfl (evc akt (evc akt evn))) ?_;refine (abl w2 (HUP.out _ HT2.out.size) HL2 HI HLT HW).mono ?_;rintro e w3 ⟨rfl, ⟨n, ky', pv', nx', M', h3, e3⟩, ht3⟩;refine aR ?_;refine ah ?_;go_wp2_with fail
 go_ret3
 refine ⟨?_, ⟨E, bm, _, ky', pv', nx', M', h3, ?_⟩, HT2.out.trans ht3⟩
 ·unfold t6 wQ vG;rw [if_neg HI'.out, if_neg HI'.out, if_neg HI'.out, HLN.out, if_pos HLT.out, if_pos HLT.out, if_pos HLT.out]
  rfl
 ·unfold vk;rw [e3, if_neg HI'.out, HLN.out, if_pos HLT.out]
theorem uN (w : World) (h : dx w B p room E bm bs ky pv nx M) (hw : (Lit.int .i64 k).wf = true) (hi : ¬ plc k (bs.map ky) < bs.length) (hl : ¬ bs.length < room) (hu : lu (bs.map ky) = 0) :
  Calls prog 85 #[.pointer (some ⟨p, 0, none⟩), .int .i64 k] w (ku B p room k (bs.map ky) w) := by
 have hmk := h.m7 hw hi;have hlen : (bs.map ky).length = bs.length := List.length_map _;have hle := h.ok.len;rw [hlen] at hle;have HI' : Hid (¬ plc k (bs.map ky) < (bs.map ky).length) := ae (by rw [hlen]; exact hi);have HLN := ae hlen;have HL := ae h;have HK : Hid ((Instr.lookup 146 (.map (some bm)) (.int .i64 k) false).run prog w = .ok (.pointer none) w) := ae (by have := h.map.look hw; rw [hmk] at this; exact this);have HI := ae hi;have HW := ae hw;have HLT : Hid (¬ bs.length < room) := ae hl;have HEQ : Hid (((bs.length : Int) == (room : Int)) = true) := ae (by simp; omega);have HU := ae hu;clear hl hu;clear h hi hmk hw hlen hle;go_enter func85, ntmps85;go_wp2_with fail;refine (fI _ HL).mono ?_;rintro e w1 ⟨rfl, rfl⟩;go_upto_region 3 with fail;refine aI 2 ?_;refine akj (ax rfl akt ko) ?_;refine akj (aD rfl akt (pP (HL.out).c2)) ?_;refine runs 1 ?_;refine akj (dw rfl akt akt HK) ?_;refine aF 1 ?_;go_upto_region 4 with fail;refine aI 1 ?_;refine akj (dc false underlying119 rfl akt evk rfl) ?_;refine ah ?_;go_upto_region 8 with fail;refine aS (B := w.heap.size) (by kernel_rfl) ?_;refine cC 2 ?_;refine akr (fun _ hw => ax rfl akt ko) ?_;refine akr (fun _ hw => aD rfl akt (pP (HL.out.below hw).c2)) ?_;refine akr (fun _ hw => mH rfl akt (HL.out.below hw).map) ?_;refine cC 2 ?_;refine akr (fun _ hw => ax rfl akt adu) ?_;refine akr (fun _ hw => aD rfl akt (cd (HL.out.below hw).c0)) ?_;refine akr (fun _ hw => aH true rfl akt akt HEQ) ?_;refine wpQuiet_nil ?_;intro w2 hw2;have HL2 := ae (HL.out.below hw2);have HT2 := ae (bZ.of_below (I := tI) (F := B) hw2);clear hw2;go_upto_region 9 with fail;refine aI 1 ?_;refine ay rfl (aB call124 rfl (evc akt evn)) ?_;refine (t7 w2 HL2 HU).mono ?_;rintro e w3 ⟨rfl, rfl⟩;refine aR ?_;refine aF 1 ?_;go_upto_region 10 with fail;refine aI 1 ?_;refine akj (dl true underlying119 rfl akt evk rfl) ?_;refine ah ?_;go_wp2_with fail
 go_ret3
 refine ⟨?_, ⟨E, bm, bs, ky, pv, nx, M, HL2, ?_⟩, HT2⟩
 ·unfold t6 wQ vG;rw [if_neg HI'.out, if_neg HI'.out, if_neg HI'.out, HLN.out, if_neg HLT.out, if_neg HLT.out, if_neg HLT.out, if_pos HU.out, if_pos HU.out, if_pos HU.out]
  rfl
 ·unfold vk;rw [if_neg HI'.out, HLN.out, if_neg HLT.out, if_pos HU.out]
theorem ub (w : World) (hup : ∀ b, w.heap.size <= b -> B b) (h : dx w B p room E bm bs ky pv nx M) (hw : (Lit.int .i64 k).wf = true) (hi : ¬ plc k (bs.map ky) < bs.length) (hl : ¬ bs.length < room) {j : Nat} (hu : lu (bs.map ky) = j + 1) :
  Calls prog 85 #[.pointer (some ⟨p, 0, none⟩), .int .i64 k] w (ku B p room k (bs.map ky) w) := by
 have hmk := h.m7 hw hi;have hlen : (bs.map ky).length = bs.length := List.length_map _;have hle := h.ok.len;rw [hlen] at hle;have HI' : Hid (¬ plc k (bs.map ky) < (bs.map ky).length) := ae (by rw [hlen]; exact hi);have HLN := ae hlen;have HL := ae h;have HUP := ae hup;clear hup;have HK : Hid ((Instr.lookup 146 (.map (some bm)) (.int .i64 k) false).run prog w = .ok (.pointer none) w) := ae (by have := h.map.look hw; rw [hmk] at this; exact this);have HI := ae hi;have HW := ae hw;have HLT : Hid (¬ bs.length < room) := ae hl;have HEQ : Hid (((bs.length : Int) == (room : Int)) = true) := ae (by simp; omega);have hj : j < bs.length := by have := acX (bs.map ky); omega
 obtain ⟨b, hb⟩ : ∃ b, bs.getD j 0 = b := ⟨_, rfl⟩;have HU := ae hu;have HU0 : Hid (¬ lu (bs.map ky) = 0) := ae (by omega);have HJ := ae hj;have HB := ae hb;have HI3 : Hid (¬ plc k ((wo bs j).map ky) < (wo bs j).length) := ae fun e => by
  have e1 : k ∈ fw ((wo bs j).map ky) := lG.1 (by rw [List.length_map]; exact e);have e2 : plc k (bs.map ky) < (bs.map ky).length := lG.2 ((((jJ bs j).map ky).map Ky.n).subset e1);exact HI'.out e2
 have HLT3 : Hid ((wo bs j).length < room) := ae (by have := oq hj; omega);clear hl hu hj hb;clear h hi hmk hw hlen hle;go_enter func85, ntmps85;go_wp2_with fail;refine (fI _ HL).mono ?_;rintro e w1 ⟨rfl, rfl⟩;go_upto_region 3 with fail;refine aI 2 ?_;refine akj (ax rfl akt ko) ?_;refine akj (aD rfl akt (pP (HL.out).c2)) ?_;refine runs 1 ?_;refine akj (dw rfl akt akt HK) ?_;refine aF 1 ?_;go_upto_region 4 with fail;refine aI 1 ?_;refine akj (dc false underlying119 rfl akt evk rfl) ?_;refine ah ?_;go_upto_region 8 with fail;refine aS (B := w.heap.size) (by kernel_rfl) ?_;refine cC 2 ?_;refine akr (fun _ hw => ax rfl akt ko) ?_;refine akr (fun _ hw => aD rfl akt (pP (HL.out.below hw).c2)) ?_;refine akr (fun _ hw => mH rfl akt (HL.out.below hw).map) ?_;refine cC 2 ?_;refine akr (fun _ hw => ax rfl akt adu) ?_;refine akr (fun _ hw => aD rfl akt (cd (HL.out.below hw).c0)) ?_;refine akr (fun _ hw => aH true rfl akt akt HEQ) ?_;refine wpQuiet_nil ?_;intro w2 hw2;have HL2 := ae (HL.out.below hw2);have HT2 := ae (bZ.of_below (I := tI) (F := B) hw2);clear hw2;go_upto_region 9 with fail;refine aI 1 ?_;refine ay rfl (aB call124 rfl (evc akt evn)) ?_;refine (uO w2 HL2 HU HB).mono ?_;rintro e w3 ⟨rfl, rfl⟩;refine aR ?_;refine aF 1 ?_;go_upto_region 10 with fail;refine aI 1 ?_;refine akj (dl false underlying119 rfl akt evk rfl) ?_;refine ah ?_;go_upto_region 12 with fail;refine aI 2 ?_;refine ay rfl (aB call125 rfl (evc akt (evc akt evn))) ?_;refine (zD w2 HL2 HJ HB).mono ?_;rintro e w3 ⟨rfl, ⟨pv', nx', M', h3⟩, ht3, u, v, hn3⟩;refine aR ?_;refine ah ?_;have HL3 := ae h3;have HN3 := ae hn3;have HT3 := ae (HT2.out.trans ht3);clear h3 hn3 ht3;go_upto_region 13 with fail;refine aI 2 ?_;refine akj (ax rfl akt acc) ?_;refine akj (aD rfl akt (cd (HN3.out).c0)) ?_;refine aF 2 ?_;go_upto_region 14 with fail;refine aI 2 ?_;refine ay rfl (aB call126 rfl (evc akt (evc akt evn))) ?_;refine (abl w3 (HUP.out _ HT3.out.size) HL3 HI3 HLT3 HW).mono ?_;rintro e w4 ⟨rfl, ⟨n, ky', pv4, nx4, M4, h4, e4⟩, ht4⟩;refine aR ?_;refine ah ?_;go_wp2_with fail
 go_ret3
 refine ⟨?_, ⟨E, bm, _, ky', pv4, nx4, M4, h4, ?_⟩, HT3.out.trans ht4⟩
 ·unfold t6 wQ vG;rw [if_neg HI'.out, if_neg HI'.out, if_neg HI'.out, HLN.out, if_neg HLT.out, if_neg HLT.out, if_neg HLT.out, if_neg HU0.out, if_neg HU0.out, if_neg HU0.out, HU.out, Nat.add_sub_cancel, getD_map ky bs 0 ky0 HJ.out, HB.out]
  rfl
 ·unfold vk;rw [e4, if_neg HI'.out, HLN.out, if_neg HLT.out, if_neg HU0.out, HU.out, Nat.add_sub_cancel, pG]
theorem kG (w : World) (hup : ∀ b, w.heap.size <= b -> B b) (h : PLF w B p room L) (hw : (Lit.int .i64 k).wf = true) : Calls prog 85 #[.pointer (some ⟨p, 0, none⟩), .int .i64 k] w (ku B p room k L w) := by
 obtain ⟨E, bm, bs, ky, pv, nx, M, h, rfl⟩ := h;by_cases hi : plc k (bs.map ky) < bs.length
 ·exact v8 w h hw hi
 ·by_cases hl : bs.length < room
  ·exact tZ w hup h hw hi hl
  ·rcases Nat.eq_zero_or_pos (lu (bs.map ky)) with hu | hu
   ·exact uN w h hw hi hl hu
   ·exact ub w hup h hw hi hl (j := lu (bs.map ky) - 1) (by omega)
theorem dx.find (w : World) (h : dx w B p room E bm bs ky pv nx M) (hw : (Lit.int .i64 k).wf = true) {i b : Nat} (hp : plc k (bs.map ky) = i) (hi : i < bs.length) (hb : bs.getD i 0 = b) : Calls prog 59 #[.pointer (some ⟨p, 0, none⟩), .int .i64 k] w fun e w' => e = .returned (.tuple #[.pointer (some ⟨b, 0, none⟩), .int .i64 0]) /\ w = w' :=
 tq w h hw (by have := h.ac2 (k := k) (by rw [hp]; exact hi); rw [hp, hb] at this; exact this)
theorem aez (w : World) (h : dx w B p room E bm bs ky pv nx M) (hw : (Lit.int .i64 k).wf = true) (is : Bool) (hi : ¬ plc k (bs.map ky) < bs.length) :
  Calls prog 55 #[.pointer (some ⟨p, 0, none⟩), .int .i64 k, .bool is] w fun e w' => e = .returned (.int .i64 (xh k (bs.map ky))) /\ PLF w' B p room (mW k is (bs.map ky)) /\ iW B w w' := by
 have hi' : ¬ plc k (bs.map ky) < (bs.map ky).length := by rw [List.length_map]; exact hi
 have HI' := ae hi';have HF := ae (o9 w h hw (h.m7 hw hi));have HL := ae h;clear h hi hi' hw;go_enter func55, ntmps55;go_wp2_with fail;refine HF.out.mono ?_;rintro e w1 ⟨rfl, rfl⟩;go_wp2_with fail;go_ret;refine ⟨by rw [afd HI'.out]; rfl, ⟨E, bm, bs, ky, pv, nx, M, HL, ?_⟩, bZ.refl _ _ _⟩;unfold mW;rw [if_neg HI'.out]
theorem abv (w : World) (h : dx w B p room E bm bs ky pv nx M) (hw : (Lit.int .i64 k).wf = true) (is : Bool) (hi : plc k (bs.map ky) < bs.length) :
  Calls prog 55 #[.pointer (some ⟨p, 0, none⟩), .int .i64 k, .bool is] w fun e w' => e = .returned (.int .i64 (xh k (bs.map ky))) /\ PLF w' B p room (mW k is (bs.map ky)) /\ iW B w w' := by
 obtain ⟨i, hpi⟩ : ∃ i, plc k (bs.map ky) = i := ⟨_, rfl⟩;rw [hpi] at hi;obtain ⟨b, hb⟩ : ∃ b, bs.getD i 0 = b := ⟨_, rfl⟩;have hbs : b ∈ bs := by rw [<- hb]; exact cI hi
 have hi' : i < (bs.map ky).length := by rw [List.length_map]; exact hi
 have HL := ae h;have HF := ae (h.find w hw hpi hi hb);have HI := ae hi;have HI' := ae hi';have HB := ae hb;have HBS := ae hbs;have HPI := ae hpi;have hkn : (ky b).n = k := by
  have := o8 (k := k) (L := bs.map ky) (by rw [hpi]; exact hi');rw [hpi, getD_map ky bs 0 ky0 hi, hb] at this;exact this
 have HKN := ae hkn;have HN := ae (h.lnk b (List.mem_cons_of_mem _ hbs));clear hkn;clear h hi hb hbs hpi hw hi';go_enter func55, ntmps55;go_wp2_with fail;refine HF.out.mono ?_;rintro e w1 ⟨rfl, rfl⟩;go_upto_region 4 with fail;refine aI 3 ?_;refine akj (ax rfl akt yr) ?_;refine aG rfl (df rfl (ev rfl) (ev rfl) (aja HN.out.c1 (HN.out.fz 1))) ?_;simp only [aa];refine ah ?_;go_wp2_with fail;go_ret;have hm : b ∈ E :: bs := List.mem_cons_of_mem _ HBS;have hd := List.nodup_cons.1 HL.out.one;have hmap : bs.map (dh ky b ⟨(ky b).n, is⟩) = (bs.map ky).set i ⟨k, is⟩ := by
  have := aca (ky := ky) (x := ⟨(ky b).n, is⟩) hd.2 HI;rw [HB.out] at this;rw [this, HKN.out]
 have hpin : mW k is (bs.map ky) = (bs.map ky).set i ⟨k, is⟩ := by unfold mW; rw [HPI.out, if_pos HI'.out]
 have hkk : ∀ x, (dh ky b ⟨(ky b).n, is⟩ x).n = (ky x).n := fun x => by
  by_cases e : x = b
  ·subst e; rw [c7]
  ·rw [cg _ _ e]
 have hB := HL.out.low.2.2 b hm;have ht : iW B w (w.setCell ⟨b, 1, none⟩ (.bool is)) := ((bZ.refl nF B w).node hB HN 1 (.bool is)).widen yE;have hoth : ∀ (c : Nat) (o : Obj), w.heap[c]? = some o -> ¬ nF o -> (w.setCell ⟨b, 1, none⟩ (.bool is)).heap[c]? = some o := fun c o ho hn => ((bZ.refl nF B w).node hB HN 1 (.bool is)).keep ho hn
 refine ⟨by rw [ab4 HPI.out HI'.out]; rfl, ⟨E, bm, bs, dh ky b ⟨(ky b).n, is⟩, pv, nx, M, ⟨hoth _ _ HL.out.at_ (by show ¬ (148 = 123); decide), HL.out.lnk.s1 is hm, HL.out.seg, HL.out.one, HL.out.map.kept fun es c hb => hoth _ _ hb fun e => e, fun x hx => by rw [hkk]; exact HL.out.hit x hx, fun j x hj hx => by rw [hkk]; exact HL.out.who j x hj hx, HL.out.low, ?_, HL.out.rm⟩, by rw [hmap, hpin]⟩, ht⟩;rw [hmap, <- hpin];exact HL.out.ok.pin
theorem wK (w : World) (h : dx w B p room E bm bs ky pv nx M) (hw : (Lit.int .i64 k).wf = true) (hi : ¬ plc k (bs.map ky) < bs.length) :
  Calls prog 25 #[.pointer (some ⟨p, 0, none⟩), .int .i64 k] w fun e w' => e = .returned (.bool (qt k (bs.map ky))) /\ w = w' := by
 have hr : qt k (bs.map ky) = false := by unfold qt; rw [List.length_map, am hi]; rfl
 have HF := ae (o9 w h hw (h.m7 hw hi));rw [hr];clear h hi hw hr;go_enter func25, ntmps25;go_wp2_with fail;refine HF.out.mono ?_;rintro e w1 ⟨rfl, rfl⟩;go_wp2_with fail;go_ret;exact ⟨rfl, rfl⟩
theorem tF (w : World) (h : dx w B p room E bm bs ky pv nx M) (hw : (Lit.int .i64 k).wf = true) (hi : plc k (bs.map ky) < bs.length) :
  Calls prog 25 #[.pointer (some ⟨p, 0, none⟩), .int .i64 k] w fun e w' => e = .returned (.bool (qt k (bs.map ky))) /\ w = w' := by
 obtain ⟨i, hpi⟩ : ∃ i, plc k (bs.map ky) = i := ⟨_, rfl⟩;rw [hpi] at hi;obtain ⟨b, hb⟩ : ∃ b, bs.getD i 0 = b := ⟨_, rfl⟩;have hbs : b ∈ bs := by rw [<- hb]; exact cI hi
 have hi' : i < (bs.map ky).length := by rw [List.length_map]; exact hi
 have HL := ae h;have HF := ae (h.find w hw hpi hi hb);have HI := ae hi;have HI' := ae hi';have HB := ae hb;have HBS := ae hbs;have HPI := ae hpi;have HN := ae (h.lnk b (List.mem_cons_of_mem _ hbs));have hr : qt k (bs.map ky) = (ky b).pin := by unfold qt; rw [hpi, ao hi', getD_map ky bs 0 ky0 hi, hb]; rfl
 rw [hr];clear hr;clear h hi hb hbs hpi hw hi';go_enter func25, ntmps25;go_wp2_with fail;refine HF.out.mono ?_;rintro e w1 ⟨rfl, rfl⟩;go_upto_region 2 with fail;refine aI 1 ?_;refine akj (aH true rfl akt evk rfl) ?_;refine runs 3 ?_;refine akq (ax rfl akt yr) ?_;refine akq (aD rfl akt (ti (HN.out).c1)) ?_;refine aF 2 ?_;go_wp2_with fail;go_ret;exact ⟨rfl, rfl⟩
theorem xX (w : World) (h : PLF w B p room L) (hw : (Lit.int .i64 k).wf = true) (is : Bool) : Calls prog 55 #[.pointer (some ⟨p, 0, none⟩), .int .i64 k, .bool is] w fun e w' => e = .returned (.int .i64 (xh k L)) /\ PLF w' B p room (mW k is L) /\ iW B w w' := by
 obtain ⟨E, bm, bs, ky, pv, nx, M, h, rfl⟩ := h;by_cases hi : plc k (bs.map ky) < bs.length
 ·exact abv w h hw is hi
 ·exact aez w h hw is hi
theorem oo (w : World) (h : PLF w B p room L) (hw : (Lit.int .i64 k).wf = true) : Calls prog 25 #[.pointer (some ⟨p, 0, none⟩), .int .i64 k] w fun e w' => e = .returned (.bool (qt k L)) /\ w = w' := by
 obtain ⟨E, bm, bs, ky, pv, nx, M, h, rfl⟩ := h;by_cases hi : plc k (bs.map ky) < bs.length
 ·exact tF w h hw hi
 ·exact wK w h hw hi
theorem adC (w : World) (h : PLF w B p room L) : Calls prog 84 #[.pointer (some ⟨p, 0, none⟩)] w fun e w' => e = .returned (.int .i64 (room : Int)) /\ w = w' := by
 obtain ⟨E, bm, bs, ky, pv, nx, M, h, rfl⟩ := h;have HL := ae h;clear h;go_enter func84, ntmps84;go_wp2_with fail;refine (fI _ HL).mono ?_;rintro e w1 ⟨rfl, rfl⟩;have c0 := HL.out.c0;go_wp2_with fail;go_ret;exact ⟨rfl, rfl⟩
theorem ab3 (w : World) (h : PLF w B p room L) : Calls prog 58 #[.pointer (some ⟨p, 0, none⟩)] w fun e w' => ∃ v, e = .returned v /\ aN bP w' w.heap.size v (fw L) /\ Below w.heap.size w w' := by
 obtain ⟨E, bm, bs, ky, pv, nx, M, h, rfl⟩ := h;have HL := ae h;have HE := ae (h.lnk E (by simp));have HNV : Hid (∀ i, i <= bs.length -> nx ((E :: bs).getD i 0) = (bs ++ [E]).getD i 0) := ae (aeU h.seg);have HEV : Hid (nx E = (bs ++ [E]).getD 0 0) := ae (HNV.out 0 (Nat.zero_le _));have hd := List.nodup_cons.1 h.one;have hone : (bs ++ [E]).Nodup := List.nodup_append.2 ⟨hd.2, by simp, fun x hx y hy e => by simp at hy; subst hy e; exact hd.1 hx⟩;have HPS : Hid (∀ i, i <= bs.length -> nH ((bs ++ [E]).getD i 0) (bs ++ [E]) = i) := ae fun i hi => kJ hone (by simp; omega)
 have HNO := ae hd.1;have HLE : Hid (bs.length <= 64) := ae (by have := h.ok.len; rw [List.length_map] at this; have := h.rm; omega);obtain ⟨j0, hj0, hz0⟩ := agr;have HJ := ae hj0;have HZ := ae hz0;have HLK := ae h.lnk;have HKY : Hid (∀ i, i < bs.length -> fw ((bs.take i).map ky) ++ [(ky (bs.getD i 0)).n] = fw ((bs.take (i + 1)).map ky)) := ae fun i hi => by
  have e0 : bs.getD i 0 = bs[i] := by simp [List.getD, hi]
  rw [List.take_succ_eq_append_getElem hi, e0];unfold fw;rw [List.map_append, List.map_append]
  rfl
 have HKL : Hid (∀ i, i <= bs.length -> (fw ((bs.take i).map ky)).length <= 64) := ae fun i hi => by have := HLE.out; unfold fw; simp; omega
 clear h hj0 hz0 hd hone;go_enter func58, ntmps58;go_wp2_with fail;refine (fI _ HL).mono ?_;rintro e w1 ⟨rfl, rfl⟩;go_upto_region 4 with fail;refine aI 2 ?_;refine akj (ax rfl akt ns) ?_;refine akj (aD rfl akt (jB (HL.out).c1)) ?_;refine runs 1 ?_;refine akj (ax rfl akt mj) ?_;refine akj (aD rfl akt (jB (HE.out).c3)) ?_;refine aF 1 ?_;rw [HEV.out];go_wp2_with fail
 go_loopw [3, 4] (fun u v wr => ∃ i, i <= bs.length /\ v = .pointer (some ⟨(bs ++ [E]).getD i 0, 0, none⟩) /\ aN bP wr w.heap.size u (fw ((bs.take i).map ky)) /\ Below w.heap.size w wr) (fun _ v _ => bs.length - nH (agq v) (bs ++ [E]))
 case atStart => exact ⟨0, Nat.zero_le _, rfl, by rw [List.take_zero]; exact aN.nil _ _, ak⟩
 case round =>
  obtain ⟨i, hi, rfl, hm, hbl⟩ := hrel;have HM := ae hm;have HB := ae hbl;clear hm hbl;by_cases hlt : i < bs.length
  ·obtain ⟨b, hb⟩ : ∃ b, bs.getD i 0 = b := ⟨_, rfl⟩;have hbm : b ∈ bs := by rw [<- hb]; exact cI hlt
   have hga : (bs ++ [E]).getD i 0 = b := by rw [<- hb]; simp [List.getD, List.getElem?_append_left hlt]
   have HN := ae (HL.out.below HB).lnk;have HNB := ae (HN.out b (List.mem_cons_of_mem _ hbm));have HNE : Hid (b ≠ E) := ae fun e => HNO.out (by rw [<- e]; exact hbm)
   have HPB : Hid (nx b = (bs ++ [E]).getD (i + 1) 0) := ae (by
    have := HNV.out (i + 1) (by omega);rw [<- this, <- hb]
    rfl)
   have HGA := ae hga;have HBE := ae hb;have HLT := ae hlt;clear hb hbm hga hlt;rw [HGA.out];go_upto_region 5 with fail;refine aI 3 ?_;refine akj (ax rfl akt ns) ?_;refine akj (aD rfl akt (jB ((HL.out.below HB)).c1)) ?_;refine akj (kK true underlying119 HJ.out HZ.out rfl (ev rfl) (ev rfl) HNB.out (HN.out E (by simp)) (by have := HNE.out; simp [this])) ?_;refine ah ?_;go_upto_region 7 with fail;refine aI 3 ?_;refine akj (ax rfl akt acc) ?_;refine akj (aD rfl akt (cd (HNB.out).c0)) ?_;refine akj (eA (E := bP) (a := (ky b).n) rfl akt rfl (by decide)) ?_;refine ue bP rfl _ _ rfl w.heap.size (wr.heap.size + 1) 1 1 _ (fw ((bs.take i).map ky)) [(ky b).n] (some ⟨wr.heap.size, 0, none⟩) akt akt (HM.out.below ((Below.refl _ wr).alloc aj _)) (fS wr _ _ rfl) (by rw [World.size_alloc]; exact Nat.le_succ_of_le HB.out.size) (by have := HKL.out i hi; omega) ?_;intro v' w2 hm2 hg2;simp only [aa];refine aF 1 ?_;have hky := HKY.out i HLT;rw [HBE.out] at hky;rw [hky] at hm2;have HM2 := ae hm2;have HB2 : Hid (Below w.heap.size w w2) := ae ((HB.out.alloc HB.out.size _).grown hg2 (by have := HB.out.size; simp; omega) fun j hj => HM.out.gH j hj);have HN2 := ae ((HL.out.below HB2).lnk b (List.mem_cons_of_mem _ (by rw [<- HBE.out]; exact cI HLT)));clear hm2 hg2 hky;go_upto_region 6 with fail;refine aI 2 ?_;refine akj (ax rfl akt mj) ?_;refine akj (aD rfl akt (jB (HN2.out).c3)) ?_;refine aF 1 ?_;rw [HPB.out];go_wp2_with fail;go_roundw
   case rel => exact ⟨i + 1, HLT, rfl, HM2, HB2⟩
   case measure =>
    show bs.length - nH ((bs ++ [E]).getD (i + 1) 0) (bs ++ [E]) < bs.length - nH b (bs ++ [E])
    have h1 := HPS.out (i + 1) HLT;have h2 := HPS.out i hi;rw [HGA.out] at h2;have := HLT.out;omega
  ·have hie : i = bs.length := by omega
   have HGA : Hid ((bs ++ [E]).getD i 0 = E) := ae (by rw [hie]; simp);have HN := ae ((HL.out.below HB).lnk E (by simp));have HTK : Hid (bs.take i = bs) := ae (by rw [hie, List.take_length]);clear hie hlt;rw [HGA.out];go_upto_region 5 with fail;refine aI 3 ?_;refine akj (ax rfl akt ns) ?_;refine akj (aD rfl akt (jB ((HL.out.below HB)).c1)) ?_;refine akj (kK false underlying119 HJ.out HZ.out rfl (ev rfl) (ev rfl) HN.out HN.out (by simp)) ?_;refine ah ?_;have hm := HM.out;rw [HTK.out] at hm;have HM2 := ae hm;clear hm;go_wp2_with fail;go_ret;exact ⟨_, rfl, HM2, HB⟩
end
theorem aeK (room : Nat) (w : World) (h1 : 1 <= room) (h2 : room <= 64) : Calls prog 48 #[.int .i64 (room : Int)] w fun e w' => ∃ p, e = .returned (.tuple #[.pointer (some ⟨p, 0, none⟩), .int .i64 0]) /\ PLF w' (fun b => w.heap.size <= b) p room [] /\ Below w.heap.size w w' := by
 have hmm := @run_makeMap prog;have hd : decide ((room : Int) < 1) = false := am (by omega);have hd2 : decide (64 < (room : Int)) = false := am (by omega);go_enter func48, ntmps48;go_wp2_with fail;go_ret2;have b1 : Below w.heap.size w (w.alloc (.cells (qv ky0 (ptB w.heap.size) (ptB w.heap.size)).toArray 123)) := ak.alloc aj _;have hb : Below w.heap.size w (((w.alloc (.cells (qv ky0 (ptB w.heap.size) (ptB w.heap.size)).toArray 123)).alloc (.map #[] 0)).alloc (.cells #[.int .i64 (room : Int), ptB w.heap.size, .map (some (w.heap.size + 1))] 148)) :=
  (b1.alloc (by simp) _).alloc (by simp; omega) _
 refine ⟨_, rfl, ⟨w.heap.size, w.heap.size + 1, [], fun _ => ky0, fun _ => w.heap.size, fun _ => w.heap.size, fun _ => none, ⟨?_, fun b hb => ?_, ⟨rfl, rfl⟩, by simp, ?_, by simp, (fun k b _ e => by cases e), ⟨by omega, by omega, fun b hb => by simp at hb; omega⟩, LOk.nil, ⟨h1, h2⟩⟩, rfl⟩, hb⟩
 ·have := heap_alloc_new ((w.alloc (.cells (qv ky0 (ptB w.heap.size) (ptB w.heap.size)).toArray 123)).alloc (.map #[] 0)) (.cells #[.int .i64 (room : Int), ptB w.heap.size, .map (some (w.heap.size + 1))] 148);rw [World.size_alloc, World.size_alloc] at this;exact this
 ·simp at hb;subst hb;exact bu (bu (heap_alloc_new w _) _) _
 ·have := dI.made (w.alloc (.cells (qv ky0 (ptB w.heap.size) (ptB w.heap.size)).toArray 123));rw [World.size_alloc] at this;exact this.kept fun es c hb => bu hb _
open Go.RowKit Go.ChangeShapes Go.WideShapes Go.ChangeAt Go.Deep
structure akd where
 Do : Int
 Mem : Int
 B : Blk
 Seq : Nat
structure LnI where
 P : World -> Nat -> Nat -> LnS -> Prop
 I : Obj -> Prop
 keep : ∀ {w w' : World} {B p : Nat} {s : LnS}, P w B p s -> (∀ (b : Nat) (o : Obj), w.heap[b]? = some o -> I o -> w'.heap[b]? = some o) -> P w' B p s
 ok : ∀ {w : World} {B p : Nat} {s : LnS}, P w B p s -> dV s /\ B <= p /\ p < w.heap.size
 rn : ∀ o, ajU o -> ¬ I o
 new_ok : ∀ (N : Nat) (w : World), 1 <= N -> N <= 16 -> Calls prog 86 #[.int .i64 (N : Int)] w fun e w' => ∃ p, e = .returned (.tuple #[.pointer (some ⟨p, 0, none⟩), .int .i64 0]) /\ P w' w.heap.size p (ed N) /\ Below w.heap.size w w'
 new_no : ∀ (n : Int) (w : World), ¬ (1 <= n /\ n <= 16) -> Calls prog 86 #[.int .i64 n] w fun e w' => e = .returned (.tuple #[.pointer none, .int .i64 2]) /\ Below w.heap.size w w'
 set_ : ∀ (w : World) (m : Int) (b : Blk) (Q : Nat) {B p : Nat} {s : LnS}, P w B p s -> Q < 18446744073709551616 -> Calls prog 54 #[.pointer (some ⟨p, 0, none⟩), .int .i64 m, blk b, .int .u64 (Q : Int)] w fun e w' => e = .returned (.int .i64 (qz s m Q)) /\ P w' B p (ey s m b Q) /\ ahz I B w w'
 forget_ : ∀ (w : World) (m : Int) {B p : Nat} {s : LnS}, P w B p s -> Calls prog 57 #[.pointer (some ⟨p, 0, none⟩), .int .i64 m] w fun e w' => e = .returned (.int .i64 (lnE s m)) /\ P w' B p (fW s m) /\ ahz I B w w'
 clean_ : ∀ (w : World)  {B p : Nat} {s : LnS}, P w B p s -> Calls prog 77 #[.pointer (some ⟨p, 0, none⟩)] w fun e w' => e = .returned (.int .i64 0) /\ P w' B p (fV s) /\ ahz I B w w'
 get_ : ∀ (w : World) (m : Int) {B p : Nat} {s : LnS}, P w B p s -> Calls prog 32 #[.pointer (some ⟨p, 0, none⟩), .int .i64 m] w fun e w' => e = .returned (.tuple #[blk (lnG s m).b, .bool (lnG s m).kn]) /\ Below w.heap.size w w'
 dirty_ : ∀ (w : World)  {B p : Nat} {s : LnS}, P w B p s -> Calls prog 31 #[.pointer (some ⟨p, 0, none⟩)] w fun e w' => ∃ v, e = .returned v /\ aN bP w' w.heap.size v (lnD s) /\ Below w.heap.size w w'
 members_ : ∀ (w : World)  {B p : Nat} {s : LnS}, P w B p s -> Calls prog 64 #[.pointer (some ⟨p, 0, none⟩)] w fun e w' => e = .returned (.int .i64 (s.l.length : Int)) /\ Below w.heap.size w w'
 No : World -> Value -> Prop
 zc : List Value
 no_nil : ∀ w : World, No w (.pointer none)
 bld0 : ∀ w : World, (Instr.build 134 #[]).run prog w = .ok (.agg zc.toArray) w
 no_zero : ∀ w : World, No (w.alloc (.cells zc.toArray 134)) (.pointer (some ⟨w.heap.size, 0, none⟩))
 no_below : ∀ {w w' : World} {v : Value}, No w v -> Below w.heap.size w w' -> No w' v
 no_set : ∀ (w : World) (v : Value) (m : Int) (b : Blk) (Q : Nat), No w v -> Calls prog 54 #[v, .int .i64 m, blk b, .int .u64 (Q : Int)] w fun e w' => e = .returned (.int .i64 1) /\ Below w.heap.size w w'
 no_forget : ∀ (w : World) (v : Value) (m : Int), No w v -> Calls prog 57 #[v, .int .i64 m] w fun e w' => e = .returned (.int .i64 1) /\ Below w.heap.size w w'
 no_clean : ∀ (w : World) (v : Value) , No w v -> Calls prog 77 #[v] w fun e w' => e = .returned (.int .i64 1) /\ Below w.heap.size w w'
 no_get : ∀ (w : World) (v : Value) (m : Int), No w v -> Calls prog 32 #[v, .int .i64 m] w fun e w' => e = .returned (.tuple #[blk aJ, .bool false]) /\ Below w.heap.size w w'
 no_dirty : ∀ (w : World) (v : Value) , No w v -> Calls prog 31 #[v] w fun e w' => e = .returned (.slice none 0 0) /\ Below w.heap.size w w'
 no_members : ∀ (w : World) (v : Value) , No w v -> Calls prog 64 #[v] w fun e w' => e = .returned (.int .i64 0) /\ Below w.heap.size w w'
structure LnF where
 n : Int
 kn : Nat -> Bool
 dt : Nat -> Bool
 bl : Nat -> Blk
 f : Int
def fP (x : LnF) (i : Nat) : Value :=
 if i = 0 then .int .i64 x.n
 else if i < 17 then .bool (x.kn (i - 1))
 else if i < 33 then .bool (x.dt (i - 17))
 else if i < 1057 then .int .u8 (byt (x.bl ((i - 33) / 64)) ((i - 33) % 64))
 else .int .u64 x.f
def ij (x : LnF) : List Value := (List.range 1058).map (fP x)
theorem ia (x : LnF) : (ij x).length = 1058 := by simp [ij]
theorem jy (x : LnF) {i : Nat} (h : i < 1058) : (ij x)[i]? = some (fP x i) := by
 simp only [ij, List.getElem?_map, List.getElem?_range h, Option.map_some]
section
variable {x y : LnF} {k j : Nat}
theorem adU (hk : k < 16) : fP x (1 + k) = .bool (x.kn k) := by
 unfold fP;rw [if_neg (by omega), if_pos (by omega), show 1 + k - 1 = k from by omega]
theorem vU (hk : k < 16) : fP x (17 + k) = .bool (x.dt k) := by
 unfold fP;rw [if_neg (by omega), if_neg (by omega), if_pos (by omega), show 17 + k - 17 = k from by omega]
theorem abq (hk : k < 16) (hj : j < 64) : fP x (33 + k * 64 + j) = .int .u8 (byt (x.bl k) j) := by
 unfold fP;rw [if_neg (by omega), if_neg (by omega), if_neg (by omega), if_pos (by omega), show (33 + k * 64 + j - 33) / 64 = k from by omega, show (33 + k * 64 + j - 33) % 64 = j from by omega]
def agw (o m : Nat) (x y : LnF) : Prop := ∀ i, i < 1058 -> ¬ (o <= i /\ i < o + m) -> fP x i = fP y i
theorem adc {o : Nat} {vs : List Value} (h : ∀ j, j < vs.length -> vs[j]? = some (fP y (o + j))) (h2 : agw o vs.length x y) (hm : o + vs.length <= 1058) : (ij x).take o ++ vs ++ (ij x).drop (o + vs.length) = ij y := by
 have hl : ((ij x).take o).length = o := by rw [List.length_take, ia]; omega
 refine List.ext_getElem? fun i => ?_
 by_cases hi : i < 1058
 ·rw [jy y hi, List.append_assoc];by_cases h1 : i < o
  ·rw [List.getElem?_append_left (by omega), List.getElem?_take_of_lt h1, jy x hi, h2 i hi (by omega)]
  ·rw [List.getElem?_append_right (by omega), hl];by_cases h3 : i < o + vs.length
   ·rw [List.getElem?_append_left (by omega), h (i - o) (by omega), show o + (i - o) = i from by omega]
   ·rw [List.getElem?_append_right (by omega), List.getElem?_drop, show o + vs.length + (i - o - vs.length) = i from by omega, jy x hi, h2 i hi (by omega)]
 ·rw [List.getElem?_eq_none (by simp only [List.length_append, hl, List.length_drop, ia]; omega), List.getElem?_eq_none (by rw [ia]; omega)]
end
def LnA (w : World) (p : Nat) (x : LnF) : Prop := w.heap[p]? = some (.cells (ij x).toArray 134 (0, 0))
section
variable {w w' : World} {p o k : Nat} {x y : LnF} {vs : List Value}
theorem LnA.put (h : LnA w p x) (hv : ∀ j, j < vs.length -> vs[j]? = some (fP y (o + j))) (h2 : agw o vs.length x y) (hm : o + vs.length <= 1058) : LnA (w.setCells p o vs) p y := by
 have hs : ij x = (ij x).take o ++ ((ij x).drop o).take vs.length ++ (ij x).drop (o + vs.length) := by
  rw [List.append_assoc, <- List.drop_drop, List.take_append_drop, List.take_append_drop]
 have h' := h;unfold LnA at h';rw [hs] at h';have := heap_put p 134 _ vs _ _ w (by rw [List.length_take, List.length_drop, ia]; omega) h';rw [adc hv h2 hm, List.length_take, ia, Nat.min_eq_left (by omega)] at this;exact this
theorem LnA.lt (h : LnA w p x) : p < w.heap.size := aU h
theorem LnA.fz (h : LnA w p x) (j : Nat) : w.frozen? ⟨p, j, none⟩ = false := frozen_of_row w p j _ _ h
theorem LnA.at_ (h : LnA w p x) {i : Nat} (hi : i < 1058) : w.cell? ⟨p, i, none⟩ = some (fP x i) := by
 have := (aQ h) i _ (jy x hi);rwa [Nat.zero_add] at this
theorem LnA.there (h : LnA w p x) {o m : Nat} (hm : o + m <= 1058) : w.there p o m := fun i hi => ⟨by rw [h.at_ (by omega)]; rfl, h.fz _⟩
theorem LnA.cN (h : LnA w p x) : w.cell? ⟨p, 0, none⟩ = some (.int .i64 x.n) := h.at_ (i := 0) (by omega)
theorem LnA.cK (h : LnA w p x) (hk : k < 16) : w.cell? ⟨p, 1 + k, none⟩ = some (.bool (x.kn k)) := by rw [h.at_ (by omega), adU hk]
theorem LnA.cD (h : LnA w p x) (hk : k < 16) : w.cell? ⟨p, 17 + k, none⟩ = some (.bool (x.dt k)) := by rw [h.at_ (by omega), vU hk]
theorem LnA.cF (h : LnA w p x) : w.cell? ⟨p, 1057, none⟩ = some (.int .u64 x.f) := h.at_ (i := 1057) (by omega)
theorem LnA.cB (h : LnA w p x) (hk : k < 16) : w.rangeAt p (33 + k * 64) (cel (x.bl k)) := fun j v hj => by
 have hl : j < 64 := by
  have := (List.getElem?_eq_some_iff.1 hj).1;rwa [aO] at this
 rw [lq _ hl] at hj;injection hj with hj;subst hj;rw [h.at_ (by omega), abq hk hl]
def gM {α : Type} (g : Nat -> α) (k : Nat) (a : α) : Nat -> α := fun j => if j = k then a else g j
theorem LnA.sK (h : LnA w p x) (hk : k < 16) (c : Bool) : LnA (w.setCell ⟨p, 1 + k, none⟩ (.bool c)) p { x with kn := gM x.kn k c } := by
 refine LnA.put (vs := [.bool c]) (o := 1 + k) h (fun j hj => ?_) (fun i hi hn => ?_) (by simp; omega)
 ·have : j = 0 := by simpa using hj
  subst this;rw [Nat.add_zero, adU hk]; simp [gM]
 ·simp at hn;unfold fP
  split
  ·rfl
  ·split
   ·simp only [gM]; rw [if_neg (by omega)]
   ·rfl
theorem LnA.sD (h : LnA w p x) (hk : k < 16) (c : Bool) : LnA (w.setCell ⟨p, 17 + k, none⟩ (.bool c)) p { x with dt := gM x.dt k c } := by
 refine LnA.put (vs := [.bool c]) (o := 17 + k) h (fun j hj => ?_) (fun i hi hn => ?_) (by simp; omega)
 ·have : j = 0 := by simpa using hj
  subst this;rw [Nat.add_zero, vU hk]; simp [gM]
 ·simp at hn;unfold fP
  split
  ·rfl
  ·split
   ·rfl
   ·split
    ·simp only [gM]; rw [if_neg (by omega)]
    ·rfl
theorem LnA.sB (h : LnA w p x) (hk : k < 16) (b : Blk) : LnA (w.setCells p (33 + k * 64) (cel b)) p { x with bl := gM x.bl k b } := by
 refine LnA.put h (fun j hj => ?_) (fun i hi hn => ?_) (by rw [aO]; omega)
 ·rw [aO] at hj;rw [abq hk hj, lq _ hj]; simp [gM]
 ·rw [aO] at hn;unfold fP
  split
  ·rfl
  ·split
   ·rfl
   ·split
    ·rfl
    ·split
     ·simp only [gM]; rw [if_neg (by omega)]
     ·rfl
theorem LnA.sF (h : LnA w p x) (q : Int) : LnA (w.setCell ⟨p, 1057, none⟩ (.int .u64 q)) p { x with f := q } := by
 refine LnA.put (vs := [.int .u64 q]) (o := 1057) h (fun j hj => ?_) (fun i hi hn => ?_) (by simp)
 ·have : j = 0 := by simpa using hj
  subst this
  rfl
 ·simp at hn;unfold fP
  split
  ·rfl
  ·split
   ·rfl
   ·split
    ·rfl
    ·rw [if_pos (by omega), if_pos (by omega)]
def qA : List Value := List.replicate 16 (.bool false)
theorem LnA.sD0 (h : LnA w p x) : LnA (w.setCells p 17 qA) p { x with dt := fun _ => false } := by
 refine LnA.put h (fun j hj => ?_) (fun i hi hn => ?_) (by simp [qA])
 ·have hj' : j < 16 := by simpa [qA] using hj
  rw [vU hj'];exact List.getElem?_replicate_of_lt hj'
 ·simp [qA] at hn;unfold fP
  split
  ·rfl
  ·split
   ·rfl
   ·split
    ·omega
    ·rfl
end
def lf (s : LnS) : LnF := ⟨(s.l.length : Int), fun k => (da s k).kn, fun k => (da s k).dt, fun k => (da s k).b, (s.f : Int)⟩
def lf0 (n : Int) : LnF := ⟨n, fun _ => false, fun _ => false, fun _ => aJ, 0⟩
theorem ady {s : LnS} {k : Nat} (hk : k < s.l.length) (a : LC) (f : Nat) (j : Nat) : da ⟨s.l.set k a, f⟩ j = if j = k then a else da s j := jr _ _ _ _ _ hk
theorem adi {s : LnS} {k : Nat} (hk : k < s.l.length) (a : LC) (f : Nat) : lf ⟨s.l.set k a, f⟩ = ⟨(s.l.length : Int), gM (lf s).kn k a.kn, gM (lf s).dt k a.dt, gM (lf s).bl k a.b, (f : Int)⟩ := by
 unfold lf;simp only [LnF.mk.injEq, List.length_set, true_and, and_true];refine ⟨funext fun j => ?_, funext fun j => ?_, funext fun j => ?_⟩ <;> (rw [ady hk]; simp only [gM]; split <;> rfl)
theorem ah7 (s : LnS) : lf (fV s) = { lf s with dt := fun _ => false, f := 0 } := by
 unfold lf;simp only [LnF.mk.injEq, yu, true_and];refine ⟨funext fun j => ?_, funext fun j => ?_, funext fun j => ?_, rfl⟩ <;> rw [xx] <;> rfl
theorem ahg (n : Nat) : lf (ed n) = lf0 (n : Int) := by
 have h : ∀ j, da (ed n) j = lc0 := fun j => by
  simp only [da, ed, List.getD, List.getElem?_replicate]
  split <;> rfl
 unfold lf lf0;simp only [LnF.mk.injEq];refine ⟨by simp [ed], funext fun j => by rw [h]; rfl, funext fun j => by rw [h]; rfl, funext fun j => by rw [h]; rfl, rfl⟩
theorem ais : (prog.info? 134).map (fun i => i.zero) = some (some (.agg (ij (lf0 0)).toArray)) := by kernel_rfl
theorem zo : (prog.info? 131).map (·.size) = some 16 := by kernel_rfl
section
variable {ρ : Operand -> Value} {o : Oper} {x y z : Operand} {w : World} {b off p j : Nat} {c : Blk}
theorem adg : (Instr.fieldAt 134 (.pointer (some ⟨b, 0, none⟩)) 0).run prog w = .ok (.pointer (some ⟨b, 0, none⟩)) w := by kernel_rfl
theorem wG : (Instr.fieldAt 134 (.pointer (some ⟨b, 0, none⟩)) 1).run prog w = .ok (.pointer (some ⟨b, 1, none⟩)) w := by kernel_rfl
theorem p9 : (Instr.fieldAt 134 (.pointer (some ⟨b, 0, none⟩)) 2).run prog w = .ok (.pointer (some ⟨b, 17, none⟩)) w := by kernel_rfl
theorem xa : (Instr.fieldAt 134 (.pointer (some ⟨b, 0, none⟩)) 3).run prog w = .ok (.pointer (some ⟨b, 33, none⟩)) w := by kernel_rfl
theorem om : (Instr.fieldAt 134 (.pointer (some ⟨b, 0, none⟩)) 4).run prog w = .ok (.pointer (some ⟨b, 1057, none⟩)) w := by kernel_rfl
theorem vN (hj : j < 16) : (Instr.indexAt 131 (.pointer (some ⟨b, off, none⟩)) (.int .i64 (j : Int))).run prog w = .ok (.pointer (some ⟨b, off + j, none⟩)) w := by
 have e : (0 <= (j : Int) /\ (j : Int) < 16) := by omega
 simp [Instr.indexAt, Instr.sureAddr, asIntOf, run_underlying underlying131, Tryz.sizeOf4, Addr.add_mid, e, hj]
theorem ahh (hj : j < 16) : (Instr.indexAt 132 (.pointer (some ⟨b, off, none⟩)) (.int .i64 (j : Int))).run prog w = .ok (.pointer (some ⟨b, off + j * 64, none⟩)) w := by
 have e : (0 <= (j : Int) /\ (j : Int) < 16) := by omega
 simp [Instr.indexAt, Instr.sureAddr, asIntOf, run_underlying underlying132, Tryz.sizeOf44, Addr.add_mid, e, hj]
theorem xG {ad : Addr} {u : Value} {n : Int} (h : w.cell? ad = some u) (hf : w.frozen? ad = false) : (Instr.storeAt 34 (.pointer (some ad)) (.int .u64 n)).run prog w = .ok () (w.setCell ad (.int .u64 n)) := by simp [go_sem, h, hf]
theorem q8 (n : Int) : ij (lf0 n) = .int .i64 n :: (ij (lf0 0)).tail := by
 refine List.ext_getElem? fun i => ?_
 cases i with
 |zero => rw [jy _ (by omega)]; rfl
 |succ i =>
  rw [List.getElem?_cons_succ, List.getElem?_tail];by_cases hi : i + 1 < 1058
  ·rw [jy _ hi, jy _ hi]; unfold fP; rw [if_neg (show ¬ i + 1 = 0 by omega)]; rfl
  ·rw [List.getElem?_eq_none (by rw [ia]; omega), List.getElem?_eq_none (by rw [ia]; omega)]
theorem xw (n : Int) : (Instr.build 134 #[(0, .int .i64 n)]).run prog w = .ok (.agg (ij (lf0 n)).toArray) w := by
 have hz := fZ ais w;have h1 := dk (place := fun i => (#[(0, 1), (1, 16), (17, 16), (33, 1024), (1057, 1)] : Array (Nat × Nat))[i]?) (i := 0) (off := 0) (size := 1) (v := .int .i64 n) (pre := []) (mid := [.int .i64 0]) (post := (ij (lf0 0)).tail) (vs := [.int .i64 n]) (rest := []) rfl rfl rfl rfl rfl;simp only [List.nil_append, List.append_nil, List.cons_append] at h1;rw [<- q8 n, <- q8 0] at h1;have hc : (Value.agg (ij (lf0 0)).toArray).cells = (ij (lf0 0)).toArray := rfl;simp only [Instr.build, Sem.run_bind, hz, run_underlying underlying134, Result.andThen_ok, hc];refine Eq.trans (congrArg (fun r => Result.andThen r _) (?h : _ = Result.ok #[(0, 1), (1, 16), (17, 16), (33, 1024), (1057, 1)] w)) ?_
 case h => kernel_rfl
 simp only [Result.andThen_ok];have h4 : Instr.fill (fun i => (#[(0, 1), (1, 16), (17, 16), (33, 1024), (1057, 1)] : Array (Nat × Nat))[i]?) (ij (lf0 n)).toArray [] = some (ij (lf0 n)).toArray := by rw [Instr.fill]
 rw [h1.trans h4]
 rfl
theorem abT : (Instr.build 131 #[]).run prog w = .ok (.agg qA.toArray) w := by kernel_rfl
theorem wY (ho : o.op = .store 131 x y) (hx : ρ x = .pointer (some ⟨b, off, none⟩)) (hy : ρ y = .agg qA.toArray) (ht : w.there b off 16) : (execOp ρ o).run prog w = .ok .skip (w.setCells b off qA) :=
 f6 zo (fun v hv => by simp [qA] at hv; subst hv; rfl) ho hx hy ht
end
def mA : Obj -> Prop
 |.cells _ t _ => t = 134
 |_ => False
section
variable {w w' : World} {p B : Nat} {x : LnF} {s : LnS}
theorem LnA.below (h : LnA w p x) (hb : Below w.heap.size w w') : LnA w' p x := aC h hb
theorem LnA.drew (h : LnA w p x) : LnA w.drew p x := h
end
theorem jG (w : World) {p : Nat} {x : LnF} (h : LnA w p x) : Calls prog 64 #[.pointer (some ⟨p, 0, none⟩)] w fun e w' => e = .returned (.int .i64 x.n) /\ w = w' := by
 have HL := ae h;clear h;go_enter func64, ntmps64;go_upto_region 1 with fail;refine aI 1 ?_;refine akj (dl false underlying87 rfl akt evk rfl) ?_;refine ah ?_;go_upto_region 3 with fail;refine aI 2 ?_;refine akj (ax rfl akt adg) ?_;refine akj (aD rfl akt (cd HL.out.cN)) ?_;refine aF 1 ?_;go_wp2_with fail;go_ret;exact ⟨rfl, rfl⟩
theorem tj (w : World) : Calls prog 64 #[.pointer none] w fun e w' => e = .returned (.int .i64 0) /\ w = w' := by
 go_enter func64, ntmps64;go_upto_region 1 with fail;refine aI 1 ?_;refine akj (dl true underlying87 rfl akt evk rfl) ?_;refine ah ?_;go_wp2_with fail;go_ret;exact ⟨rfl, rfl⟩
def NoL (w : World) (v : Value) : Prop := v = .pointer none \/ ∃ p, v = .pointer (some ⟨p, 0, none⟩) /\ LnA w p (lf0 0)
theorem NoL.below {w w' : World} {v : Value} (h : NoL w v) (hb : Below w.heap.size w w') : NoL w' v := by
 rcases h with h | ⟨p, h, h1⟩
 ·exact .inl h
 ·exact .inr ⟨p, h, h1.below hb⟩
theorem ld (w : World) {v : Value} (h : NoL w v) : Calls prog 64 #[v] w fun e w' => e = .returned (.int .i64 0) /\ w = w' := by
 rcases h with rfl | ⟨p, rfl, h⟩
 ·exact tj w
 ·exact jG w h
theorem rJ (w : World) {v : Value} {n : Int} (t : Bool) (h : Calls prog 64 #[v] w fun e w' => e = .returned (.int .i64 n) /\ w = w') (ht : decide (0 < n) = t) : Calls prog 101 #[v] w fun e w' => e = .returned (.bool t) /\ w = w' := by
 have HC := ae h;have HT := ae ht;clear h ht;go_enter func101, ntmps101;go_upto_region 1 with fail;refine aI 1 ?_;refine ay rfl (aB call64 rfl (evc akt evn)) ?_;refine (HC.out).mono ?_;rintro e w' ⟨rfl, rfl⟩;refine aR ?_;refine akj (dA t rfl akt evk HT) ?_;refine aF 1 ?_;go_wp2_with fail;go_ret;exact ⟨rfl, rfl⟩
theorem aaU (w : World) (v : Value) (m : Int) (h : NoL w v) : Calls prog 65 #[v, .int .i64 m] w fun e w' => e = .returned (.int .i64 1) /\ w = w' := by
 have HC := ae (rJ w false (ld w h) (by decide));clear h;go_enter func65, ntmps65;go_upto_region 1 with fail;refine aI 1 ?_;refine ay rfl (aB call101 rfl (evc akt evn)) ?_;refine (HC.out).mono ?_;rintro e w' ⟨rfl, rfl⟩;refine aR ?_;refine aF 2 ?_;go_wp2_with fail;go_ret;exact ⟨rfl, rfl⟩
theorem aiq (w : World) (m : Int) {p : Nat} {s : LnS} (h : LnA w p (lf s)) (hs : dV s) : Calls prog 65 #[.pointer (some ⟨p, 0, none⟩), .int .i64 m] w fun e w' => e = .returned (.int .i64 (lnE s m)) /\ w = w' := by
 have HC := ae (rJ w true (jG w h) (ao (by have := hs.lo; show (0 : Int) < (s.l.length : Int); omega)));have HL := ae h;clear h hs;go_enter func65, ntmps65;go_upto_region 1 with fail;refine aI 1 ?_;refine ay rfl (aB call101 rfl (evc akt evn)) ?_;refine (HC.out).mono ?_;rintro e w' ⟨rfl, rfl⟩;refine aR ?_;refine aF 2 ?_;go_upto_region 3 with fail;refine aI 1 ?_;by_cases h0 : m < 0
 ·have H0 : Hid (decide (m < 0) = true) := ae (ao h0);have HE : Hid (lnE s m = 2) := ae (pR (by unfold lnR; rw [am (by omega)]; rfl));clear h0;refine akj (aY true rfl akt evk H0) ?_;refine a7 6 rfl (aM rfl akt) (by kernel_rfl) ?_;simp only [bL, ac, aa];refine aF 2 ?_;go_wp2_with fail;go_ret;exact ⟨by rw [HE.out]; rfl, rfl⟩
 have H0 : Hid (decide (m < 0) = false) := ae (am h0);refine akj (aY false rfl akt evk H0) ?_;refine runs 3 ?_;refine runs 1 ?_;refine akq (ax rfl akt adg) ?_;refine akq (aD rfl akt (cd HL.out.cN)) ?_;by_cases h1 : (s.l.length : Int) <= m
 ·have H1 : Hid (decide ((s.l.length : Int) <= m) = true) := ae (ao h1);have HE : Hid (lnE s m = 2) := ae (pR (by unfold lnR; rw [am (p := m < (s.l.length : Int)) (by omega), Bool.and_false]));clear h0 h1;refine akq (dD true rfl akt akt H1) ?_;refine aF 2 ?_;go_wp2_with fail;go_ret;exact ⟨by rw [HE.out]; rfl, rfl⟩
 have H1 : Hid (decide ((s.l.length : Int) <= m) = false) := ae (am h1);have HE : Hid (lnE s m = 0) := ae (by unfold lnE lnR; rw [ao (p := 0 <= m) (by omega), ao (p := m < (s.l.length : Int)) (by omega)]; rfl);clear h0 h1;refine akq (dD false rfl akt akt H1) ?_;refine aF 2 ?_;go_wp2_with fail;go_ret;exact ⟨by rw [HE.out]; rfl, rfl⟩
theorem ja (w : World) {m e : Int} {p : Nat} {s : LnS} (h : LnA w p (lf s)) (hs : dV s) (he : lnE s m = e) : Calls prog 65 #[.pointer (some ⟨p, 0, none⟩), .int .i64 m] w fun a w' => a = .returned (.int .i64 e) /\ w = w' := by
 subst he; exact aiq w m h hs
theorem yb (N : Nat) (w : World) (h1 : 1 <= N) (h2 : N <= 16) : Calls prog 86 #[.int .i64 (N : Int)] w fun e w' => ∃ p, e = .returned (.tuple #[.pointer (some ⟨p, 0, none⟩), .int .i64 0]) /\ (LnA w' p (lf (ed N)) /\ w.heap.size <= p) /\ Below w.heap.size w w' := by
 have H0 : Hid (decide ((N : Int) < 1) = false) := ae (am (by omega));have H1 : Hid (decide ((16 : Int) < (N : Int)) = false) := ae (am (by omega));clear h1 h2;go_enter func86, ntmps86;go_upto_region 1 with fail;refine aI 1 ?_;refine akj (aY false rfl akt evk H0) ?_;refine runs 2 ?_;refine akq (dA false rfl akt evk H1) ?_;refine aF 1 ?_;go_upto_region 3 with fail;refine aI 1 ?_;refine akj (jn rfl akt (xw _)) ?_;refine akj (cO (cs := ij (lf0 (N : Int))) rfl akt) ?_;refine aF 2 ?_;go_wp2_with fail;go_ret2;refine ⟨_, rfl, ⟨?_, aj⟩, ak.alloc aj _⟩;rw [ahg];exact heap_alloc_new w _
def PLn (w : World) (B p : Nat) (s : LnS) : Prop := LnA w p (lf s) /\ B <= p /\ dV s
theorem xf {s : LnS} {k Q : Nat} (b : Blk) (hk : k < s.l.length) (hq : Q ≠ 0) : lf (ey s (k : Int) b Q) = { lf s with kn := gM (lf s).kn k true, bl := gM (lf s).bl k b, dt := gM (lf s).dt k true, f := (rT s.f Q : Nat) } := by
 rw [qg hk hq, adi hk]; rfl
theorem ahj {s : LnS} {k : Nat} (hk : k < s.l.length) : lf (fW s (k : Int)) = { lf s with kn := gM (lf s).kn k false, dt := gM (lf s).dt k false, bl := gM (lf s).bl k aJ } := by
 rw [acN hk, adi hk]; rfl
theorem agU (w : World) (m : Int) {B p : Nat} {s : LnS} (h : PLn w B p s) : Calls prog 32 #[.pointer (some ⟨p, 0, none⟩), .int .i64 m] w fun e w' => e = .returned (.tuple #[blk (lnG s m).b, .bool (lnG s m).kn]) /\ Below w.heap.size w w' := by
 obtain ⟨h, hB, hs⟩ := h;have HB1 : Hid (Below w.heap.size w (w.alloc (.cells (cel aJ).toArray 44))) := ae (ak.alloc aj _);have HL : Hid (LnA (w.alloc (.cells (cel aJ).toArray 44)) p (lf s)) := ae (h.below HB1);have HT := ae (fB w aJ 44);have HNE : Hid (p ≠ w.heap.size) := ae (by have := h.lt; omega);have HS := ae hs;clear h hB hs;go_enter func32, ntmps32;go_upto_region 0 with fail;refine af ?_;refine akj (bU rfl) ?_;refine aF 1 ?_;generalize w.alloc (.cells (cel aJ).toArray 44) = w1 at *;cases hr : lnR s m
 ·have HE := ae (pR hr);have HR := ae hr;clear hr;go_upto_region 1 with fail;refine aI 2 ?_;refine ay rfl (aB call65 rfl (evc akt (evc akt evn))) ?_;refine (ja _ HL HS HE).mono ?_;rintro e w' ⟨rfl, rfl⟩;refine aR ?_;refine akj (aK true rfl akt evk rfl) ?_;refine ah ?_;go_upto_region 2 with fail;refine af ?_;refine akj (dy (c := aJ) (parts := []) rfl rfl) ?_;refine aG rfl (bO rfl (ev rfl) (ev rfl) HT.out) ?_;simp only [aa];refine aF 1 ?_;go_wp2_with fail;exact bodyPost_ret (dC rfl _ _ _ rfl (World.rangeAt_setCells_same _ _ _ _ (by rw [aO]; exact HT))) rfl ⟨by rw [ag4 HR.out]; rfl, below_setCells HB1 aj _⟩
 obtain ⟨k, rfl, hk⟩ := kL hr;have HE := ae (xA hk);have HKL := ae hk;have HK : Hid (k < 16) := ae (au hk HS.out.hi);clear hr hk;go_upto_region 1 with fail;refine aI 2 ?_;refine ay rfl (aB call65 rfl (evc akt (evc akt evn))) ?_;refine (ja _ HL HS HE).mono ?_;rintro e w' ⟨rfl, rfl⟩;refine aR ?_;refine akj (aK false rfl akt evk rfl) ?_;refine ah ?_;have HS1 : Hid (LnA (World.drew w1) p (lf s) /\ (World.drew w1).there w.heap.size 0 64) := ae ⟨HL.out.drew, there_drew HT⟩;have HW2 : Hid (LnA ((World.drew w1).setCells w.heap.size 0 (cel (da s k).b)) p (lf s)) := ae (by
  show _ = _
  rw [eY w.heap.size _ _ _ p HNE.out];exact HL.out.drew)
 have HT2 : Hid (((World.drew w1).setCells w.heap.size 0 (cel (da s k).b)).there w.heap.size 0 64) := ae (aaH (there_drew HT));have HR2 : Hid (((World.drew w1).setCells w.heap.size 0 (cel (da s k).b)).rangeAt w.heap.size 0 (cel (da s k).b)) := ae (World.rangeAt_setCells_same _ _ _ _ (by rw [aO]; exact there_drew HT));have HB2 : Hid (Below w.heap.size w ((World.drew w1).setCells w.heap.size 0 (cel (da s k).b))) := ae (below_setCells HB1.out.drew aj _);go_upto_region 3 with fail;refine wp_region_held (S := fun w' => LnA w' p (lf s) /\ w'.there w.heap.size 0 64) (by kernel_rfl) ?_;change wpAnyH _ _ _ _ _ 14 _ _ w1.drew;refine akG 0 rfl HS1 ?_;refine akG 1 rfl HS1 ?_;refine akI 2 rfl HS1 ?_;refine akm 3 rfl (fun _ hw => ax rfl akt xa) HS1 ?_;refine akm 4 rfl (fun _ hw => cU rfl akt akt (ahh HK)) HS1 ?_;refine akm 5 rfl (fun _ hw => bI (c := (da s k).b) rfl akt (hw.1.cB HK)) HS1 ?_;refine akG 6 rfl HS1 ?_;refine akG 7 rfl HS1 ?_;refine akI 8 rfl HS1 ?_;refine akm 9 rfl (fun _ hw => ax rfl akt wG) HS1 ?_;refine akm 10 rfl (fun _ hw => cU rfl akt akt (vN HK)) HS1 ?_;refine akm 11 rfl (fun _ hw => aD rfl akt (adH (hw.1.cK HK))) HS1 ?_;refine dK 12 rfl (by kernel_rfl) rfl (bO rfl (ev rfl) (ev rfl) (there_drew HT.out)) ⟨HW2.out, HT2.out⟩ ?_;simp only [Act.put];generalize (World.drew w1).setCells w.heap.size 0 (cel (da s k).b) = w2 at *;refine akH 13 rfl ⟨HW2, HT2⟩ ?_;refine wpAnyH_done (by kernel_rfl) ?_ _;go_wp2_with fail;exact bodyPost_ret (dC rfl _ _ _ rfl HR2) rfl ⟨by rw [ail HKL.out]; rfl, HB2⟩
theorem acn (w : World) {B p : Nat} {s : LnS} (h : PLn w B p s) : Calls prog 31 #[.pointer (some ⟨p, 0, none⟩)] w fun e w' => ∃ v, e = .returned v /\ aN bP w' w.heap.size v (lnD s) /\ Below w.heap.size w w' := by
 obtain ⟨h, hB, hs⟩ := h;have HH := ae h;have HN : Hid (s.l.length <= 16) := ae hs.hi;have HC := ae (jG w h);clear h hB hs;go_enter func31, ntmps31;go_upto_region 2 with fail;refine aI 1 ?_;refine ay rfl (aB call64 rfl (evc akt evn)) ?_;refine (HC.out).mono ?_;rintro e w' ⟨rfl, rfl⟩;refine aR ?_;refine aF 1 ?_;go_wp2_with fail
 go_loopw [3, 7] (fun z c wr => ∃ i : Nat, c = .int .i64 i /\ i <= s.l.length /\ aN bP wr w.heap.size z (gO s.l i) /\ Below w.heap.size w wr) (fun _ c _ => s.l.length - (intOf c).toNat)
 case atStart => exact ⟨0, by go_num, Nat.zero_le _, aN.nil _ _, ak⟩
 case round =>
  obtain ⟨i, rfl, hi, hm, hb⟩ := hrel;have HM := ae hm;have HW := ae hb;have HL := ae (HH.out.below hb);have HBS : Hid (w.heap.size <= wr.heap.size) := ae hb.size;by_cases hlt : i < s.l.length
  ·have HI := ae hlt;have HK : Hid (i < 16) := ae (by have := HN.out; omega);have HT : Hid (decide ((i : Int) < (s.l.length : Int)) = true) := ae (ao (by omega));have HA : Hid (IntKind.i64.wrap ((i : Int) + 1) = ((i + 1 : Nat) : Int)) := ae (by have := HN.out; rw [ajD ⟨by omega, by omega⟩]; omega);clear hm hb hi hlt;go_upto_region 3 with fail;refine af ?_;refine akj (aY true rfl akt akt HT) ?_;refine ah ?_;go_upto_region 4 with fail;refine cf 2 ?_;cases hd : (da s i).dt
   ·have HD := ae hd;have HST : Hid (gO s.l (i + 1) = gO s.l i) := ae (by rw [gO, show (s.l.getD i lc0).dt = false from HD.out]; simp);clear hd;go_upto_region 5 with fail;refine aI 3 ?_;refine akj (ax rfl akt p9) ?_;refine akj (cU rfl akt akt (vN HK)) ?_;refine akj (aD rfl akt (adH ((HL.out.cD HK.out).trans (congrArg (fun t => some (Value.bool t)) HD)))) ?_;refine ah ?_;go_upto_region 7 with fail;refine af ?_;refine akj (bH rfl akt evk HA) ?_;refine aF 1 ?_;go_wp2_with fail;go_roundw
    case rel => exact ⟨i + 1, by go_num, HI, by rw [HST.out]; exact HM, HW⟩
    case measure => have := HI.out; simp [intOf]; omega
   have HD := ae hd;have HST : Hid (gO s.l (i + 1) = gO s.l i ++ [(i : Int)]) := ae (by rw [gO, show (s.l.getD i lc0).dt = true from HD.out]; rfl);have hsz : (wr.alloc (.cells #[.int .i64 (i : Int)] 3)).heap.size = wr.heap.size + 1 := al;obtain ⟨v2, w2, hrun, hm2, hg2⟩ := gB bP (wr.alloc (.cells #[.int .i64 (i : Int)] 3)) 35 w.heap.size (wr.heap.size + 1) 1 1 u3 (gO s.l i) [(i : Int)] (some ⟨wr.heap.size, 0, none⟩) (aN.below HM (ak.alloc aj _)) (fS (E := bP) (l := [(i : Int)]) wr #[.int .i64 (i : Int)] 3 rfl) (by have := HBS.out; omega) (by have := yH s.l i; have := HI.out; have := HN.out; simp; omega);have HRUN := ae hrun;have HM2 : Hid (aN bP w2 w.heap.size v2 (gO s.l (i + 1))) := ae (by rw [HST.out]; exact hm2);have HW2 : Hid (Below w.heap.size w w2) := ae ((HW.out.trans (ak.alloc HBS _)).grown hg2 (by have := HBS.out; omega) (fun j' hj' => HM.out.gH j' hj'));clear hd hsz hrun hm2 hg2;go_upto_region 5 with fail;refine aI 3 ?_;refine akj (ax rfl akt p9) ?_;refine akj (cU rfl akt akt (vN HK)) ?_;refine akj (aD rfl akt (adH ((HL.out.cD HK.out).trans (congrArg (fun t => some (Value.bool t)) HD)))) ?_;refine ah ?_;go_upto_region 6 with fail;refine aI 2 ?_;refine akj (eA (E := bP) (a := (i : Int)) rfl akt rfl (by decide)) ?_;refine akj (gh (E := bP) rfl akt akt HRUN) ?_;refine aF 1 ?_;go_upto_region 7 with fail;refine af ?_;refine akj (bH rfl akt evk HA) ?_;refine aF 1 ?_;go_wp2_with fail;go_roundw
   case rel => exact ⟨i + 1, by go_num, HI, HM2, HW2⟩
   case measure => have := HI.out; simp [intOf]; omega
  have hin : i = s.l.length := by omega
  subst hin;have HT : Hid (decide ((s.l.length : Int) < (s.l.length : Int)) = false) := ae (am (by omega));clear hlt hi hm hb;go_upto_region 3 with fail;refine af ?_;refine akj (aY false rfl akt akt HT) ?_;refine ah ?_;go_wp2_with fail;go_ret;exact ⟨_, rfl, HM, HW⟩
theorem ah2 (w : World) (v : Value) (m : Int) (h : NoL w v) : Calls prog 32 #[v, .int .i64 m] w fun e w' => e = .returned (.tuple #[blk aJ, .bool false]) /\ Below w.heap.size w w' := by
 have HB1 : Hid (Below w.heap.size w (w.alloc (.cells (cel aJ).toArray 44))) := ae (ak.alloc aj _);have HN := ae (h.below HB1);have HT := ae (fB w aJ 44);clear h;go_enter func32, ntmps32;go_upto_region 0 with fail;refine af ?_;refine akj (bU rfl) ?_;refine aF 1 ?_;generalize w.alloc (.cells (cel aJ).toArray 44) = w1 at *;go_upto_region 1 with fail;refine aI 2 ?_;refine ay rfl (aB call65 rfl (evc akt (evc akt evn))) ?_;refine (aaU _ _ m HN).mono ?_;rintro e w' ⟨rfl, rfl⟩;refine aR ?_;refine akj (aK true rfl akt evk rfl) ?_;refine ah ?_;go_upto_region 2 with fail;refine af ?_;refine akj (dy (c := aJ) (parts := []) rfl rfl) ?_;refine aG rfl (bO rfl (ev rfl) (ev rfl) HT.out) ?_;simp only [aa];refine aF 1 ?_;go_wp2_with fail;exact bodyPost_ret (dC rfl _ _ _ rfl (World.rangeAt_setCells_same _ _ _ _ (by rw [aO]; exact HT))) rfl ⟨rfl, below_setCells HB1 aj _⟩
theorem aa0 (w : World) (v : Value) (h : NoL w v) : Calls prog 31 #[v] w fun e w' => e = .returned (.slice none 0 0) /\ Below w.heap.size w w' := by
 have HC := ae (ld w h);clear h;go_enter func31, ntmps31;go_upto_region 2 with fail;refine aI 1 ?_;refine ay rfl (aB call64 rfl (evc akt evn)) ?_;refine (HC.out).mono ?_;rintro e w' ⟨rfl, rfl⟩;refine aR ?_;refine aF 1 ?_;go_wp2_with fail
 go_loopw [3, 7] (fun z c wr => c = .int .i64 0 /\ z = .slice none 0 0 /\ w = wr) (fun _ c _ => 0)
 case atStart => exact ⟨by first | rfl | trivial, by first | rfl | trivial, by first | rfl | trivial⟩
 case round =>
  obtain ⟨rfl, rfl, rfl⟩ := hrel;go_upto_region 3 with fail;refine af ?_;refine akj (aY false rfl akt akt rfl) ?_;refine ah ?_;go_wp2_with fail;go_ret;exact ⟨rfl, ak⟩
theorem bZ.setCells {I : Obj -> Prop} {F : Nat -> Prop} {w w1 : World} {p : Nat} {ob : Obj} (h : bZ I F w w1) (hF : F p) (ho : w1.heap[p]? = some ob) (hI : ∀ cs t fr, ob = .cells cs t fr -> I ob) (hc : I ob) (o : Nat) (vs : List Value) : bZ I F w (w1.setCells p o vs) :=
 h.trans (Only.setCells (Only.refl _ _) (.inl ⟨hF, fun o2 ho2 => by rw [ho] at ho2; cases ho2; exact hc⟩) vs o)
def qB (w : World) (B : Nat -> Prop) (p : Nat) (s : LnS) : Prop := LnA w p (lf s) /\ B p /\ dV s
section
variable {B : Nat -> Prop} {w : World} {p : Nat} {x : LnF}
theorem LnA.t1F {w0 : World} (h : LnA w p x) (ht : bZ mA B w0 w) (hB : B p) (j : Nat) (u : Value) : bZ mA B w0 (w.setCell ⟨p, j, none⟩ u) := ht.setCell (p := ⟨p, j, none⟩) hB h rfl u
theorem LnA.tnF {w0 : World} (h : LnA w p x) (ht : bZ mA B w0 w) (hB : B p) (o : Nat) (vs : List Value) : bZ mA B w0 (w.setCells p o vs) := ht.setCells hB h (fun _ _ _ _ => rfl) rfl o vs
end
theorem abm (w : World) (k : Nat) (b : Blk) {B : Nat -> Prop} {p : Nat} {x : LnF} (h : LnA w p x) (hk : k < 16) (hB : B p) : Calls prog 87 #[.pointer (some ⟨p, 0, none⟩), .int .i64 (k : Int), blk b] w fun e w' => e = .returned (.tuple #[]) /\ LnA w' p { x with kn := gM x.kn k true, bl := gM x.bl k b } /\ bZ mA B w w' := by
 have HK := ae hk;have hne : w.heap.size ≠ p := by have := h.lt; omega
 have HB1 : Hid (Below w.heap.size w (w.alloc (.cells (cel b).toArray 44))) := ae (ak.alloc aj _);have HL : Hid (LnA (w.alloc (.cells (cel b).toArray 44)) p x) := ae (h.below HB1);have HX : Hid ((w.alloc (.cells (cel b).toArray 44)).rangeAt w.heap.size 0 (cel b)) := ae (dQ w (cel b) _);have HNE := ae hne;have HBp := ae hB;clear h hk hne hB;go_enter func87, ntmps87;go_upto_region 0 with fail;refine af ?_;refine akj (cY rfl akt) ?_;refine ah ?_;generalize w.alloc (.cells (cel b).toArray 44) = w1 at *;have HXd : Hid ((World.drew w1).rangeAt w.heap.size 0 (cel b)) := ae HX;have HX2 : Hid (((World.drew w1).setCell ⟨p, 1 + k, none⟩ (.bool true)).rangeAt w.heap.size 0 (cel b)) := ae (World.rangeAt_setCells_apart HXd p (1 + k) [.bool true] (.inl HNE));have HL2 : Hid (LnA ((World.drew w1).setCell ⟨p, 1 + k, none⟩ (.bool true)) p { x with kn := gM x.kn k true }) := ae (HL.out.drew.sK HK true);have HT2 : Hid (bZ mA B w ((World.drew w1).setCell ⟨p, 1 + k, none⟩ (.bool true))) := ae (HL.out.drew.t1F (bZ.of_below HB1).drew HBp _ _);have HC2 := ae (HL.out.drew.cK HK);have HF2 := ae (HL.out.drew.fz (1 + k));go_upto_region 1 with fail;refine wp_region_held (S := fun w' => w'.rangeAt w.heap.size 0 (cel b)) (by kernel_rfl) ?_;change wpAnyH _ _ _ _ _ 13 _ _ w1.drew;refine akG 0 rfl HXd ?_;refine akG 1 rfl HXd ?_;refine akG 2 rfl HXd ?_;refine akG 3 rfl HXd ?_;refine akm 4 rfl (fun _ hw => bI rfl akt hw) HXd ?_;refine akI 5 rfl HXd ?_;refine akm 6 rfl (fun _ hw => ax rfl akt wG) HXd ?_;refine akm 7 rfl (fun _ hw => cU rfl akt akt (vN HK)) HXd ?_;refine akI 9 rfl HXd ?_;refine akm 10 rfl (fun _ hw => ax rfl akt xa) HXd ?_;refine dK 8 rfl (by kernel_rfl) rfl (df rfl (ev rfl) evk (xY HC2.out HF2.out)) HX2.out ?_;simp only [Act.put];generalize (World.drew w1).setCell ⟨p, 1 + k, none⟩ (.bool true) = w2 at *;have HTH := ae (HL2.out.there (o := 33 + k * 64) (m := 64) (by have := HK.out; omega));have HX3 : Hid ((w2.setCells p (33 + k * 64) (cel b)).rangeAt w.heap.size 0 (cel b)) := ae (World.rangeAt_setCells_apart HX2 p _ _ (.inl HNE));have HL3 : Hid (LnA (w2.setCells p (33 + k * 64) (cel b)) p { x with kn := gM x.kn k true, bl := gM x.bl k b }) := ae (HL2.out.sB HK b);have HT3 : Hid (bZ mA B w (w2.setCells p (33 + k * 64) (cel b))) := ae (HL2.out.tnF HT2 HBp _ _);refine akm 11 rfl (fun _ hw => cU rfl akt akt (ahh HK)) HX2 ?_;refine dK 12 rfl (by kernel_rfl) rfl (bO rfl (ev rfl) (ev rfl) HTH.out) HX3.out ?_;simp only [Act.put];generalize w2.setCells p (33 + k * 64) (cel b) = w3 at *;refine wpAnyH_done (by kernel_rfl) ?_ _;go_wp2_with fail;exact bodyPost_end (results_none rfl _ _ _) rfl ⟨rfl, HL3, HT3⟩
theorem afk (w : World) (m : Int) (b : Blk) (Q : Nat) {B : Nat -> Prop} {p : Nat} {s : LnS} (h : qB w B p s) (hQ : Q < 18446744073709551616) : Calls prog 54 #[.pointer (some ⟨p, 0, none⟩), .int .i64 m, blk b, .int .u64 (Q : Int)] w fun e w' => e = .returned (.int .i64 (qz s m Q)) /\ qB w' B p (ey s m b Q) /\ bZ mA B w w' := by
 obtain ⟨h, hB, hs⟩ := h;have HQ := ae hQ;clear hQ;have HB1 : Hid (Below w.heap.size w (w.alloc (.cells (cel b).toArray 44))) := ae (ak.alloc aj _);have HL : Hid (LnA (w.alloc (.cells (cel b).toArray 44)) p (lf s)) := ae (h.below HB1);have HX : Hid ((w.alloc (.cells (cel b).toArray 44)).rangeAt w.heap.size 0 (cel b)) := ae (dQ w (cel b) _);have HBp := ae hB;have HS := ae hs;clear h hB hs;go_enter func54, ntmps54;go_upto_region 0 with fail;refine af ?_;refine akj (cY rfl akt) ?_;refine aF 1 ?_;generalize w.alloc (.cells (cel b).toArray 44) = w1 at *;cases hr : lnR s m
 ·have HE := ae (pR hr);have HR := ae hr;clear hr;go_upto_region 1 with fail;refine aI 2 ?_;refine ay rfl (aB call65 rfl (evc akt (evc akt evn))) ?_;refine (ja _ HL HS HE).mono ?_;rintro e w' ⟨rfl, rfl⟩;refine aR ?_;refine aF 1 ?_;go_upto_region 2 with fail;refine aI 1 ?_;refine akj (aK true rfl akt evk rfl) ?_;refine ah ?_;go_wp2_with fail;go_ret;exact ⟨by rw [afP HR.out]; rfl, by rw [abJ HR.out]; exact ⟨HL, HBp, HS⟩, bZ.of_below HB1⟩
 obtain ⟨k, rfl, hk⟩ := kL hr;have HE := ae (xA hk);have HKL := ae hk;have HK : Hid (k < 16) := ae (au hk HS.out.hi);clear hr hk;go_upto_region 1 with fail;refine aI 2 ?_;refine ay rfl (aB call65 rfl (evc akt (evc akt evn))) ?_;refine (ja _ HL HS HE).mono ?_;rintro e w' ⟨rfl, rfl⟩;refine aR ?_;refine aF 1 ?_;go_upto_region 2 with fail;refine aI 1 ?_;refine akj (aK false rfl akt evk rfl) ?_;refine ah ?_;by_cases hq0 : Q = 0
 ·subst hq0;have HZ : Hid ((((0 : Nat) : Int) == 0) = true) := ae rfl;go_upto_region 4 with fail;refine aI 1 ?_;refine akj (aH true rfl akt evk HZ) ?_;refine ah ?_;go_wp2_with fail;go_ret;exact ⟨by rw [ahK]; rfl, by rw [ae8]; exact ⟨HL, HBp, HS⟩, bZ.of_below HB1⟩
 have HZ : Hid (((Q : Int) == 0) = false) := ae (av (by omega));have HQ0 := ae hq0;clear hq0;go_upto_region 4 with fail;refine aI 1 ?_;refine akj (aH false rfl akt evk HZ) ?_;refine ah ?_;go_upto_region 6 with fail;refine aI 2 ?_;refine akj (bI rfl akt HX) ?_;refine ay rfl (aB call87 rfl (evc akt (evc akt (evc akt evn)))) ?_;refine (abm _ k b HL HK HBp).mono ?_;rintro e w2 ⟨rfl, h2, t2⟩;have HL2 := ae h2;have HT2 := ae ((bZ.of_below HB1).trans t2);clear h2 t2;refine aR ?_;refine ah ?_;have HC2 := ae (HL2.out.cD HK);have HF2 := ae (HL2.out.fz (17 + k));have HL3 := ae (HL2.out.sD HK true);have HT3 := ae (HL2.out.t1F HT2 HBp (17 + k) (.bool true));go_upto_region 7 with fail;refine aI 3 ?_;refine akj (ax rfl akt p9) ?_;refine akj (cU rfl akt akt (vN HK)) ?_;refine aG rfl (df rfl (ev rfl) evk (xY HC2.out HF2.out)) ?_;simp only [aa];generalize w2.setCell ⟨p, 17 + k, none⟩ (.bool true) = w3 at *;refine ah ?_;have HC3 : Hid (w3.cell? ⟨p, 1057, none⟩ = some (.int .u64 (s.f : Int))) := ae HL3.out.cF;have HF3 := ae (HL3.out.fz 1057);have HL4 := ae (HL3.out.sF (Q : Int));have HT4 := ae (HL3.out.t1F HT3 HBp 1057 (.int .u64 (Q : Int)));have HSE : Hid (qz s (k : Int) Q = 0) := ae (yt HKL HQ0);have HOK : Hid (dV (ey s (k : Int) b Q)) := ae (HS.out.set _ _ HQ);go_upto_region 8 with fail;refine aI 2 ?_;refine akj (ax rfl akt om) ?_;refine akj (aD rfl akt (mc HC3)) ?_;by_cases hf : s.f = 0
 ·have HZf : Hid (((s.f : Int) == 0) = true) := ae (beq_iff_eq.2 (by omega));have HM : Hid (rT s.f Q = Q) := ae (if_pos (.inl hf));clear hf;refine akj (aH true rfl akt evk HZf) ?_;refine a7 6 rfl (aM rfl akt) (by kernel_rfl) ?_;simp only [bL, ac, aa];refine aF 1 ?_;go_upto_region 9 with fail;refine aI 3 ?_;refine akj (ax rfl akt om) ?_;refine aG rfl (df rfl (ev rfl) (ev rfl) (xG HC3.out HF3.out)) ?_;simp only [aa];generalize w3.setCell ⟨p, 1057, none⟩ (.int .u64 (Q : Int)) = w4 at *;refine ah ?_;go_wp2_with fail;go_ret;exact ⟨by rw [HSE.out]; rfl, ⟨by rw [xf b HKL.out HQ0.out, HM.out]; exact HL4, HBp, HOK⟩, HT4⟩
 have HZf : Hid (((s.f : Int) == 0) = false) := ae (av (by omega));refine akj (aH false rfl akt evk HZf) ?_;refine runs 3 ?_;refine runs 1 ?_;refine akq (ax rfl akt om) ?_;refine akq (aD rfl akt (mc HC3)) ?_;by_cases hl : Q < s.f
 ·have HLS : Hid (decide ((Q : Int) < (s.f : Int)) = true) := ae (ao (by omega));have HM : Hid (rT s.f Q = Q) := ae (if_pos (.inr hl));clear hf hl;refine akq (aY true rfl akt akt HLS) ?_;refine aF 1 ?_;go_upto_region 9 with fail;refine aI 3 ?_;refine akj (ax rfl akt om) ?_;refine aG rfl (df rfl (ev rfl) (ev rfl) (xG HC3.out HF3.out)) ?_;simp only [aa];generalize w3.setCell ⟨p, 1057, none⟩ (.int .u64 (Q : Int)) = w4 at *;refine ah ?_;go_wp2_with fail;go_ret;exact ⟨by rw [HSE.out]; rfl, ⟨by rw [xf b HKL.out HQ0.out, HM.out]; exact HL4, HBp, HOK⟩, HT4⟩
 have HLS : Hid (decide ((Q : Int) < (s.f : Int)) = false) := ae (am (by omega));have HM : Hid (rT s.f Q = s.f) := ae (if_neg (by omega));clear hf hl;refine akq (aY false rfl akt akt HLS) ?_;refine aF 1 ?_;go_wp2_with fail;go_ret;exact ⟨by rw [HSE.out]; rfl, ⟨by rw [xf b HKL.out HQ0.out, HM.out]; exact HL3, HBp, HOK⟩, HT3⟩
theorem xr (w : World) (m : Int) {B : Nat -> Prop} {p : Nat} {s : LnS} (h : qB w B p s) : Calls prog 57 #[.pointer (some ⟨p, 0, none⟩), .int .i64 m] w fun e w' => e = .returned (.int .i64 (lnE s m)) /\ qB w' B p (fW s m) /\ bZ mA B w w' := by
 obtain ⟨h, hB, hs⟩ := h;have HL := ae h;have HBp := ae hB;have HS := ae hs;clear h hB hs;go_enter func57, ntmps57;cases hr : lnR s m
 ·have HE := ae (pR hr);have HR := ae hr;clear hr;go_upto_region 1 with fail;refine aI 2 ?_;refine ay rfl (aB call65 rfl (evc akt (evc akt evn))) ?_;refine (ja _ HL HS HE).mono ?_;rintro e w' ⟨rfl, rfl⟩;refine aR ?_;refine aF 1 ?_;go_upto_region 2 with fail;refine aI 1 ?_;refine akj (aK true rfl akt evk rfl) ?_;refine ah ?_;go_wp2_with fail;go_ret;exact ⟨by rw [HE.out]; rfl, by rw [acV HR.out]; exact ⟨HL, HBp, HS⟩, bZ.refl _ _ _⟩
 obtain ⟨k, rfl, hk⟩ := kL hr;have HE := ae (xA hk);have HKL := ae hk;have HK : Hid (k < 16) := ae (au hk HS.out.hi);clear hr hk;go_upto_region 1 with fail;refine aI 2 ?_;refine ay rfl (aB call65 rfl (evc akt (evc akt evn))) ?_;refine (ja _ HL HS HE).mono ?_;rintro e w' ⟨rfl, rfl⟩;refine aR ?_;refine aF 1 ?_;go_upto_region 2 with fail;refine aI 1 ?_;refine akj (aK false rfl akt evk rfl) ?_;refine ah ?_;have HC0 := ae (HL.out.drew.cK HK);have HF0 := ae (HL.out.drew.fz (1 + k));have HL1 := ae (HL.out.drew.sK HK false);have HT1 := ae (HL.out.drew.t1F (bZ.refl mA B w).drew HBp (1 + k) (.bool false));go_upto_region 4 with fail;refine wp_region_held (S := fun _ => True) (by kernel_rfl) ?_;change wpAnyH _ _ _ _ _ 19 _ _ w.drew;refine akG 0 rfl trivial ?_;refine akG 1 rfl trivial ?_;refine akG 2 rfl trivial ?_;refine akG 3 rfl trivial ?_;refine akG 4 rfl trivial ?_;refine akG 5 rfl trivial ?_;refine akm 6 rfl (fun _ hw => dy (c := aJ) (parts := []) rfl rfl) trivial ?_;refine akI 7 rfl trivial ?_;refine akm 8 rfl (fun _ hw => ax rfl akt wG) trivial ?_;refine akI 11 rfl trivial ?_;refine akm 12 rfl (fun _ hw => ax rfl akt p9) trivial ?_;refine akI 15 rfl trivial ?_;refine akm 16 rfl (fun _ hw => ax rfl akt xa) trivial ?_;refine akm 9 rfl (fun _ hw => cU rfl akt akt (vN HK)) trivial ?_;refine dK 10 rfl (by kernel_rfl) rfl (df rfl (ev rfl) evk (xY HC0.out HF0.out)) trivial ?_;simp only [Act.put];generalize (World.drew w).setCell ⟨p, 1 + k, none⟩ (.bool false) = w1 at *;have HC1 := ae (HL1.out.cD HK);have HF1 := ae (HL1.out.fz (17 + k));have HL2 := ae (HL1.out.sD HK false);have HT2 := ae (HL1.out.t1F HT1 HBp (17 + k) (.bool false));refine akm 13 rfl (fun _ hw => cU rfl akt akt (vN HK)) trivial ?_;refine dK 14 rfl (by kernel_rfl) rfl (df rfl (ev rfl) evk (xY HC1.out HF1.out)) trivial ?_;simp only [Act.put];generalize w1.setCell ⟨p, 17 + k, none⟩ (.bool false) = w2 at *;have HTH := ae (HL2.out.there (o := 33 + k * 64) (m := 64) (by have := HK.out; omega));have HL3 := ae (HL2.out.sB HK aJ);have HT3 := ae (HL2.out.tnF HT2 HBp (33 + k * 64) (cel aJ));refine akm 17 rfl (fun _ hw => cU rfl akt akt (ahh HK)) trivial ?_;refine dK 18 rfl (by kernel_rfl) rfl (bO rfl (ev rfl) (ev rfl) HTH.out) trivial ?_;simp only [Act.put];generalize w2.setCells p (33 + k * 64) (cel aJ) = w3 at *;refine wpAnyH_done (by kernel_rfl) ?_ _;go_wp2_with fail;go_ret;exact ⟨by rw [HE.out]; rfl, ⟨by rw [ahj HKL.out]; exact HL3, HBp, HS.out.frg _⟩, HT3⟩
theorem zw (w : World) {B : Nat -> Prop} {p : Nat} {s : LnS} (h : qB w B p s) : Calls prog 77 #[.pointer (some ⟨p, 0, none⟩)] w fun e w' => e = .returned (.int .i64 0) /\ qB w' B p (fV s) /\ bZ mA B w w' := by
 obtain ⟨h, hB, hs⟩ := h;have HC := ae (rJ w true (jG w h) (ao (by have := hs.lo; show (0 : Int) < (s.l.length : Int); omega)));have HL := ae h;have HBp := ae hB;have HS := ae hs;have HTH := ae (h.there (o := 17) (m := 16) (by omega));have HL1 := ae h.sD0;have HT1 := ae (h.tnF (bZ.refl mA B w) hB 17 qA);clear h hB hs;go_enter func77, ntmps77;go_upto_region 1 with fail;refine aI 1 ?_;refine ay rfl (aB call101 rfl (evc akt evn)) ?_;refine (HC.out).mono ?_;rintro e w' ⟨rfl, rfl⟩;refine aR ?_;refine aF 1 ?_;go_upto_region 3 with fail;refine aI 2 ?_;refine akj (mL rfl abT) ?_;refine runs 1 ?_;refine akj (ax rfl akt p9) ?_;refine aG rfl (wY rfl (ev rfl) (ev rfl) HTH.out) ?_;simp only [aa];generalize w.setCells p 17 qA = w1 at *;have HC1 := ae HL1.out.cF;have HF1 := ae (HL1.out.fz 1057);have HL2 := ae (HL1.out.sF 0);have HT2 := ae (HL1.out.t1F HT1 HBp 1057 (.int .u64 0));refine runs 1 ?_;refine akj (ax rfl akt om) ?_;refine aG rfl (df rfl (ev rfl) evk (xG HC1.out HF1.out)) ?_;simp only [aa];generalize w1.setCell ⟨p, 1057, none⟩ (.int .u64 0) = w2 at *;refine ah ?_;go_wp2_with fail;go_ret;exact ⟨rfl, ⟨by rw [ah7]; exact HL2, HBp, HS.out.cln⟩, HT2⟩
end Go.Proofs.YtlmdklakcmnaiaaGreatDoor
