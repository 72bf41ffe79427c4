import Derived.Test.YtlmdklakcmnaiaaGreatDoorBham
namespace Go.Proofs.YtlmdklakcmnaiaaGreatDoor
set_option maxHeartbeats 8000000
open Go.Proofs.Tryz
open Go.RowKit
set_option linter.unusedVariables false
set_option linter.unusedSimpArgs false
set_option maxRecDepth 100000
def hbC (f : Nat -> Bool) : List Value := (List.range 64).map fun j => .bool (f j)
theorem sU (f : Nat -> Bool) : (hbC f).length = 64 := by simp [hbC]
theorem wH (f : Nat -> Bool) {j : Nat} (h : j < 64) : (hbC f)[j]? = some (.bool (f j)) := by
 simp only [hbC, List.getElem?_map, List.getElem?_range h, Option.map_some]
theorem aft (f : Nat -> Bool) (k : Nat) (b : Bool) : (hbC f).set k (.bool b) = hbC (dh f k b) := by
 apply List.ext_getElem?;intro j;by_cases hj : j < 64
 ·rw [wH _ hj];by_cases e : k = j
  ·subst e; rw [List.getElem?_set_self (by rw [sU]; exact hj), c7]
  ·rw [List.getElem?_set_ne e, wH _ hj, cg _ _ fun e2 => e e2.symm]
 ·rw [List.getElem?_eq_none (by rw [List.length_set, sU]; omega), List.getElem?_eq_none (by rw [sU]; omega)]
def gV (w : World) (b : Nat) (f : Nat -> Bool) : Prop := w.heap[b]? = some (.cells (hbC f).toArray 118 (0, 0))
section
variable {w w' : World} {b k : Nat} {f : Nat -> Bool}
theorem gV.at_ (h : gV w b f) (hk : k < 64) : w.cell? ⟨b, k, none⟩ = some (.bool (f k)) := by
 have := (aQ h) k _ (wH f hk);rwa [Nat.zero_add] at this
theorem gV.fz (h : gV w b f) (j : Nat) : w.frozen? ⟨b, j, none⟩ = false := frozen_of_row w b j _ _ h
theorem gV.set (h : gV w b f) (k : Nat) : gV (w.setCell ⟨b, k, none⟩ (.bool true)) b (dh f k true) := by
 have := heap_setCell_same w b k _ _ (.bool true) h;unfold gV;rw [this, <- aft];simp
theorem ab2 : (prog.info? 118).map (fun i => i.zero) = some (some (.agg (hbC fun _ => false).toArray)) := by kernel_rfl
theorem gV.below (h : gV w b f) (hb : Below w.heap.size w w') : gV w' b f := aC h hb
theorem aji {off : Nat} (hk : k < 64) : (Instr.indexAt 118 (.pointer (some ⟨b, 0, none⟩)) (.int .i64 (k : Int))).run prog w = .ok (.pointer (some ⟨b, k, none⟩)) w := by
 have e : (0 <= (k : Int) /\ (k : Int) < 64) := by omega
 simp [Instr.indexAt, Instr.sureAddr, asIntOf, run_underlying underlying118, Tryz.sizeOf4, Addr.add_mid, e, hk]
end
theorem lr {ρ : Operand -> Value} {o : Oper} {x y : Operand} {w : World} {b k : Nat} (hk : k < 64) (ho : o.op = .indexAddr 118 x y) (hx : ρ x = .pointer (some ⟨b, 0, none⟩)) (hy : ρ y = .int .i64 (k : Int)) : (execOp ρ o).run prog w = .ok (.value (.pointer (some ⟨b, k, none⟩))) w := by
 unfold execOp;simp only [ho, hx, hy, Sem.run_bind, aji (off := 0) hk, Result.andThen_ok, Sem.run_pure]
def hbF (N : Nat) (l : List Cl) (j : Nat) : Bool := l.any (kD N j)
theorem ab0 {N : Nat} {l : List Cl} {i k : Nat} {x : Cl} (hi : i < l.length) (hx : l.getD i iH = x) (hk : x.s = (k : Int)) : hbF N (l.take (i + 1)) = if x.m = ((N - 1 - k % N : Nat) : Int) then dh (hbF N (l.take i)) k true else hbF N (l.take i) := by
 subst hx;have e : ∀ j, hbF N (l.take (i + 1)) j = (hbF N (l.take i) j || kD N j (l.getD i iH)) := fun j => by
  unfold hbF;rw [List.take_add_one, List.getElem?_eq_getElem hi, List.getD, List.getElem?_eq_getElem hi, List.any_append];simp
 funext j
 rw [e];by_cases ej : j = k
 ·subst ej
  split
  ·rename_i hm
   rw [c7];have : kD N j (l.getD i iH) = true := by unfold kD pPl; rw [ao hk, ao hm]; rfl
   rw [this, Bool.or_true]
  ·rename_i hm
   have : kD N j (l.getD i iH) = false := by unfold kD pPl; rw [am hm, Bool.and_false]
   rw [this, Bool.or_false]
 ·have : kD N j (l.getD i iH) = false := by unfold kD; rw [am (by omega), Bool.false_and]
  rw [this, Bool.or_false]
  split
  ·rw [cg _ _ ej]
  ·rfl
theorem aaA {w : World} {S : Nat -> Prop} {t K nc cc : Nat} {A : Option Addr} {c : List c8} {s : ShS} (h : PSh w S t K s) (hn0 : nc <= 1000000) (hc : RdE cH w w.heap.size A nc (c.map bS)) (hcn : c.length = nc) (hA : ∀ x, A = some x -> 0 < nc -> ¬ S x.block) (hp : ∀ x ∈ c, s.plc x.n x.m = true) (hd : ∀ x ∈ c, uj s x = true) : Calls prog 23 #[.pointer (some ⟨t, 0, none⟩), .slice A nc cc] w fun e w' => e = .returned (.tuple #[]) /\ PSx w S w' t (c.foldl (cz c) s) := by
 have hok := h.x.ok;have hlt0 := h.lt;have HT64 : Hid (s.T <= 64) := ae hok.t64;have HPC := ae hp;have HN0 := ae hn0;have HC := ae hc;have HCN := ae hcn;have HA := ae hA;have HOK := ae hok;have HSM : Hid (∀ x ∈ c, (s.ln x.n.toNat).isSome = true) := ae fun x hx => eV (kf hok (hp x hx) (hd x hx))
 have HFD := ae (abB hok hp hd);have HLC : Hid ((c.map bS).length = c.length) := ae (List.length_map _);have hb1 := (Below.refl w.heap.size w).alloc aj (.cells (hbC fun _ => false).toArray 118);have HB1 := ae hb1;have HH1 : Hid (gV (w.alloc (.cells (hbC fun _ => false).toArray 118)) w.heap.size (fun _ => false)) := ae (heap_alloc_new w _);have HS := ae h;have HNS : Hid (∀ b, w.heap.size <= b -> ¬ S b) := ae fun b hb hs => by have := hlt0 b hs; omega
 clear h hok hn0 hc hcn hA hp hd hb1 hlt0;go_enter func23, ntmps23;go_upto_region 0 with fail;refine af ?_;refine akj (di ab2 rfl) ?_;refine ah ?_;have HBH : Hid (¬ S w.heap.size) := ae (HNS.out _ aj);obtain ⟨bh, hbh⟩ : ∃ bh, w.heap.size = bh := ⟨_, rfl⟩;have HBHQ := ae hbh;rw [hbh] at HH1 HBH ⊢;generalize w.alloc (.cells (hbC fun _ => false).toArray 118) = w1 at *;clear hbh;go_upto_region 1 with fail;refine aI 1 ?_;refine akj (eD cH rfl akt) ?_;refine aF 1 ?_;go_wp2_with fail
 go_loopw [6, 12] (fun _ y wr => ∃ i : Nat, y = .int .i64 i /\ i <= nc /\ gV wr bh (hbF s.N ((c.map bS).take i)) /\ Below bh w wr) (fun _ y _ => nc - (intOf y).toNat)
 case atStart => exact ⟨0, by go_num, Nat.zero_le _, by rw [List.take_zero]; exact HH1, by have := HB1.out; rwa [HBHQ.out] at this⟩
 case round =>
  obtain ⟨i, rfl, hi, hh, hb⟩ := hrel;have HHr := ae hh;have HW := ae hb;have hb' : Below w.heap.size w wr := by rw [HBHQ.out]; exact hb
  have HCr := ae (HC.out.step hb');have HSr := ae (HS.out.below hb');have HBS : Hid (bh <= wr.heap.size) := ae (by have := hb'.size; rw [HBHQ.out] at this; exact this);clear hh hb hb';by_cases hlt : i < nc
  ·have HI := ae hlt;have HIC : Hid (i < c.length) := ae (by rw [HCN.out]; exact hlt);have HT : Hid (decide ((i : Int) < (nc : Int)) = true) := ae (ao (by omega));have HADD : Hid (IntKind.i64.wrap ((i : Int) + 1) = ((i + 1 : Nat) : Int)) := ae (by have := HN0.out; rw [el ⟨by omega, by omega⟩]; omega);obtain ⟨b, off, rfl, hbb, hcell⟩ := HCr.out.cl hlt;obtain ⟨x, hx⟩ : ∃ x, c.getD i cP = x := ⟨_, rfl⟩;rw [lO HIC.out, hx] at hcell;have HCL : Hid (wr.rangeAt b (off + i * cH.n) (cW (bS x))) := ae hcell;have HXX := ae hx;obtain ⟨k, j, e1, hkT, e2, hjN⟩ := iF (HPC.out x (by rw [<- hx, List.getD, List.getElem?_eq_getElem HIC.out]; exact List.getElem_mem HIC));have HE1 := ae e1;have HKT := ae hkT;have HK64 : Hid (k < 64) := ae (by have := HT64.out; omega);have HB3 : Hid (Below wr.heap.size wr (wr.alloc (.cells (cW (bS x)).toArray 46))) := ae (ak.alloc aj _);have HBX := ae (heap_alloc_new wr (.cells (cW (bS x)).toArray 46));have HSNO : Hid (hbF s.N ((c.map bS).take (i + 1)) = if x.m = ((s.N - 1 - k % s.N : Nat) : Int) then dh (hbF s.N ((c.map bS).take i)) k true else hbF s.N ((c.map bS).take i)) := ae (ab0 (x := bS x) (by rw [HLC.out]; exact HIC) (by rw [lO HIC.out, hx]) e1);clear hi hlt hcell hx hbb e1 hkT e2 hjN;go_upto_region 2 with fail;refine af ?_;refine akj (aY true rfl akt akt HT) ?_;refine ah ?_;go_upto_region 3 with fail;refine af ?_;refine akj (co (E := cH) rfl akt akt HI) ?_;refine akj (f9 rfl akt HCL) ?_;refine akj (gA rfl) ?_;refine aG rfl (ik rfl (ev rfl) (ev rfl)) ?_;simp only [aa];refine ah ?_;obtain ⟨bx, hbx⟩ : ∃ bx, wr.heap.size = bx := ⟨_, rfl⟩;rw [hbx] at HBX ⊢;generalize wr.alloc (.cells (cW (bS x)).toArray 46) = w3 at *;have HS3 := ae (HSr.out.below HB3);have HH3 := ae (HHr.out.below HB3);have HW3 := ae (HW.out.trans (HB3.out.mono HBS));have HS3B : Hid (bh <= w3.heap.size) := ae (aq HBS HB3.out.size);clear hbx;have HPS : Hid (∀ {w' : World}, Below w3.heap.size w3 w' -> w'.cell? ⟨bx, 0, none⟩ = some (.int .i64 (k : Int)) /\ w'.cell? ⟨bx, 0 + 1, none⟩ = some (.int .i64 x.m)) := ae fun hw => by
    have := fN (fQ (c := bS x) (aQ (aC HBX hw)));rw [<- HE1.out];exact this
   obtain ⟨lp, mp, FL, m, r, hs3, hok3, _⟩ := HS3.out;have HU3 := ae hs3;clear hs3 hok3;go_upto_region 4 with fail;refine aS (B := w3.heap.size) (by kernel_rfl) ?_;refine akr (fun _ hw => ax rfl akt nD) ?_;refine akr (fun _ hw => ax rfl akt yx) ?_;refine akr (fun _ hw => aD rfl akt (cd (HPS.out hw).2)) ?_;refine cC 1 ?_;refine akr (fun _ hw => ax rfl akt nD) ?_;refine akr (fun _ hw => ax rfl akt nk) ?_;refine akr (fun _ hw => aD rfl akt (cd (HPS.out hw).1)) ?_;refine bQ rfl (fun _ => aB call56 rfl (evc akt (evc akt evn))) (bz aj fun _ hw => qO HKT (HU3.out.below hw)) ?_;simp only [aa];by_cases hm : x.m = ((s.N - 1 - k % s.N : Nat) : Int)
   ·have HM : Hid ((x.m == ((s.N - 1 - k % s.N : Nat) : Int)) = true) := ae (by rw [hm]; exact beq_self_eq_true _);have HST : Hid (hbF s.N ((c.map bS).take (i + 1)) = dh (hbF s.N ((c.map bS).take i)) k true) := ae (by rw [HSNO.out, if_pos hm]);clear hm;refine akr (fun _ hw => aH true rfl akt akt HM) ?_;refine wpQuiet_nil ?_;intro w4 hw;have HH4 := ae (HH3.out.below hw);have HW4 := ae (HW3.out.trans (hw.mono HS3B));have HPS4 : Hid (w4.cell? ⟨bx, 0, none⟩ = some (.int .i64 (k : Int))) := ae (HPS.out hw).1;clear hw;have HH5 := ae (HH4.out.set k);have HW5 : Hid (Below bh w (w4.setCell ⟨bh, k, none⟩ (.bool true))) := ae (below_setCells HW4 aj (o := k) [.bool true]);go_upto_region 5 with fail;refine af ?_;refine akj (ax rfl akt nD) ?_;refine akj (ax rfl akt nk) ?_;refine akj (aD rfl akt (cd HPS4)) ?_;refine akj (lr HK64 rfl akt akt) ?_;refine aG rfl (df rfl (ev rfl) evk (aja (HH4.out.at_ HK64.out) (HH4.out.fz k))) ?_;simp only [aa];generalize w4.setCell ⟨bh, k, none⟩ (.bool true) = w5 at *;refine ah ?_;go_upto_region 6 with fail;refine af ?_;refine akj (bH rfl akt evk HADD) ?_;refine aF 1 ?_;go_wp2_with fail;go_roundw
    case rel => exact ⟨i + 1, by go_num, HI, by rw [HST.out]; exact HH5, HW5⟩
    case measure => have := HI.out; simp [intOf]; omega
   have HM : Hid ((x.m == ((s.N - 1 - k % s.N : Nat) : Int)) = false) := ae (av hm);have HST : Hid (hbF s.N ((c.map bS).take (i + 1)) = hbF s.N ((c.map bS).take i)) := ae (by rw [HSNO.out, if_neg hm]);clear hm;refine akr (fun _ hw => aH false rfl akt akt HM) ?_;refine wpQuiet_nil ?_;intro w4 hw;have HH4 := ae (HH3.out.below hw);have HW4 := ae (HW3.out.trans (hw.mono HS3B));clear hw;go_upto_region 6 with fail;refine af ?_;refine akj (bH rfl akt evk HADD) ?_;refine aF 1 ?_;go_wp2_with fail;go_roundw
   case rel => exact ⟨i + 1, by go_num, HI, by rw [HST.out]; exact HH4, HW4⟩
   case measure => have := HI.out; simp [intOf]; omega
  have hin : i = nc := by omega
  have HT : Hid (decide ((i : Int) < (nc : Int)) = false) := ae (am (by omega));have HHB : Hid (gV wr bh (hbF s.N (c.map bS))) := ae (by have := HHr.out; rwa [hin, List.take_of_length_le (by rw [HLC.out, HCN.out]; omega)] at this);clear hlt hi hin;go_upto_region 2 with fail;refine af ?_;refine akj (aY false rfl akt akt HT) ?_;refine ah ?_;go_upto_region 7 with fail;refine aI 1 ?_;refine akj (eD cH rfl akt) ?_;refine aF 1 ?_;have HWB : Hid (Below w.heap.size w wr) := ae (by rw [HBHQ.out]; exact HW);have HCB := HCr;have HSB := HSr;clear HCr HSr HW HBS
  rename World => wB
  go_wp2_with fail
  go_loopw [8, 9, 32] (fun _ _ y wr => ∃ i : Nat, y = .int .i64 i /\ i <= nc /\ PSx wB S wr t ((c.take i).foldl (cz c) s)) (fun _ _ y _ => nc - (intOf y).toNat)
  case atStart => exact ⟨0, by go_num, Nat.zero_le _, HSB.out.x⟩
  case round =>
   obtain ⟨i, rfl, hi, hs⟩ := hrel;have HSr := ae hs;have HCr := ae (HCB.out.only hs.only aj HA);have HHr : Hid (gV wr bh (hbF s.N (c.map bS))) := ae (hs.keep HHB HBH);clear hs;by_cases hlt : i < nc
   ·have HI := ae hlt;have HIC : Hid (i < c.length) := ae (by rw [HCN.out]; exact hlt);have HT : Hid (decide ((i : Int) < (nc : Int)) = true) := ae (ao (by omega));have HADD : Hid (IntKind.i64.wrap ((i : Int) + 1) = ((i + 1 : Nat) : Int)) := ae (by have := HN0.out; rw [el ⟨by omega, by omega⟩]; omega);obtain ⟨b, off, rfl, hbb, hcell⟩ := HCr.out.cl hlt;obtain ⟨x, hx⟩ : ∃ x, c.getD i cP = x := ⟨_, rfl⟩;rw [lO HIC.out, hx] at hcell;have HCL : Hid (wr.rangeAt b (off + i * cH.n) (cW (bS x))) := ae hcell;have HXX := ae hx;obtain ⟨k, j, e1, hkT, e2, hjN⟩ := iF (HPC.out x (by rw [<- hx, List.getD, List.getElem?_eq_getElem HIC.out]; exact List.getElem_mem HIC));have HE1 := ae e1;have HKT := ae hkT;have HK64 : Hid (k < 64) := ae (by have := HT64.out; omega);have HB3 : Hid (Below wr.heap.size wr (wr.alloc (.cells (cW (bS x)).toArray 46))) := ae (ak.alloc aj _);have HBX := ae (heap_alloc_new wr (.cells (cW (bS x)).toArray 46));have HFA := ae (abp HOK HSM HIC (by rw [hx]; exact e1));have HFD1 : Hid (∀ j, ((c.take (i + 1)).foldl (cz c) s).dty j = ((c.take i).foldl (cz c) s).dty j) := ae fun j => by rw [(HFD.out (i + 1) HIC.out).2, (HFD.out i (Nat.le_of_lt HIC.out)).2]
    have HWF := ae (jP HK64);clear hi hlt hcell hx hbb e1 hkT e2 hjN;go_upto_region 8 with fail;refine af ?_;refine akj (aY true rfl akt akt HT) ?_;refine ah ?_;go_upto_region 9 with fail;refine af ?_;refine akj (co (E := cH) rfl akt akt HI) ?_;refine akj (f9 rfl akt HCL) ?_;refine akj (gA rfl) ?_;refine aG rfl (ik rfl (ev rfl) (ev rfl)) ?_;simp only [aa];refine ah ?_;obtain ⟨bx, hbx⟩ : ∃ bx, wr.heap.size = bx := ⟨_, rfl⟩;rw [hbx] at HBX ⊢;generalize wr.alloc (.cells (cW (bS x)).toArray 46) = w3 at *;have HS3 := ae (HSr.out.below HB3);have HH3 := ae (HHr.out.below HB3);clear hbx;have HPS : Hid (w3.cell? ⟨bx, 0, none⟩ = some (.int .i64 (k : Int))) := ae (by
     have := (fN (fQ (c := bS x) (aQ HBX))).1;rw [<- HE1.out];exact this)
    go_upto_region 10 with fail;refine af ?_;refine akj (ax rfl akt nD) ?_;refine akj (ax rfl akt nk) ?_;refine akj (aD rfl akt (cd HPS)) ?_;refine aF 1 ?_;have HFN := ae HFA.out.N;cases hfl : hbF s.N (c.map bS) k;rotate_left
    ·have HFL := ae hfl;have HNX : Hid ((c.take (i + 1)).foldl (cz c) s = (c.take i).foldl (cz c) s) := ae (HFA.out.yes (by rw [HFN.out]; exact hfl));clear hfl;go_upto_region 11 with fail;refine aI 1 ?_;refine akj (lr HK64 rfl akt akt) ?_;refine akj (aD rfl akt (ti (by rw [HH3.out.at_ HK64.out, HFL.out]))) ?_;refine aF 1 ?_;go_upto_region 13 with fail;refine af ?_;refine akj (bH rfl akt evk HADD) ?_;refine aF 1 ?_;go_wp2_with fail;go_roundw
     case rel => exact ⟨i + 1, by go_num, HI, by rw [HNX.out]; exact HS3⟩
     case measure => have := HI.out; simp [intOf]; omega
    have HFL := ae hfl;have HNX : Hid ((c.take (i + 1)).foldl (cz c) s = ((c.take i).foldl (cz c) s).eu k (some (fW (((c.take i).foldl (cz c) s).ch k) ((s.N - 1 - k % s.N : Nat) : Int)))) := ae (by rw [HFA.out.no (by rw [HFN.out]; exact hfl), HFN.out]; rfl);have HNOK := ae HFA.out.nok;have HLN := ae HFA.out.ln;have HKT1 : Hid (k < ((c.take i).foldl (cz c) s).T) := ae (by rw [HFA.out.T]; exact HKT);clear hfl;generalize (c.take i).foldl (cz c) s = s1 at *;generalize hs2q : (c.take (i + 1)).foldl (cz c) s = s2 at *;have HS2Q := ae hs2q;clear hs2q;obtain ⟨lp, mp, FL, m, r, hs3, hok3⟩ := HS3.out;have hl3 := hs3.u.ln k;rw [HLN.out] at hl3;obtain ⟨a, ha, hla, hlo⟩ := hl3.some_;have HA3 := ae ha;have HU3 := ae hs3;have HLA : Hid (LnA w3 a (lf (s1.ch k)) /\ dV (s1.ch k)) := ae ⟨hla, hlo⟩;have HLK : ∀ {w' : World}, dI w' mp s1.o.length (mLn m) -> (Instr.lookup 53 (.map (some mp)) (.int .i64 (k : Int)) false).run prog w' = .ok (.pointer (some ⟨a, 0, none⟩)) w' := fun hm => by
     have := hm.nA HWF;rwa [show mLn m (k : Int) = some a from by unfold mLn; rw [if_pos (by omega), Int.toNat_natCast, HA3.out]] at this
    have HSD : Hid (w3.drew.cell? ⟨t, 4, none⟩ = some (.map (some mp)) /\ (Instr.lookup 53 (.map (some mp)) (.int .i64 (k : Int)) false).run prog w3.drew = .ok (.pointer (some ⟨a, 0, none⟩)) w3.drew) := ae ⟨hs3.u.c4, HLK (hs3.below (ak.drew)).u.map⟩;clear hok3 hl3 ha hla hlo;go_upto_region 11 with fail;refine aI 1 ?_;refine akj (lr HK64 rfl akt akt) ?_;refine akj (aD rfl akt (ti (by rw [HH3.out.at_ HK64.out, HFL.out]))) ?_;refine aF 1 ?_;go_upto_region 12 with fail;refine wp_region_held (S := fun w' => w'.cell? ⟨t, 4, none⟩ = some (.map (some mp)) /\ (Instr.lookup 53 (.map (some mp)) (.int .i64 (k : Int)) false).run prog w' = .ok (.pointer (some ⟨a, 0, none⟩)) w') (by kernel_rfl) ?_;change wpAnyH _ _ _ _ _ 10 _ _ w3.drew;refine akG 0 rfl HSD ?_;refine akI 1 rfl HSD ?_;refine akm 2 rfl (fun _ hw => ax rfl akt i9) HSD ?_;refine akm 3 rfl (fun _ hw => aD rfl akt (my hw.1)) HSD ?_;refine akG 4 rfl HSD ?_;refine akm 5 rfl (fun _ hw => dw rfl akt akt hw.2) HSD ?_;refine akG 6 rfl HSD ?_;refine akG 7 rfl HSD ?_;refine eB 8 rfl (by kernel_rfl) rfl (aB call56 rfl (evc akt (evc akt evn))) ?_;refine (qO HKT1 (hs3.below (ak.drew)).u).mono ?_;rintro e wA ⟨rfl, bA⟩;have bA' := ((Below.refl w3.heap.size w3).drew).trans bA;have hsA := hs3.below bA';have HSA : Hid (wA.cell? ⟨t, 4, none⟩ = some (.map (some mp)) /\ (Instr.lookup 53 (.map (some mp)) (.int .i64 (k : Int)) false).run prog wA = .ok (.pointer (some ⟨a, 0, none⟩)) wA) := ae ⟨hsA.u.c4, HLK hsA.u.map⟩;have HUA := ae hsA;have HPA : Hid (qB wA (fun j => j = a) a (s1.ch k)) := ae ⟨HLA.out.1.below bA', rfl, HLA.out.2⟩;clear bA bA' hsA;refine ⟨_, rfl, HSA, ?_⟩;simp only [aa];refine eB 9 rfl (by kernel_rfl) rfl (aB call57 rfl (evc akt (evc akt evn))) ?_;rw [show s1.N = s.N from HFN.out];refine (xr wA ((s.N - 1 - k % s.N : Nat) : Int) HPA).mono ?_;rintro e wC ⟨rfl, lC, tC⟩;have HUC := ae (HUA.out.line HA3 tC lC);have HSC : Hid (wC.cell? ⟨t, 4, none⟩ = some (.map (some mp)) /\ (Instr.lookup 53 (.map (some mp)) (.int .i64 (k : Int)) false).run prog wC = .ok (.pointer (some ⟨a, 0, none⟩)) wC) := ae ⟨HUC.out.u.c4, HLK HUC.out.u.map⟩;clear lC tC;refine ⟨_, rfl, HSC, ?_⟩;simp only [aa];refine wpAnyH_done (by kernel_rfl) ?_ _;have HSF : Hid (PSx wB S wC t s2) := ae (by
     have hde : s2.dty = s1.dty := funext HFD1;refine ⟨lp, mp, FL, m, r, ?_, HNOK⟩;have hu := HUC.out;rw [hde];rw [HNX.out];exact hu)
    go_upto_region 13 with fail;refine af ?_;refine akj (bH rfl akt evk HADD) ?_;refine aF 1 ?_;go_wp2_with fail;go_roundw
    case rel => exact ⟨i + 1, by go_num, HI, by rw [HS2Q.out]; exact HSF⟩
    case measure => have := HI.out; simp [intOf]; omega
   have hin : i = nc := by omega
   have HT : Hid (decide ((i : Int) < (nc : Int)) = false) := ae (am (by omega));have HSF : Hid (PSx wB S wr t (c.foldl (cz c) s)) := ae (by have := HSr.out; rwa [List.take_of_length_le (by rw [HCN.out]; omega)] at this);clear hlt hi hin;go_upto_region 8 with fail;refine af ?_;refine akj (aY false rfl akt akt HT) ?_;refine ah ?_;go_wp2_with fail
   go_end0
   exact ⟨rfl, HSF.out.since HWB⟩
theorem aic {w : World} {S : Nat -> Prop} {t K Q nc cc : Nat} {A : Option Addr} {c : List c8} {s : ShS} (h : PSh w S t K s) (hQ : Q < 18446744073709551616) (hn0 : nc <= 1000000) (hc : RdE cH w w.heap.size A nc (c.map bS)) (hcn : c.length = nc) (hA : ∀ x, A = some x -> 0 < nc -> ¬ S x.block) : Calls prog 6 #[.pointer (some ⟨t, 0, none⟩), .int .u64 (Q : Int), .slice A nc cc] w fun e w' => e = .returned (.int .i64 (iV s Q c)) /\ PSx w S w' t (j7 s Q c) := by
 have hok := h.x.ok;have HQB := ae hQ;have HN0 := ae hn0;have HC := ae hc;have HCN := ae hcn;have HA := ae hA;have HOK := ae hok;have HS := ae h;obtain ⟨lp, mp, FL, m, r, hs, _, _⟩ := h;have HU := ae hs;obtain ⟨pq, hpq⟩ : ∃ pq, iV s Q c = pq := ⟨_, rfl⟩;have HPQ := ae hpq;rw [hpq];clear hs hok hn0 hc hcn hA hQ hpq;go_enter func6, ntmps6;go_upto_region 1 with fail;refine aI 3 ?_;refine ay rfl (aB call21 rfl (evc akt (evc akt (evc akt evn)))) ?_;refine (aaQ HU HOK HN0 HC HCN).mono ?_;rintro e wB ⟨rfl, b1⟩;rw [HPQ.out];have HB := ae b1;clear b1;refine aR ?_;refine aF 1 ?_;by_cases hz : pq = 0;rotate_left
 ·have HNE : Hid ((pq != 0) = true) := ae (bne_iff_ne.2 hz);have HZ2 : Hid (j7 s Q c = s) := ae (by unfold j7; rw [HPQ.out, if_neg hz]);clear hz;go_upto_region 2 with fail;refine aI 1 ?_;refine akj (aK true rfl akt evk HNE) ?_;refine ah ?_;go_upto_region 3 with fail;refine cf 2 ?_;go_wp2_with fail;go_ret;exact ⟨rfl, by rw [HZ2.out]; exact HS.out.x.below HB⟩
 subst hz;have HPS : Hid (j7 s Q c = c.foldl (cz c) (c.foldl (dq Q) s)) := ae (by unfold j7; rw [if_pos HPQ.out]);go_upto_region 2 with fail;refine aI 1 ?_;refine akj (aK false rfl akt evk rfl) ?_;refine ah ?_;go_upto_region 4 with fail;refine aI 1 ?_;refine akj (eD cH rfl akt) ?_;refine aF 1 ?_;have HSB := ae (HS.out.below HB);have HCB := ae (HC.out.step HB);clear HU;go_wp2_with fail
 go_loopw [9, 10, 20] (fun _ _ y wr => ∃ i : Nat, y = .int .i64 i /\ i <= nc /\ PSx wB S wr t ((c.take i).foldl (dq Q) s)) (fun _ _ y _ => nc - (intOf y).toNat)
 case atStart => exact ⟨0, by go_num, Nat.zero_le _, HSB.out.x⟩
 case round =>
  obtain ⟨i, rfl, hi, hs⟩ := hrel;have HSr := ae hs;have HCr := ae (HCB.out.only hs.only aj HA);clear hs;by_cases hlt : i < nc
  ·have HI := ae hlt;have HIC : Hid (i < c.length) := ae (by rw [HCN.out]; exact hlt);have HT : Hid (decide ((i : Int) < (nc : Int)) = true) := ae (ao (by omega));have HADD : Hid (IntKind.i64.wrap ((i : Int) + 1) = ((i + 1 : Nat) : Int)) := ae (by have := HN0.out; rw [el ⟨by omega, by omega⟩]; omega);obtain ⟨k, j, hpa⟩ := acH HOK HPQ HQB HIC;obtain ⟨b, off, rfl, hbb, hcell⟩ := (HCB.out.only HSr.out.only aj HA).cl hlt;obtain ⟨x, hx⟩ : ∃ x, c.getD i cP = x := ⟨_, rfl⟩;rw [lO HIC.out, hx] at hcell;have HCL : Hid (wr.rangeAt b (off + i * cH.n) (cW (bS x))) := ae hcell;have hpn := hpa.n;have hpm := hpa.m;rw [hx] at hpn hpm;have HXN := ae hpn;have HXM := ae hpm;have HKT : Hid (k < ((c.take i).foldl (dq Q) s).T) := ae (by rw [hpa.T]; exact hpa.kT);have hNf := (gU HOK HPQ HQB i (Nat.le_of_lt HIC)).N;have HJN : Hid (j < ((c.take i).foldl (dq Q) s).N) := ae (by rw [hNf]; exact hpa.mN);have HTB := ae hpa.tb;have HQ0 := ae hpa.n0;have hnx := hpa.nxt;rw [hx] at hnx;have HNX := ae hnx;have HB3 : Hid (Below wr.heap.size wr (wr.alloc (.cells (cW (bS x)).toArray 46))) := ae (ak.alloc aj _);have HBX := ae (heap_alloc_new wr (.cells (cW (bS x)).toArray 46));clear hi hlt hcell hx hbb hpn hpm hpa hNf hnx;go_upto_region 5 with fail;refine af ?_;refine akj (aY true rfl akt akt HT) ?_;refine ah ?_;go_upto_region 6 with fail;refine af ?_;refine akj (co (E := cH) rfl akt akt HI) ?_;refine akj (f9 rfl akt HCL) ?_;refine akj (gA rfl) ?_;refine aG rfl (ik rfl (ev rfl) (ev rfl)) ?_;simp only [aa];refine ah ?_;obtain ⟨bx, hbx⟩ : ∃ bx, wr.heap.size = bx := ⟨_, rfl⟩;rw [hbx] at HBX ⊢;generalize wr.alloc (.cells (cW (bS x)).toArray 46) = w3 at *;have HS3 := ae (HSr.out.below HB3);clear hbx;obtain ⟨S3, hs3, o3, g3⟩ := HS3.out.res K;have HSH := ae hs3;have HO3 := ae o3;have HG3 := ae g3;clear hs3 o3 g3;go_upto_region 7 with fail;refine aI 1 ?_;refine akj (f9 rfl akt (aQ HBX)) ?_;refine runs 1 ?_;refine ay rfl (aB call22 rfl (evc akt (evc akt (evc akt evn)))) ?_;refine (aio HSH HXN HXM HKT HJN HQ0 HQB HTB).mono ?_;rintro e w4 ⟨rfl, h4⟩;rw [<- HNX.out] at h4;have HS4 := ae (h4.after HO3 HG3);clear h4;refine aR ?_;refine aF 1 ?_;go_upto_region 8 with fail;refine aI 1 ?_;refine akj (aK false rfl akt evk rfl) ?_;refine ah ?_;go_upto_region 10 with fail;refine af ?_;refine akj (bH rfl akt evk HADD) ?_;refine aF 1 ?_;go_wp2_with fail;go_roundw
   case rel => exact ⟨i + 1, by go_num, HI, HS4⟩
   case measure => have := HI.out; simp [intOf]; omega
  have hin : i = nc := by omega
  have HT : Hid (decide ((i : Int) < (nc : Int)) = false) := ae (am (by omega));have htk : c.take i = c := List.take_of_length_le (by rw [HCN.out]; omega);rw [htk] at HSr;have hpf := gU HOK HPQ HQB c.length aj;have hpd := adx HOK HPQ HQB c.length aj;rw [List.take_length] at hpf hpd;obtain ⟨hq1, _, _⟩ := n7 HPQ;have HP2 : Hid (∀ x ∈ c, (c.foldl (dq Q) s).plc x.n x.m = true) := ae fun x hx => by rw [hpf.plc]; exact hq1 x hx
  have HD2 := ae hpd;obtain ⟨S2, hs2, o2, g2⟩ := HSr.out.res K;have HSH := ae hs2;have HO2 := ae o2;have HG2 := ae g2;have HA2 : Hid (∀ x, A = some x -> 0 < nc -> ¬ S2 x.block) := ae fun x e hn hs => by
   rcases g2 _ hs with e2 | e2
   ·exact HA.out x e hn e2
   ·obtain ⟨b, off, e3, hb, _⟩ := HC.out.2 0 hn;rw [e] at e3;injection e3 with e3;subst e3;have := HB.out.size;have hb' : b < w.heap.size := hb;have e4 : wB.heap.size <= b := e2;omega
  clear hlt hi hin htk hpf hpd hq1 hs2 o2 g2;go_upto_region 5 with fail;refine af ?_;refine akj (aY false rfl akt akt HT) ?_;refine ah ?_;go_upto_region 11 with fail;refine aI 2 ?_;refine ay rfl (aB call23 rfl (evc akt (evc akt evn))) ?_;refine (aaA HSH HN0 (HCr.out.more HSr.out.only.size) HCN HA2 HP2 HD2).mono ?_;rintro e w5 ⟨rfl, h5⟩;have HS5 := ae ((h5.after HO2 HG2).since HB);clear h5;refine aR ?_;refine ah ?_;go_wp2_with fail;go_ret;exact ⟨rfl, by rw [HPS.out]; exact HS5⟩
theorem yo {s : ShS} {n : Int} (h : s.str n = true) : ∃ k : Nat, n = (k : Int) /\ k < s.T := by
 have := of_decide_eq_true h;exact ⟨n.toNat, by omega, by omega⟩
theorem ur {s : ShS} (n : Int) : aac s.T n = shE s n := rfl
section
variable {s : ShS} {k : Nat} {x : LnS}
theorem abU (h : bW s) : (s.eu k (some (fV x))).dty = dh s.dty k false := funext fun i => by
 by_cases e : i = k
 ·subst e;rw [c7, jt (x := fV x) (by rw [de, if_pos rfl])];unfold kv;rw [x7]
  rfl
 ·rw [cg _ _ e];exact lv (by rw [de, if_neg e])
end
theorem abh {w : World} {S : Nat -> Prop} {t K : Nat} {s : ShS} (n : Int) (h : PSh w S t K s) : Calls prog 37 #[.pointer (some ⟨t, 0, none⟩), .int .i64 n] w fun e w' => e = .returned (.int .i64 (shE s n)) /\ PSx w S w' t (dL s n) := by
 have hok := h.x.ok;have HOK := ae hok;have HS := ae h;obtain ⟨lp, mp, FL, m, r, hs, _, hSe⟩ := h;have HU := ae hs;obtain ⟨en, hen⟩ : ∃ en, shE s n = en := ⟨_, rfl⟩;have HEN := ae hen;have HMY : Hid (aac s.T n = en) := ae ((ur n).trans hen);rw [hen];clear hs hen;go_enter func37, ntmps37;go_upto_region 1 with fail;refine aI 2 ?_;refine ay rfl (aB call30 rfl (evc akt (evc akt evn))) ?_;refine (xH n HU).mono ?_;rintro e w1 ⟨rfl, b1⟩;rw [HMY.out];have HB := ae b1;clear b1;refine aR ?_;refine aF 1 ?_;cases hc : s.str n
 ·have HNE : Hid ((en != 0) = true) := ae (by rw [<- HEN.out]; unfold shE; rw [hc]; rfl);have HZ : Hid (dL s n = s) := ae (by unfold dL; rw [hc]; simp);clear hc hok hSe;go_upto_region 2 with fail;refine aI 1 ?_;refine akj (aK true rfl akt evk HNE) ?_;refine ah ?_;go_upto_region 3 with fail;refine cf 2 ?_;go_wp2_with fail;go_ret;exact ⟨rfl, by rw [HZ.out]; exact HS.out.x.below HB⟩
 have hen0 : en = 0 := by rw [<- HEN.out]; unfold shE; rw [hc]; rfl
 subst hen0;obtain ⟨k, rfl, hk⟩ := yo hc;have HW := ae (jP (n := k) (by have := hok.t64; omega));have HU1 := ae (HU.out.below HB);have HS1 : Hid (PSt w S w1 t lp mp FL (kyL s.dty s.o) s.o.length m s.ln s.N s.T s.room r) := ae (by subst hSe; exact (PSt.start HU).below HB);go_upto_region 2 with fail;refine aI 1 ?_;refine akj (aK false rfl akt evk rfl) ?_;refine ah ?_;have hl := HU1.out.ln k;cases hx : s.ln k with
 |none =>
  rw [hx] at hl;have hlk := HU1.out.map.nA HW;rw [show mLn m (k : Int) = none from by unfold mLn; rw [if_pos (by omega), Int.toNat_natCast, hl.none_]] at hlk;have HK := ae hlk;have HZ : Hid (dL s (k : Int) = s) := ae (by unfold dL; rw [Int.toNat_natCast, hx, if_neg (fun e => by cases e.2)]);clear hc hk hl hx hlk hok hSe;go_upto_region 4 with fail;refine aI 2 ?_;refine akj (ax rfl akt i9) ?_;refine akj (aD rfl akt (my (PRu.c4 HU1))) ?_;refine runs 1 ?_;refine akj (dw rfl akt akt HK) ?_;refine aF 1 ?_;go_upto_region 5 with fail;refine aI 1 ?_;refine akj (dc false underlying87 rfl akt evk rfl) ?_;refine ah ?_;go_wp2_with fail;go_ret;exact ⟨rfl, by rw [HZ.out]; exact HS.out.x.below HB⟩
 |some x =>
  rw [hx] at hl;obtain ⟨a, ha, hla, hlo⟩ := hl.some_;have hlk := HU1.out.map.nA HW;rw [show mLn m (k : Int) = some a from by unfold mLn; rw [if_pos (by omega), Int.toNat_natCast, ha]] at hlk;have HK := ae hlk;have HA := ae ha;have HLA : Hid (qB w1 (fun j => j = a) a x) := ae ⟨hla, rfl, hlo⟩;have HZ : Hid (dL s (k : Int) = s.eu k (some (fV x))) := ae (by unfold dL; rw [Int.toNat_natCast, if_pos ⟨hc, by rw [hx]; rfl⟩, eE hx]);have HOK2 : Hid (bW (dL s (k : Int))) := ae (HOK.out.cln _);have HDT := ae (abU (k := k) (x := x) hok);have HND := ae hok.nd;clear hc hk hl hx hlk ha hla hlo hok hSe;go_upto_region 4 with fail;refine aI 2 ?_;refine akj (ax rfl akt i9) ?_;refine akj (aD rfl akt (my (PRu.c4 HU1))) ?_;refine runs 1 ?_;refine akj (dw rfl akt akt HK) ?_;refine aF 1 ?_;go_upto_region 5 with fail;refine aI 1 ?_;refine akj (dc true underlying87 rfl akt evk rfl) ?_;refine ah ?_;go_upto_region 6 with fail;refine aI 1 ?_;refine ay rfl (aB call77 rfl (evc akt evn)) ?_;refine (zw w1 HLA).mono ?_;rintro e w2 ⟨rfl, l2, t2⟩;have HS2 := ae (HS1.out.line HA t2 l2);have HL2 : Hid (PLF w2 (fun b => FL b \/ w2.heap.size <= b) lp s.room (kyL s.dty s.o)) := ae (HS2.out.u.li.mono fun b h1 _ => .inl h1);clear l2 t2;refine aR ?_;refine ah ?_;go_upto_region 7 with fail;refine aI 2 ?_;refine akj (ax rfl akt lc) ?_;refine akj (aD rfl akt (qp (PRu.c3 HS2.out.u))) ?_;refine runs 1 ?_;refine ay rfl (aB call55 rfl (evc akt (evc akt (evc evk evn)))) ?_;refine (xX w2 HL2 HW false).mono ?_;rintro e w3 ⟨rfl, l3, t3⟩;rw [y5 HND.out, <- HDT.out] at l3;obtain ⟨FL3, hs3⟩ := HS2.out.list rfl l3 t3;have HS3 : Hid (PSx w S w3 t (dL s (k : Int))) := ae ⟨lp, mp, FL3, m, r, by rw [HZ.out]; exact hs3, HOK2⟩;clear l3 t3 hs3;refine aR ?_;refine ah ?_;go_wp2_with fail;go_ret;exact ⟨rfl, HS3⟩
theorem aaY (N T : Nat) (r : Int) (lp mp : Nat) (w : World) : (Instr.build 55 #[(0, .agg #[.int .i64 (N : Int), .int .i64 (T : Int), .int .i64 r]), (1, .pointer (some ⟨lp, 0, none⟩)), (2, .map (some mp))]).run prog w = .ok (.agg (shC N T r lp mp).toArray) w := by kernel_rfl
theorem vX {ρ : Operand -> Value} {o : Oper} {x y z : Operand} {N T lp mp : Nat} {r : Int} {w : World} (ho : o.op = .build 55 #[(0, x), (1, y), (2, z)]) (hx : ρ x = .agg #[.int .i64 (N : Int), .int .i64 (T : Int), .int .i64 r]) (hy : ρ y = .pointer (some ⟨lp, 0, none⟩)) (hz : ρ z = .map (some mp)) : (execOp ρ o).run prog w = .ok (.value (.agg (shC N T r lp mp).toArray)) w := by
 unfold execOp;simp [ho, hx, hy, hz, aaY, Result.andThen]
theorem dI.congr {w : World} {b N : Nat} {M M' : Int -> Option Nat} (h : dI w b N M) (e : ∀ j, M' j = M j) : dI w b N M' := by
 have : M' = M := funext e;rw [this];exact h
theorem ahQ {N T room : Nat} {r : Int} (w : World) (hg : dH (gx N T r) = true) (h1 : 1 <= room) (h2 : room <= 64) : Calls prog 19 #[geo (gx N T r), .int .i64 (room : Int)] w fun e w' => ∃ p S, e = .returned (.tuple #[.pointer (some ⟨p, 0, none⟩), .int .i64 0]) /\ PSh w' S p 0 (kZ N T room) /\ Below w.heap.size w w' /\ ∀ b, S b -> w.heap.size <= b := by
 have HG := ae hg;have HR1 := ae h1;have HR2 := ae h2;clear hg h1 h2;go_enter func19, ntmps19;go_upto_region 0 with fail;refine af ?_;refine akj (cO (cs := ([.int .i64 (N : Int), .int .i64 (T : Int), .int .i64 r] : List Value)) rfl akt) ?_;have hbx := (Below.refl w.heap.size w).alloc aj (.cells ([.int .i64 (N : Int), .int .i64 (T : Int), .int .i64 r] : List Value).toArray 51);have P1 := ae (heap_alloc_new w (.cells ([.int .i64 (N : Int), .int .i64 (T : Int), .int .i64 r] : List Value).toArray 51));have HB1 := ae hbx;clear hbx;generalize w.alloc (.cells ([.int .i64 (N : Int), .int .i64 (T : Int), .int .i64 r] : List Value).toArray 51) = w1 at *;refine aF 2 ?_;go_upto_region 1 with fail;refine af ?_;refine akj (cv (cs := ([.int .i64 (N : Int), .int .i64 (T : Int), .int .i64 r] : List Value)) underlying51 rfl (by kernel_rfl) rfl akt (aQ P1)) ?_;refine ay rfl (aB call47 rfl (evc akt evn)) ?_;refine (vh (gx N T r) w1).mono ?_;rintro e w2 ⟨rfl, b2⟩;rw [HG.out];have HB2 := ae (HB1.out.trans (b2.mono HB1.out.size));have P2 := ae (aC P1 b2);clear b2;refine aR ?_;refine aF 1 ?_;go_upto_region 3 with fail;refine aI 1 ?_;refine ay rfl (aB call48 rfl (evc akt evn)) ?_;refine (aeK room w2 HR1 HR2).mono ?_;rintro e w3 ⟨lp, rfl, l3, b3⟩;have HB3 := ae (HB2.out.trans (b3.mono HB2.out.size));have P3 := ae (aC P2 b3);have HL3 := ae l3;have HS23 : Hid (w.heap.size <= w2.heap.size) := ae HB2.out.size;clear l3 b3;refine aR ?_;refine runs 3 ?_;refine aF 2 ?_;go_upto_region 4 with fail;refine aI 1 ?_;refine akj (aK false rfl akt evk rfl) ?_;refine ah ?_;have hb4 := (Below.refl w3.heap.size w3).alloc aj (.map #[] 0);have HB4 := ae (HB3.out.trans (hb4.mono HB3.out.size));have HM4 := ae (dI.made w3);have HL4 := ae (HL3.out.below hb4);have HLN : Hid (∀ b, w2.heap.size <= b /\ b < w3.heap.size -> b < (w3.alloc (.map #[] 0)).heap.size) := ae fun b hb => au hb.2 hb4.size
 have HLM : Hid (PLF w3 (fun b => w2.heap.size <= b /\ b < w3.heap.size) lp room []) := ae (HL3.out.mono fun b h1 h2 => ⟨h1, h2⟩);have HL5 : Hid (PLF (w3.alloc (.map #[] 0)) (fun b => w2.heap.size <= b /\ b < w3.heap.size) lp room []) := ae (HLM.out.below hb4);clear hb4;go_upto_region 6 with fail;refine af ?_;refine akj (cv (cs := ([.int .i64 (N : Int), .int .i64 (T : Int), .int .i64 r] : List Value)) underlying51 rfl (by kernel_rfl) rfl akt (aQ P3)) ?_;refine runs 1 ?_;refine akj (oL rfl) ?_;refine akj (vX rfl akt akt akt) ?_;refine akj (cO (cs := shC N T r lp w3.heap.size) rfl akt) ?_;refine aF 2 ?_;go_wp2_with fail;go_ret2;generalize w3.alloc (.map #[] 0) = w4 at *;have hb5 := (Below.refl w4.heap.size w4).alloc aj (.cells (shC N T r lp w3.heap.size).toArray 55);have h5 := heap_alloc_new w4 (.cells (shC N T r lp w3.heap.size).toArray 55);obtain ⟨k1, k2, k3, k4, _⟩ := agx HG;have hs34 : w3.heap.size < w4.heap.size := HM4.out.lt;refine ⟨w4.heap.size, ql w4.heap.size w3.heap.size (fun b => w2.heap.size <= b /\ b < w3.heap.size) (fun _ => none), rfl, ⟨lp, w3.heap.size, fun b => w2.heap.size <= b /\ b < w3.heap.size, fun _ => none, r, ⟨h5, HL5.out.below hb5, (HM4.out.kept fun es c hb => aC hb hb5).congr fun j => ?_, fun n => trivial, fun i j b h => (by cases h), ⟨fun h => (by have := h.2; omega), fun h => (by have := h.2; omega), fun n b h => (by cases h)⟩, fun b hb => au (Nat.lt_trans hb.2 hs34) hb5.size, HG⟩, bW.new k1 k2 k3 k4 HR1 HR2, rfl⟩, HB4.out.trans (hb5.mono HB4.out.size), fun b hb => ?_⟩
 ·unfold mLn
  split <;> rfl
 ·have e1 := HS23.out;have e2 := HB4.out.size;have e3 := HB3.out.size;rcases hb with e | e | e | ⟨n, e⟩
  ·omega
  ·omega
  ·have := e.1; omega
  ·cases e
theorem zA (x : Ros) (room : Int) (w : World) (h : ¬ (dH x = true /\ 1 <= room /\ room <= 64)) : Calls prog 19 #[geo x, .int .i64 room] w fun e w' => e = .returned (.tuple #[.pointer none, .int .i64 2]) /\ Below w.heap.size w w' := by
 have HN := ae h;obtain ⟨gn, gt, gr⟩ : ∃ a b c, geo x = .agg ([.int .i64 a, .int .i64 b, .int .i64 c] : List Value).toArray := ⟨_, _, _, rfl⟩;obtain ⟨gr, hge⟩ := gr;have HGE := ae hge;rw [hge];clear h hge;go_enter func19, ntmps19;go_upto_region 0 with fail;refine af ?_;refine akj (cO (cs := ([.int .i64 gn, .int .i64 gt, .int .i64 gr] : List Value)) rfl akt) ?_;have hbx := (Below.refl w.heap.size w).alloc aj (.cells ([.int .i64 gn, .int .i64 gt, .int .i64 gr] : List Value).toArray 51);have P1 := ae (heap_alloc_new w (.cells ([.int .i64 gn, .int .i64 gt, .int .i64 gr] : List Value).toArray 51));have HB1 := ae hbx;clear hbx;generalize w.alloc (.cells ([.int .i64 gn, .int .i64 gt, .int .i64 gr] : List Value).toArray 51) = w1 at *;refine aF 2 ?_;cases hg : dH x
 ·have HG := ae hg;clear hg;go_upto_region 1 with fail;refine af ?_;refine akj (cv (cs := ([.int .i64 gn, .int .i64 gt, .int .i64 gr] : List Value)) underlying51 rfl (by kernel_rfl) rfl akt (aQ P1)) ?_;refine ay rfl (aB call47 rfl (evc akt evn)) ?_;rw [show Value.agg ([.int .i64 gn, .int .i64 gt, .int .i64 gr] : List Value).toArray = geo x from HGE.out.symm];refine (vh x w1).mono ?_;rintro e w2 ⟨rfl, b2⟩;rw [HG.out];have HB2 := ae (HB1.out.trans (b2.mono HB1.out.size));clear b2;refine aR ?_;refine aF 1 ?_;go_wp2_with fail;go_ret2;exact ⟨rfl, HB2⟩
 have HG := ae hg;have HR : Hid (¬ (1 <= room /\ room <= 64)) := ae fun e => HN.out ⟨hg, e⟩
 clear hg;go_upto_region 1 with fail;refine af ?_;refine akj (cv (cs := ([.int .i64 gn, .int .i64 gt, .int .i64 gr] : List Value)) underlying51 rfl (by kernel_rfl) rfl akt (aQ P1)) ?_;refine ay rfl (aB call47 rfl (evc akt evn)) ?_;rw [show Value.agg ([.int .i64 gn, .int .i64 gt, .int .i64 gr] : List Value).toArray = geo x from HGE.out.symm];refine (vh x w1).mono ?_;rintro e w2 ⟨rfl, b2⟩;rw [HG.out];have HB2 := ae (HB1.out.trans (b2.mono HB1.out.size));clear b2;refine aR ?_;refine aF 1 ?_;go_upto_region 3 with fail;refine aI 1 ?_;refine ay rfl (aB call48 rfl (evc akt evn)) ?_;refine (zU room w2 HR).mono ?_;rintro e w3 ⟨rfl, rfl⟩;refine aR ?_;refine runs 3 ?_;refine aF 2 ?_;go_upto_region 4 with fail;refine aI 1 ?_;refine akj (aK true rfl akt evk rfl) ?_;refine ah ?_;go_upto_region 5 with fail;refine cf 3 ?_;go_wp2_with fail;go_ret2;exact ⟨rfl, HB2⟩
def shZ : List Value := [.int .i64 0, .int .i64 0, .int .i64 0, .pointer none, .map none]
def mT (w : World) (v : Value) : Prop := v = .pointer none \/ ∃ p, v = .pointer (some ⟨p, 0, none⟩) /\ w.heap[p]? = some (.cells shZ.toArray 55 (0, 0))
theorem mT.below {w w' : World} {v : Value} (h : mT w v) (hb : Below w.heap.size w w') : mT w' v := by
 rcases h with h | ⟨p, h, h1⟩
 ·exact .inl h
 ·exact .inr ⟨p, h, aC h1 hb⟩
theorem xp (w : World) : (Instr.build 55 #[]).run prog w = .ok (.agg shZ.toArray) w := by kernel_rfl
theorem n8 (w : World) {v : Value} (h : mT w v) : Calls prog 50 #[v] w fun e w' => e = .returned (.bool false) /\ w = w' := by
 rcases h with rfl | ⟨p, rfl, h⟩
 ·go_enter func50, ntmps50;go_upto_region 1 with fail;refine aI 1 ?_;refine akj (dc false underlying23 rfl akt evk rfl) ?_;refine a7 5 rfl (aM rfl akt) (by kernel_rfl) ?_;simp only [bL, ac, aa];refine aF 2 ?_;go_wp2_with fail;go_ret;exact ⟨rfl, rfl⟩
 ·have HP := ae h;clear h;go_enter func50, ntmps50;go_upto_region 1 with fail;refine aI 1 ?_;refine akj (dc true underlying23 rfl akt evk rfl) ?_;refine runs 3 ?_;refine akq (ax rfl akt i9) ?_;refine akq (aD rfl akt (my (aQ HP 4 _ rfl))) ?_;refine akq (pS false underlying53 rfl akt evk rfl) ?_;refine aF 2 ?_;go_wp2_with fail;go_ret;exact ⟨rfl, rfl⟩
theorem o5 (w : World) (v : Value) (h : mT w v) : Calls prog 24 #[v] w fun e w' => e = .returned (.slice none 0 0) /\ w = w' := by
 have H := ae h;clear h;go_enter func24, ntmps24;go_upto_region 1 with fail;refine aI 1 ?_;refine ay rfl (aB call50 rfl (evc akt evn)) ?_;refine (n8 w H).mono ?_;rintro e w' ⟨rfl, rfl⟩;refine aR ?_;refine aF 1 ?_;go_wp2_with fail;go_ret;exact ⟨rfl, rfl⟩
theorem adA (w : World) (v : Value) (h : mT w v) : Calls prog 7 #[v] w fun e w' => e = .returned (.slice none 0 0) /\ Below w.heap.size w w' := by
 have H := ae h;clear h;go_enter func7, ntmps7;go_upto_region 2 with fail;refine aI 1 ?_;refine ay rfl (aB call24 rfl (evc akt evn)) ?_;refine (o5 w v H).mono ?_;rintro e w' ⟨rfl, rfl⟩;refine aR ?_;refine akj (eD bP rfl akt) ?_;refine aF 1 ?_;go_wp2_with fail
 go_loopw [3, 5, 9] (fun z u c wr => c = .int .i64 0 /\ z = .slice none 0 0 /\ wr = w) (fun _ _ _ _ => 0)
 case atStart => exact ⟨rfl, rfl, rfl⟩
 case round =>
  obtain ⟨rfl, rfl, rfl⟩ := hrel;go_upto_region 3 with fail;refine af ?_;refine akj (aY false rfl akt akt (by decide)) ?_;refine ah ?_;go_upto_region 8 with fail;refine aI 1 ?_;refine ay rfl (aB call26 rfl (evc akt evn)) ?_;refine (uk (l := []) (aN.nil wr wr.heap.size) aj (by decide)).mono ?_;rintro e w2 ⟨rfl, _, b2⟩;have HB := ae b2;clear b2;refine aR ?_;refine ah ?_;go_upto_region 9 with fail;refine cf 2 ?_;go_wp2_with fail;go_ret;exact ⟨rfl, HB⟩
theorem adf (w : World) (v : Value) (n : Int) (h : mT w v) : Calls prog 30 #[v, .int .i64 n] w fun e w' => e = .returned (.int .i64 1) /\ w = w' := by
 have H := ae h;clear h;go_enter func30, ntmps30;go_upto_region 1 with fail;refine aI 1 ?_;refine ay rfl (aB call50 rfl (evc akt evn)) ?_;refine (n8 w H).mono ?_;rintro e w' ⟨rfl, rfl⟩;refine aR ?_;refine aF 2 ?_;go_wp2_with fail;go_ret;exact ⟨rfl, rfl⟩
theorem aba (w : World) (v : Value) (n : Int) (h : mT w v) : Calls prog 37 #[v, .int .i64 n] w fun e w' => e = .returned (.int .i64 1) /\ Below w.heap.size w w' := by
 have H := ae h;clear h;go_enter func37, ntmps37;go_upto_region 1 with fail;refine aI 2 ?_;refine ay rfl (aB call30 rfl (evc akt (evc akt evn))) ?_;refine (adf w v n H).mono ?_;rintro e w' ⟨rfl, rfl⟩;refine aR ?_;refine aF 1 ?_;go_upto_region 2 with fail;refine aI 1 ?_;refine akj (aK true rfl akt evk rfl) ?_;refine ah ?_;go_upto_region 3 with fail;refine cf 2 ?_;go_wp2_with fail;go_ret;exact ⟨rfl, ak⟩
theorem ac1 (w : World) (v : Value) (n : Int) (h : mT w v) : Calls prog 10 #[v, .int .i64 n] w fun e w' => (∃ A c, e = .returned (.slice A 0 c)) /\ Below w.heap.size w w' := by
 have H := ae h;clear h;go_enter func10, ntmps10;go_upto_region 1 with fail;refine aI 2 ?_;refine ay rfl (aB call30 rfl (evc akt (evc akt evn))) ?_;refine (adf w v n H).mono ?_;rintro e w' ⟨rfl, rfl⟩;refine aR ?_;refine akj (aK true rfl akt evk rfl) ?_;refine ah ?_;go_wp2_with fail;go_ret;exact ⟨⟨_, _, rfl⟩, ak⟩
theorem zC (w : World) (v : Value) (Q : Nat) (h : mT w v) : Calls prog 21 #[v, .int .u64 (Q : Int), .slice none 0 0] w fun e w' => e = .returned (.int .i64 1) /\ w = w' := by
 have H := ae h;clear h;go_enter func21, ntmps21;go_upto_region 1 with fail;refine aI 1 ?_;refine ay rfl (aB call50 rfl (evc akt evn)) ?_;refine (n8 w H).mono ?_;rintro e w' ⟨rfl, rfl⟩;refine aR ?_;refine aF 2 ?_;go_wp2_with fail;go_ret;exact ⟨rfl, rfl⟩
theorem agM (w : World) (v : Value) (Q : Nat) (h : mT w v) : Calls prog 6 #[v, .int .u64 (Q : Int), .slice none 0 0] w fun e w' => e = .returned (.int .i64 1) /\ Below w.heap.size w w' := by
 have H := ae h;clear h;go_enter func6, ntmps6;go_upto_region 1 with fail;refine aI 3 ?_;refine ay rfl (aB call21 rfl (evc akt (evc akt (evc akt evn)))) ?_;refine (zC w v Q H).mono ?_;rintro e w' ⟨rfl, rfl⟩;refine aR ?_;refine aF 1 ?_;go_upto_region 2 with fail;refine aI 1 ?_;refine akj (aK true rfl akt evk rfl) ?_;refine ah ?_;go_upto_region 3 with fail;refine cf 2 ?_;go_wp2_with fail;go_ret;exact ⟨rfl, ak⟩
theorem aeq (w : World) (v : Value) (h : mT w v) : Calls prog 52 #[v, .slice none 0 0] w fun e w' => e = .returned (.bool false) /\ Below w.heap.size w w' := by
 have H := ae h;clear h;go_enter func52, ntmps52;go_upto_region 1 with fail;refine aI 1 ?_;refine ay rfl (aB call50 rfl (evc akt evn)) ?_;refine (n8 w H).mono ?_;rintro e w' ⟨rfl, rfl⟩;refine aR ?_;refine aF 1 ?_;go_wp2_with fail;go_ret;exact ⟨rfl, ak⟩
section
variable {x : LnS} {N i n : Nat}
theorem ahX (hi : i < x.l.length) : lnG x (i : Int) = da x i := by unfold lnG; rw [iM hi, Int.toNat_natCast]; rfl
def mK (n : Int) (x : LnS) (l : List Int) : List Cl := l.map fun m => ⟨n, m, (da x m.toNat).b⟩
theorem acx (n : Int) (x : LnS) (i : Nat) : (nC n x i).map bS = mK n x (gO x.l i) := by
 induction i with
 |zero => rfl
 |succ i ih =>
  rw [nC, gO, List.map_append, ih];unfold mK;rw [List.map_append]
  congr 1
  show _ = List.map _ (if (da x i).dt = true then [(i : Int)] else [])
  split
  ·rw [List.map_cons, List.map_nil, List.map_cons, List.map_nil, Int.toNat_natCast]; rfl
  ·rfl
theorem aaM {n : Int} {l : List Int} {i j : Nat} (hi : i < l.length) (hj : l.getD i 0 = (j : Int)) : mK n x (l.take (i + 1)) = mK n x (l.take i) ++ [⟨n, (j : Int), (da x j).b⟩] := by
 unfold mK;rw [vv hi, List.map_append, hj]
 rfl
end
theorem agN {w : World} {v : Value} {x : LnS} {N : Nat} (m : Int) (h : (v = .pointer none /\ x = ed N) \/ ∃ a, v = .pointer (some ⟨a, 0, none⟩) /\ LnA w a (lf x) /\ dV x) : Calls prog 32 #[v, .int .i64 m] w fun e w' => e = .returned (.tuple #[blk (lnG x m).b, .bool (lnG x m).kn]) /\ Below w.heap.size w w' := by
 rcases h with ⟨rfl, rfl⟩ | ⟨a, rfl, h1, h2⟩
 ·have e : lnG (ed N) m = lc0 := by
   unfold lnG
   split
   ·simp only [da, ed, List.getD, List.getElem?_replicate]
    split <;> rfl
   ·rfl
  rw [e];exact ah2 w (.pointer none) m (.inl rfl)
 ·exact agU w m (B := 0) ⟨h1, Nat.zero_le _, h2⟩
theorem adL {w : World} {v : Value} {x : LnS} {N : Nat} (h : (v = .pointer none /\ x = ed N) \/ ∃ a, v = .pointer (some ⟨a, 0, none⟩) /\ LnA w a (lf x) /\ dV x) : Calls prog 31 #[v] w fun e w' => ∃ v, e = .returned v /\ aN bP w' w.heap.size v (lnD x) /\ Below w.heap.size w w' := by
 rcases h with ⟨rfl, rfl⟩ | ⟨a, rfl, h1, h2⟩
 ·rw [yU];exact (aa0 w (.pointer none) (.inl rfl)).mono fun e w' ⟨k0, k1⟩ => ⟨_, k0, aN.nil _ _, k1⟩
 ·exact acn w (B := 0) ⟨h1, Nat.zero_le _, h2⟩
section
variable {w : World} {t lp mp K : Nat} {FL : Nat -> Prop} {m : Nat -> Option Nat} {r : Int} {s : ShS}
theorem PRu.get {k : Nat} (h : PRu w t lp mp FL (kyL s.dty s.o) s.o.length m s.ln s.N s.T s.room r) (hok : bW s) (hk : k < s.T) : ∃ v, (Instr.lookup 53 (.map (some mp)) (.int .i64 (k : Int)) false).run prog w = .ok v w /\ ((v = .pointer none /\ s.ch k = ed s.N) \/ ∃ a, v = .pointer (some ⟨a, 0, none⟩) /\ LnA w a (lf (s.ch k)) /\ dV (s.ch k)) := by
 have hlk := h.map.nA (jP (n := k) (by have := hok.t64; omega));rw [show mLn m (k : Int) = m k from by unfold mLn; rw [if_pos (by omega), Int.toNat_natCast]] at hlk;have hl := h.ln k;cases hx : s.ln k with
 |none =>
  rw [hx] at hl;rw [hl.none_] at hlk;exact ⟨_, hlk, .inl ⟨rfl, i1 hx⟩⟩
 |some x =>
  rw [hx] at hl;obtain ⟨a, ha, h1, h2⟩ := hl.some_;rw [ha] at hlk;exact ⟨_, hlk, .inr ⟨a, rfl, by rw [eE hx]; exact h1, by rw [eE hx]; exact h2⟩⟩
theorem acy (n : Int) (h : PRu w t lp mp FL (kyL s.dty s.o) s.o.length m s.ln s.N s.T s.room r) (hok : bW s) : Calls prog 10 #[.pointer (some ⟨t, 0, none⟩), .int .i64 n] w fun e w' => ∃ v, e = .returned v /\ aN cH w' w.heap.size v ((dj s n).map bS) /\ Below w.heap.size w w' := by
 have HH := ae h;have HOK := ae hok;have HN16 : Hid (s.N <= 16) := ae hok.n16;have HN6 : Hid (s.N <= 1000000) := ae (by have := hok.n16; omega);obtain ⟨en, hen⟩ : ∃ en, shE s n = en := ⟨_, rfl⟩;have HEN := ae hen;have HMY : Hid (aac s.T n = en) := ae ((ur n).trans hen);clear h hok hen;go_enter func10, ntmps10;cases hc : s.str n
 ·have HNE : Hid ((en != 0) = true) := ae (by rw [<- HEN.out]; unfold shE; rw [hc]; rfl);have HZ : Hid (dj s n = []) := ae (by unfold dj; rw [hc]; rfl);clear hc;go_upto_region 1 with fail;refine aI 2 ?_;refine ay rfl (aB call30 rfl (evc akt (evc akt evn))) ?_;refine (xH n HH).mono ?_;rintro e w1 ⟨rfl, b1⟩;rw [HMY.out];have HB := ae b1;have HH1 := ae (HH.out.below b1);clear b1;refine aR ?_;refine akj (aK true rfl akt evk HNE) ?_;refine ah ?_;go_wp2_with fail;go_ret;exact ⟨_, rfl, by rw [HZ.out, List.map_nil]; exact aN.nil _ _, HB⟩
 have hen0 : en = 0 := by rw [<- HEN.out]; unfold shE; rw [hc]; rfl
 subst hen0;obtain ⟨k, rfl, hk⟩ := yo hc;have HKT := ae hk;have HZ : Hid ((dj s (k : Int)).map bS = mK (k : Int) (s.ch k) (lnD (s.ch k))) := ae (by unfold dj; rw [hc, if_pos rfl, Int.toNat_natCast, acx, <- (HOK.out.line k).2]; rfl);have HDL : Hid ((lnD (s.ch k)).length <= 16) := ae (aq (yH _ _) (by rw [(HOK.out.line k).2]; exact HN16));have HDM : Hid (∀ i, i < (lnD (s.ch k)).length -> ∃ j : Nat, (lnD (s.ch k)).getD i 0 = (j : Int) /\ j < (s.ch k).l.length) := ae fun i hi => by
  obtain ⟨j, e, hj, _⟩ := xK (cI (d := 0) hi);exact ⟨j, e, hj⟩
 clear hc hk;go_upto_region 1 with fail;refine aI 2 ?_;refine ay rfl (aB call30 rfl (evc akt (evc akt evn))) ?_;refine (xH (k : Int) HH).mono ?_;rintro e w1 ⟨rfl, b1⟩;rw [HMY.out];have HB := ae b1;have HH1 := ae (HH.out.below b1);clear b1;refine aR ?_;refine akj (aK false rfl akt evk rfl) ?_;refine ah ?_;obtain ⟨v, hlk, hv⟩ := HH1.out.get HOK HKT;have HLK := ae hlk;have HV := ae hv;clear hlk hv;go_upto_region 4 with fail;refine aI 2 ?_;refine akj (ax rfl akt i9) ?_;refine akj (aD rfl akt (my (PRu.c4 HH1))) ?_;refine runs 1 ?_;refine akj (dw rfl akt akt HLK) ?_;refine aF 1 ?_;go_upto_region 5 with fail;refine aI 1 ?_;refine ay rfl (aB call31 rfl (evc akt evn)) ?_;refine (adL HV).mono ?_;rintro e w2 ⟨v2, rfl, m2, b2⟩;obtain ⟨A2, c2, rfl, _, _⟩ := m2.form;have HM2 := ae m2;have HB2 := ae (HB.out.trans (b2.mono HB.out.size));have HVW : Hid (∀ {w' : World}, Below w2.heap.size w2 w' -> (v = .pointer none /\ s.ch k = ed s.N) \/ ∃ a, v = .pointer (some ⟨a, 0, none⟩) /\ LnA w' a (lf (s.ch k)) /\ dV (s.ch k)) := ae fun hw => by
  rcases HV.out with h | ⟨a, h1, h2, h3⟩
  ·exact .inl h
  ·exact .inr ⟨a, h1, (h2.below b2).below hw, h3⟩
 clear m2;refine aR ?_;refine akj (eD bP rfl akt) ?_;refine aF 1 ?_;obtain ⟨D, hD⟩ : ∃ D, lnD (s.ch k) = D := ⟨_, rfl⟩;rw [hD] at HDL HDM HM2 HZ ⊢;clear hD b2;go_wp2_with fail
 go_loopw [5, 8, 9, 10, 24] (fun z _ _ _ y wr => ∃ i : Nat, y = .int .i64 i /\ i <= D.length /\ aN cH wr w2.heap.size z (mK (k : Int) (s.ch k) (D.take i)) /\ Below w2.heap.size w2 wr) (fun _ _ _ _ y _ => D.length - (intOf y).toNat)
 case atStart => exact ⟨0, by go_num, Nat.zero_le _, aN.nil _ _, ak⟩
 case round =>
  obtain ⟨i, rfl, hi, hm, hb⟩ := hrel;have HM := ae hm;have HW := ae hb;have HMr := ae (aN.below HM2 hb);have HVr := ae (HVW.out hb);have HBS : Hid (w2.heap.size <= wr.heap.size) := ae hb.size;clear hm hb;by_cases hlt : i < D.length
  ·have HI := ae hlt;have HT : Hid (decide ((i : Int) < (D.length : Int)) = true) := ae (ao (by omega));have HADD : Hid (IntKind.i64.wrap ((i : Int) + 1) = ((i + 1 : Nat) : Int)) := ae (by have := HDL.out; rw [el ⟨by omega, by omega⟩]; omega);obtain ⟨j, hj, hjL⟩ := HDM.out i hlt;obtain ⟨b, off, hA, _, hc⟩ := HMr.out.rd.int (k := i) hlt;rw [hj] at hc;subst hA;have HC := ae hc;have HGB : Hid (lnG (s.ch k) (j : Int) = da (s.ch k) j) := ae (ahX hjL);have HSN : Hid (mK (k : Int) (s.ch k) (D.take (i + 1)) = mK (k : Int) (s.ch k) (D.take i) ++ [⟨(k : Int), (j : Int), (da (s.ch k) j).b⟩]) := ae (aaM hlt hj);have HLL : Hid ((mK (k : Int) (s.ch k) (D.take i)).length <= 16) := ae (by unfold mK; rw [List.length_map, List.length_take]; have := HDL.out; omega);clear hi hlt hj hjL hc;go_upto_region 6 with fail;refine af ?_;refine akj (aY true rfl akt akt HT) ?_;refine ah ?_;go_upto_region 7 with fail;refine af ?_;refine akj (co (E := bP) rfl akt akt HI) ?_;refine akj (aD rfl akt (cd (by rw [show i * bP.n = i from Nat.mul_one i]; exact HC.out))) ?_;refine aF 1 ?_;obtain ⟨bl, hbl⟩ : ∃ bl, (da (s.ch k) j).b = bl := ⟨_, rfl⟩;rw [hbl] at HSN;have HBL := ae hbl;clear hbl;go_upto_region 8 with fail;refine aI 2 ?_;refine ay rfl (aB call32 rfl (evc akt (evc akt evn))) ?_;refine (agN (j : Int) HVr).mono ?_;rintro e w5 ⟨rfl, b5⟩;rw [HGB.out, HBL.out];have HM5 := ae (HM.out.below b5);have HW5 := ae (HW.out.trans (b5.mono HBS));have hb6 := HW5.out.alloc HW5.out.size (.cells (cel bl).toArray 44);have HW6 := ae hb6;have HX6 := ae (heap_alloc_new w5 (.cells (cel bl).toArray 44));have HM6 := ae (HM5.out.below ((Below.refl w5.heap.size w5).alloc aj (.cells (cel bl).toArray 44)));clear b5 hb6;refine aR ?_;refine runs 3 ?_;refine akj (bU rfl) ?_;refine aG rfl (ip (c := bl) rfl (ev rfl) (ev rfl)) ?_;simp only [aa];refine aF 1 ?_;obtain ⟨b6, hb6⟩ : ∃ b6, w5.heap.size = b6 := ⟨_, rfl⟩;rw [hb6] at HX6 ⊢;clear hb6;generalize w5.alloc (.cells (cel bl).toArray 44) = w6 at *;obtain ⟨cx, hcx⟩ : ∃ cx : Cl, (⟨(k : Int), (j : Int), bl⟩ : Cl) = cx := ⟨_, rfl⟩;have HBS6 : Hid (w2.heap.size <= w6.heap.size) := ae HW6.out.size;have hsz : (w6.alloc (.cells (cW cx).toArray 46)).heap.size = w6.heap.size + 1 := al;obtain ⟨v2, wA, hrun, hm2, hg2⟩ := gB cH (w6.alloc (.cells (cW cx).toArray 46)) 22 w2.heap.size (w6.heap.size + 1) 1 1 u5 (mK (k : Int) (s.ch k) (D.take i)) [cx] (some ⟨w6.heap.size, 0, none⟩) (aN.below HM6 (ak.alloc aj _)) (fS (E := cH) (l := [cx]) w6 (cW cx).toArray 46 (by simp [cE, cH])) (by have := HBS6.out; omega) (by have := HLL.out; simp; omega);have HRUN := ae hrun;have HMA : Hid (aN cH wA w2.heap.size v2 (mK (k : Int) (s.ch k) (D.take (i + 1)))) := ae (by rw [HSN.out, hcx]; exact hm2);have HWA : Hid (Below w2.heap.size w2 wA) := ae ((HW6.out.trans (ak.alloc HBS6 _)).grown hg2 (by have := HBS6.out; omega) (fun j' hj' => HM6.out.gH j' hj'));have HCX := ae hcx;clear hsz hrun hm2 hg2 hcx;go_upto_region 9 with fail;refine aI 3 ?_;refine akj (xk rfl akt akt) ?_;refine akj (bI (c := bl) rfl akt (aQ HX6)) ?_;refine akj (aau (s := (k : Int)) (m := (j : Int)) (b := bl) rfl akt akt) ?_;refine akj (eA (E := cH) (a := cx) rfl akt (by rw [<- HCX.out]; rfl) (by show 66 <= _; omega)) ?_;refine akj (gh (E := cH) rfl akt akt HRUN) ?_;refine aF 1 ?_;go_upto_region 10 with fail;refine af ?_;refine akj (bH rfl akt evk HADD) ?_;refine aF 1 ?_;go_wp2_with fail;go_roundw
   case rel => exact ⟨i + 1, by go_num, HI, HMA, HWA⟩
   case measure => have := HI.out; simp [intOf]; omega
  have hin : i = D.length := by omega
  have HT : Hid (decide ((i : Int) < (D.length : Int)) = false) := ae (am (by omega));have HMF : Hid (aN cH wr w.heap.size u5 ((dj s (k : Int)).map bS)) := ae (by
   have := HM.out;rw [hin, List.take_length] at this;rw [HZ.out];exact this.base HB2.out.size)
  clear hlt hi hin;go_upto_region 6 with fail;refine af ?_;refine akj (aY false rfl akt akt HT) ?_;refine ah ?_;go_upto_region 11 with fail;refine cf 2 ?_;go_wp2_with fail;go_ret;exact ⟨_, rfl, HMF, HB2.out.trans (HW.out.mono HB2.out.size)⟩
end
theorem PSh.ajp {F S : Nat -> Prop} {w w' : World} {t K : Nat} {s : ShS} (h : PSh w S t K s) (hk : Only F w w') (hF : ∀ b, S b -> ¬ F b) : PSh w' S t K s := by
 obtain ⟨lp, mp, FL, m, r, h1, h2, rfl⟩ := h;exact ⟨lp, mp, FL, m, r, h1.only hk hF, h2, rfl⟩
theorem zi (s : ShS) : fw (kyL s.dty s.o) = s.strs := sa
def ajE : ShPr where
 P := PSh
 lt := fun h => h.lt
 only := fun h k n => h.ajp k n
 more := fun h _ => h
 ok := fun h => h.x.ok
 new_ok := fun w hg h1 h2 => ahQ w hg h1 h2
 new_no := fun x room w h => zA x room w h
 put := fun h hQ hK hc hcn _ _ hA => (aic h hQ (by omega) hc hcn hA).mono fun e w' ⟨k0, k1⟩ => ⟨k0, k1.res _⟩
 clean := fun n h => (abh n h).mono fun e w' ⟨k0, k1⟩ => ⟨k0, k1.res _⟩
 fits := fun h hl hwf _ _ hb => by
  have hok := h.x.ok;obtain ⟨lp, mp, FL, m, r, h1, _, _⟩ := h;exact rP h1 hok hl hwf hb
 cells := fun n h => by
  have hok := h.x.ok;obtain ⟨lp, mp, FL, m, r, h1, _, _⟩ := h;exact acy n h1 hok
 cX := fun h => by
  have hok := h.x.ok;obtain ⟨lp, mp, FL, m, r, h1, _, _⟩ := h;exact tW h1 hok
 stripes := fun {w S t K s} h => by
  obtain ⟨lp, mp, FL, m, r, h1, _, _⟩ := h;have := o6 h1;rw [zi] at this;exact this
 No := mT
 zc := shZ
 no_nil := fun w => .inl rfl
 bld0 := fun w => xp w
 no_zero := fun w => .inr ⟨_, rfl, heap_alloc_new w _⟩
 no_below := fun h hb => h.below hb
 no_put := fun w v Q h => agM w v Q h
 no_clean := fun w v n h => aba w v n h
 no_fits := fun w v h => aeq w v h
 no_cells := fun w v n h => ac1 w v n h
 no_dirty := fun w v h => (adA w v h).mono fun e w' ⟨k0, k1⟩ => ⟨⟨_, _, k0⟩, k1⟩
 no_stripes := fun w v h => (o5 w v h).mono fun e w' ⟨k0, k1⟩ => ⟨⟨_, _, k0⟩, by subst k1; exact ak⟩
def ajv (C : eN) (F : ai3 C) : ShI C where
 toShPr := ajE
section
variable {C : eN} {w0 w wr w' : World} {H K : Nat -> Prop} {q p N i : Nat} {rd : HuS -> Int -> Int × Blk × HuS} {P : HuS -> Int -> Prop} {sk s : Int} {X : Int × List Blk × HuS} {l l2 : List Blk} {h h' : HuS} {v v2 : Value}
theorem ajZ (C : eN) : ai3 C where
end
end Go.Proofs.YtlmdklakcmnaiaaGreatDoor
