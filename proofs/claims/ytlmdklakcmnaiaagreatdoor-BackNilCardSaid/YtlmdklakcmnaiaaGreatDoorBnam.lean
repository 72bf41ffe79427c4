import Derived.Test.YtlmdklakcmnaiaaGreatDoorBnal
namespace Go.Proofs.YtlmdklakcmnaiaaGreatDoor
set_option maxHeartbeats 8000000
open Go.Proofs.Tryz
open Go.RowKit
set_option linter.unusedVariables false
set_option linter.unusedSimpArgs false
set_option maxRecDepth 100000
open Go.Maps (Keyed)
def emR : Value -> Option (DataW Unit × List MemPlace)
 |.agg a => if a.size = 0 then some (.nil, []) else none
 |_ => none
def jI (w : World) (b N : Nat) (P : Int -> Bool) : Prop :=
 ∃ D : DataW Unit, w.ownsMap prog 3 emR b N D /\ Maps.size D = N /\ ∀ k, (Lit.int .i64 k).wf = true -> Maps.has D (.int .i64 k) = P k
section
variable {w w' : World} {b N : Nat} {P : Int -> Bool} {k : Int}
theorem jI.kept (h : jI w b N P) (hk : ∀ es c, w.heap[b]? = some (.map es c) -> w'.heap[b]? = some (.map es c)) : jI w' b N P := by
 obtain ⟨D, ⟨es, c, hb, r⟩, h2⟩ := h;exact ⟨D, ⟨es, c, hk es c hb, r⟩, h2⟩
theorem jI.below (h : jI w b N P) (hb : Below w.heap.size w w') : jI w' b N P := h.kept fun es c e => aB e hb
theorem jI.made (w : World) : jI (w.alloc (.map #[] 0)) w.heap.size 0 (fun _ => false) :=
 ⟨.map [], World.ownsMap_made _ _ _ _, rfl, fun k _ => rfl⟩
theorem jI.len (h : jI w b N P) (ty : TypeId) : (Builtin.len_ #[150] ty #[.map (some b)]).run prog w = .ok (.int .i64 (N : Int)) w := by
 obtain ⟨D, h1, h2, _⟩ := h;rw [h1.len underlying150 ty, h2]
theorem jI.store (h : jI w b N P) (hw : (Lit.int .i64 k).wf = true) (hN : N < maxLen) :
  ∃ w', (Instr.mapUpdate 150 (.map (some b)) (.int .i64 k) (.agg #[])).run prog w = .ok () w' /\ jI w' b (if P k = true then N else N + 1) (fun j => decide (j = k) || P j) /\ w.mapTurned w' b := by
 obtain ⟨D, h1, h2, h3⟩ := h;obtain ⟨w', hr, ho, ht⟩ := h1.store fo underlying150 hN (qf hw) (show emR (.agg #[]) = some (.nil, []) from rfl);have hT := h1.tidy fo;have hk : WideAt.IsKeyLit (Lit.int .i64 k) := fo.key (qf hw);have hs : Maps.size (D.put (.int .i64 k) (.nil : DataW Unit)) = if P k = true then N else N + 1 := by
  rw [Maps.size_put hT, h3 k hw, h2]
 refine ⟨w', hr, ⟨_, by
  obtain ⟨es, clock, hb, F, hs', he⟩ := ho;rw [<- hs];exact ⟨es, clock, hb, F, by rw [he]; simp [Maps.size, length_sorted], he⟩, hs, fun j hj => ?_⟩, ht⟩
 by_cases e : j = k
 ·subst e;dsimp only;rw [Maps.has_put_same hT.isMap hk, ao rfl]
  rfl
 ·dsimp only;rw [Maps.has_put_other (ju e), am e, h3 j hj]
  rfl
theorem yH {ρ : Operand -> Value} {o : Oper} {x : Operand} (ho : o.op = .call { callee := .builtin .len, args := #[x], argTypes := #[150] }) (hx : ρ x = .map (some b)) (h : jI w b N P) : (execOp ρ o).run prog w = .ok (.value (.int .i64 (N : Int))) w := by
 simp [execOp, ho, resolve, invoke, builtin, hx, h.len, Result.andThen]
theorem xy {ρ : Operand -> Value} {o : Oper} (ho : o.op = .build 151 #[]) : (execOp ρ o).run prog w = .ok (.value (.agg #[])) w := by
 have h : (Instr.build 151 #[]).run prog w = .ok (.agg #[]) w := by kernel_rfl
 unfold execOp;simp [ho, h, Result.andThen]
def MapU (w : World) (b : Nat) (U : List Int) : Prop := jI w b U.length (fun j => U.contains j)
theorem MapU.store {U : List Int} (h : MapU w b U) (hw : (Lit.int .i64 k).wf = true) (hN : U.length < maxLen) :
  ∃ w', (Instr.mapUpdate 150 (.map (some b)) (.int .i64 k) (.agg #[])).run prog w = .ok () w' /\ MapU w' b (if U.contains k = true then U else U ++ [k]) /\ w.mapTurned w' b := by
 obtain ⟨w', h1, h2, h3⟩ := jI.store h hw hN;refine ⟨w', h1, ?_, h3⟩;unfold MapU;have e1 : (if U.contains k = true then U else U ++ [k]).length = if U.contains k = true then U.length else U.length + 1 := by split <;> simp
 have e2 : (fun j => (if U.contains k = true then U else U ++ [k]).contains j) = fun j => decide (j = k) || U.contains j := funext fun j => by
  by_cases hc : U.contains k = true
  ·rw [if_pos hc];by_cases e : j = k
   ·subst e; rw [hc, ao rfl]; rfl
   ·rw [am e]; rfl
  ·rw [if_neg hc, Bool.eq_iff_iff];simp [or_comm]
 rw [e1, e2];exact h2
theorem MapU.below {U : List Int} (h : MapU w b U) (hb : Below w.heap.size w w') : MapU w' b U := jI.below h hb
end
section
variable {w : World} {t lp mp K : Nat} {FL : Nat -> Prop} {m : Nat -> Option Nat} {r : Int} {s : ShS}
theorem rz {l : List Int} {A : Option Addr} {nl cl : Nat} (h : PRu w t lp mp FL (kyL s.dty s.o) s.o.length m s.ln s.N s.T s.room r) (hok : bX s) (hl : RdE bN w w.heap.size A nl l) (hwf : ∀ x ∈ l, (Lit.int .i64 x).wf = true) (hbig : l.length <= 17592186043904) : Calls prog 52 #[.pointer (some ⟨t, 0, none⟩), .slice A nl cl] w fun e w' => e = .returned (.bool (s.fits l)) /\ Below w.heap.size w w' := by
 have hnl := hl.1;subst hnl;have HBG := ae hbig;have HOK := ae hok;have HDL : Hid (s.da.length <= 64) := ae (aq (uW _ _) hok.t64);have HDR := ae hok.uU;have HD64 : Hid (∀ i, i < s.da.length -> (Lit.int .i64 (s.da.getD i 0)).wf = true) := ae fun i hi => by
  have hm : s.da.getD i 0 ∈ s.da := cz hi;obtain ⟨j, e, hj, _⟩ := fY.1 hm;rw [e];exact jD (by have := hok.t64; omega)
 have HLW : Hid (∀ i, i < l.length -> (Lit.int .i64 (l.getD i 0)).wf = true) := ae fun i hi => hwf _ (cz hi)
 have HUN : Hid (∀ i, eQ [] (s.da.take i) = s.da.take i) := ae (abO s);obtain ⟨D, hD⟩ : ∃ D, s.da = D := ⟨_, rfl⟩;have HF0 : Hid (s.fits l = decide ((eQ D l).length <= s.room)) := ae (by unfold ShS.fits; rw [hD]);obtain ⟨ft, hft⟩ : ∃ ft, s.fits l = ft := ⟨_, rfl⟩;rw [hft] at HF0;rw [hD] at HDL HDR HD64 HUN;rw [hft];have HDQ := ae hD;clear hD hft;have hbx := (Below.refl w.heap.size w).alloc aj (.map #[] 0);have HS1 := ae (jI.made w);have HH0 := ae h;have HH := ae (h.below hbx);have HL := ae hl;have HB := ae hbx;have HSZ : Hid ((w.alloc (.map #[] 0)).heap.size = w.heap.size + 1) := ae (World.size_alloc ..);clear h hok hl hwf hbig hbx;go_enter func52, ntmps52;go_upto_region 1 with fail;refine aH 1 ?_;refine aw rfl (aA call50 rfl (evc ajL evn)) ?_;refine (nL HH0).mono ?_;rintro e w' ⟨rfl, rfl⟩;refine aQ ?_;refine aF 1 ?_;go_upto_region 3 with fail;refine af ?_;refine ajB (oo rfl) ?_;refine aF 1 ?_;obtain ⟨bm, hbm⟩ : ∃ bm, w.heap.size = bm := ⟨_, rfl⟩;rw [hbm] at HS1 HSZ;have HBM := ae hbm;rw [hbm];generalize w.alloc (.map #[] 0) = w1 at *;clear hbm;go_upto_region 4 with fail;refine aH 1 ?_;refine aw rfl (aA call7 rfl (evc ajL evn)) ?_;refine (tG HH HOK).mono ?_;rintro e w2 ⟨v2, rfl, m2, b2⟩;rw [HDQ.out] at m2;obtain ⟨A2, c2, rfl, _, _⟩ := m2.form;have HM2 := ae m2;have HB2 := ae (HB.out.trans (b2.mono HB.out.size));have HH2 := ae (HH.out.below b2);have HS2 := ae (HS1.out.below b2);clear m2 b2;refine aQ ?_;refine ajB (et bN rfl ajL) ?_;refine aF 1 ?_;go_wp2_with fail
 go_loopw [7, 17] (fun u c wr => ∃ i : Nat, c = .int .i64 i /\ i <= D.length /\ MapU wr bm (D.take i) /\ aO bN wr w1.heap.size (.slice A2 D.length c2) D /\ PRu wr t lp mp FL (kyL s.dty s.o) s.o.length m s.ln s.N s.T s.room r /\ Below bm w wr) (fun _ c _ => D.length - (intOf c).toNat)
 case atStart => exact ⟨0, by go_num, Nat.zero_le _, HS2, HM2, HH2, by have := HB2.out; rwa [HBM.out] at this⟩
 case round =>
  obtain ⟨i, rfl, hi, hs, hm, hh, hb⟩ := hrel;have HSr := ae hs;have HMr := ae hm;have HHr := ae hh;have HWr := ae hb;clear hs hm hh hb;by_cases hlt : i < D.length
  ·have HI := ae hlt;have HT : Hid (decide ((i : Int) < (D.length : Int)) = true) := ae (ao (by omega));have HA : Hid (IntKind.i64.wrap ((i : Int) + 1) = ((i + 1 : Nat) : Int)) := ae (by have := HDL.out; rw [eW ⟨by omega, by omega⟩]; omega);obtain ⟨b, off, hA, _, hc⟩ := HMr.out.rd.int (k := i) hlt;subst hA;have HC := ae hc;obtain ⟨wn, hrn, hmn, htn⟩ := HSr.out.store (HD64.out i hlt) (by unfold maxLen; have := HDL.out; rw [List.length_take]; omega);have hst : (if (D.take i).contains (D.getD i 0) = true then D.take i else D.take i ++ [D.getD i 0]) = D.take (i + 1) := by
    have := pH [] (D.take i) (D.getD i 0);rw [<- vc hlt, HUN.out, HUN.out] at this;exact this.symm
   rw [hst] at hmn;have hg := htn.grown;have hmp : mp ≠ bm := fun e => by
    obtain ⟨es, q, hq⟩ := HH0.out.af9;have := aT hq;rw [HBM.out] at this;omega
   have hlow : ∀ q, pV t mp FL m q -> q ≠ bm := fun q hq e => by
    have := HH0.out.size q hq;rw [HBM.out] at this;omega
   have HRN := ae hrn;have HMN := ae hmn;have HHN := ae (HHr.out.only (fu (F := fun j => j = bm) htn rfl) hlow);have HRD : Hid (aO bN wn w1.heap.size (.slice (some ⟨b, off, none⟩) D.length c2) D) := ae (HMr.out.kept hg (by
    cases ho : (Value.slice (some ⟨b, off, none⟩) D.length c2).ownBlock with
    |none => exact .inl rfl
    |some q =>
     right
     intro e;injection e with e;have := HMr.out.gW q ho;have := HSZ.out;omega))
   have HWN : Hid (Below bm w wn) := ae ((HWr.out).grown hg (aq (Nat.le_of_eq HBM.out.symm) HWr.out.size) fun j hj => by injection hj with hj; subst hj; exact aj);clear hi hlt hc hrn hmn htn hst hg hmp hlow;go_upto_region 5 with fail;refine af ?_;refine ajB (aZ true rfl ajL ajL HT) ?_;refine ah ?_;go_upto_region 6 with fail;refine af ?_;refine ajB (cM (E := bN) rfl ajL ajL HI) ?_;refine ajB (aC rfl ajL (bY (by rw [show i * bN.n = i from Nat.mul_one i]; exact HC.out))) ?_;refine aF 1 ?_;go_upto_region 7 with fail;refine aH 2 ?_;refine ajB (xy rfl) ?_;refine aG rfl (iW rfl (ev rfl) (ev rfl) (ev rfl) HRN.out) ?_;simp only [aa];refine ah ?_;go_upto_region 8 with fail;refine af ?_;refine ajB (bL rfl ajL evk HA) ?_;refine aF 1 ?_;go_wp2_with fail;go_roundw
   case rel => exact ⟨i + 1, by go_num, HI, HMN, HRD, HHN, HWN⟩
   case measure => have := HI.out; simp [intOf]; omega
  have hin : i = D.length := by omega
  have HT : Hid (decide ((i : Int) < (D.length : Int)) = false) := ae (am (by omega));have HSD : Hid (MapU wr bm D) := ae (by have := HSr.out; rwa [hin, List.take_length] at this);clear hlt hi hin;go_upto_region 5 with fail;refine af ?_;refine ajB (aZ false rfl ajL ajL HT) ?_;refine ah ?_;go_upto_region 9 with fail;refine aH 1 ?_;refine ajB (et bN rfl ajL) ?_;refine aF 1 ?_;have HLD : Hid (RdE bN wr wr.heap.size A l.length l) := ae (((HL.out).below (by rw [HBM.out]; exact HWr)).more HWr.out.size);go_wp2_with fail
  go_loopw [9, 27] (fun u c wx => ∃ i : Nat, c = .int .i64 i /\ i <= l.length /\ MapU wx bm (eQ D (l.take i)) /\ (eQ D (l.take i)).length <= s.room /\ PRu wx t lp mp FL (kyL s.dty s.o) s.o.length m s.ln s.N s.T s.room r /\ Below bm w wx) (fun _ c _ => l.length - (intOf c).toNat)
  case atStart => exact ⟨0, by go_num, Nat.zero_le _, HSD, HDR, HHr, HWr⟩
  case round =>
   obtain ⟨i, rfl, hi, hs, hrm, hh, hb⟩ := hrel;have HSx := ae hs;have HHx := ae hh;have HWx := ae hb;have HRM := ae hrm;clear hs hh hb hrm;by_cases hlt : i < l.length
   ·have HI := ae hlt;have HT2 : Hid (decide ((i : Int) < (l.length : Int)) = true) := ae (ao (by omega));have HA : Hid (IntKind.i64.wrap ((i : Int) + 1) = ((i + 1 : Nat) : Int)) := ae (by have := HBG.out; rw [eW ⟨by omega, by omega⟩]; omega);obtain ⟨b, off, hA, _, hc⟩ := ((HL.out).below (by rw [HBM.out]; exact HWx)).int (k := i) hlt;subst hA;have HC := ae hc;have hr64 := HOK.out.r64;obtain ⟨wn, hrn, hmn, htn⟩ := HSx.out.store (HLW.out i hlt) (by unfold maxLen; have := HRM.out; omega);obtain ⟨U, hU⟩ : ∃ U, eQ D (l.take (i + 1)) = U := ⟨_, rfl⟩;have hst : (if (eQ D (l.take i)).contains (l.getD i 0) = true then eQ D (l.take i) else eQ D (l.take i) ++ [l.getD i 0]) = U := by
     rw [<- hU, vc hlt, pH]
    rw [hst] at hmn;have hg := htn.grown;have hlow : ∀ q, pV t mp FL m q -> q ≠ bm := fun q hq e => by
     have := HH0.out.size q hq;rw [HBM.out] at this;omega
    have HRN := ae hrn;have HMN := ae hmn;have HHN := ae (HHx.out.only (fu (F := fun j => j = bm) htn rfl) hlow);have HWN : Hid (Below bm w wn) := ae ((HWx.out).grown hg (aq (Nat.le_of_eq HBM.out.symm) HWx.out.size) fun j hj => by injection hj with hj; subst hj; exact aj);have HUQ := ae hU;clear hi hlt hc hrn hmn htn hst hg hlow hr64 hU;go_upto_region 10 with fail;refine af ?_;refine ajB (aZ true rfl ajL ajL HT2) ?_;refine ah ?_;go_upto_region 11 with fail;refine af ?_;refine ajB (cM (E := bN) rfl ajL ajL HI) ?_;refine ajB (aC rfl ajL (bY (by rw [show i * bN.n = i from Nat.mul_one i]; exact HC.out))) ?_;refine aF 1 ?_;go_upto_region 12 with fail;refine aH 2 ?_;refine ajB (xy rfl) ?_;refine aG rfl (iW rfl (ev rfl) (ev rfl) (ev rfl) HRN.out) ?_;simp only [aa];refine ah ?_;go_upto_region 13 with fail;refine aR (B := wn.heap.size) (by kernel_rfl) ?_;refine cy 1 ?_;refine ajJ (fun _ hw => yH rfl ajL (MapU.below HMN hw)) ?_;refine cy 2 ?_;refine ajJ (fun _ hw => ax rfl ajL kO) ?_;refine ajJ (fun _ hw => aC rfl ajL (pZ (PRu.c3 (HHN.out.below hw)))) ?_;refine bO rfl (fun _ => aA call84 rfl (evc ajL evn)) (bw aj fun _ hw => (ac3 _ (HHN.out.below hw).li).mono fun _ _ h => ⟨h.1, by rw [<- h.2]; exact ak⟩) ?_;simp only [aa];by_cases hq : s.room < U.length
    ·have HQ : Hid (decide ((s.room : Int) < (U.length : Int)) = true) := ae (ao (by omega));have HFF : Hid (ft = false) := ae (by
      rw [HF0.out];have := zR D l (i + 1);rw [HUQ.out] at this;exact am (by omega))
     clear hq;refine ajJ (fun _ hw => dC true rfl ajL ajL HQ) ?_;refine wpQuiet_nil ?_;intro w13 hw;have HWZ := ae (HWN.out.trans (hw.mono (aq (Nat.le_of_eq HBM.out.symm) HWN.out.size)));clear hw;go_wp2_with fail;go_ret;exact ⟨by rw [HFF.out]; rfl, by rw [HBM.out]; exact HWZ⟩
    have HQ : Hid (decide ((s.room : Int) < (U.length : Int)) = false) := ae (am (by omega));have HQ2 : Hid (U.length <= s.room) := ae (by omega);clear hq;refine ajJ (fun _ hw => dC false rfl ajL ajL HQ) ?_;refine wpQuiet_nil ?_;intro w13 hw;have HWZ := ae (HWN.out.trans (hw.mono (aq (Nat.le_of_eq HBM.out.symm) HWN.out.size)));have HMZ := ae (MapU.below HMN hw);have HHZ := ae (HHN.out.below hw);clear hw;go_upto_region 15 with fail;refine af ?_;refine ajB (bL rfl ajL evk HA) ?_;refine aF 1 ?_;go_wp2_with fail;go_roundw
    case rel => exact ⟨i + 1, by go_num, HI, by rw [HUQ.out]; exact HMZ, by rw [HUQ.out]; exact HQ2, HHZ, HWZ⟩
    case measure => have := HI.out; simp [intOf]; omega
   have hin : i = l.length := by omega
   have HT2 : Hid (decide ((i : Int) < (l.length : Int)) = false) := ae (am (by omega));have HFF : Hid (ft = true) := ae (by
    rw [HF0.out];have := HRM.out;rw [hin, List.take_length] at this;exact ao this)
   clear hlt hi hin;go_upto_region 10 with fail;refine af ?_;refine ajB (aZ false rfl ajL ajL HT2) ?_;refine ah ?_;go_wp2_with fail;go_ret;exact ⟨by rw [HFF.out]; rfl, by rw [HBM.out]; exact HWx⟩
end
def pPl (N n : Nat) : Nat := N - 1 - n % N
def km (N n : Nat) (x : Cl) : Bool := decide (x.s = (n : Int)) && decide (x.m = ((pPl N n : Nat) : Int))
section
variable {s : ShS} {Q i : Nat} {c : List dh}
theorem lz (hi : i < c.length) : (c.map bV).getD i iV = bV (c.getD i cT) := by
 rw [List.getD, List.getElem?_map, List.getD, List.getElem?_eq_getElem hi]
 rfl
theorem ad4 (hi : i < c.length) : (c.take (i + 1)).map dh.n = (c.take i).map dh.n ++ [(c.getD i cT).n] := by
 rw [List.take_add_one, List.getElem?_eq_getElem hi, List.map_append, List.getD, List.getElem?_eq_getElem hi]
 rfl
theorem acm {f : dh -> Bool} (hi : i < c.length) : (c.take (i + 1)).all f = ((c.take i).all f && f (c.getD i cT)) := by
 rw [List.take_add_one, List.getElem?_eq_getElem hi, List.getD, List.getElem?_eq_getElem hi, List.all_append];simp
theorem aeY {f : dh -> Bool} (hi : i < c.length) (h : f (c.getD i cT) = false) : c.all f = false := by
 rw [Bool.eq_false_iff];intro e;have := List.all_eq_true.1 e (c.getD i cT) (by rw [List.getD, List.getElem?_eq_getElem hi]; exact List.getElem_mem hi);rw [h] at this;cases this
structure aix (s : ShS) (Q : Nat) (c : List dh) (i k m : Nat) : Prop where
 mN : m < s.N
 n : (c.getD i cT).n = (k : Int)
 m : (c.getD i cT).m = (m : Int)
 kT : k < s.T
 ok : bX ((c.take i).foldl (dE Q) s)
 T : ((c.take i).foldl (dE Q) s).T = s.T
 tok : bX (((c.take i).foldl (dE Q) s).tch k)
 tT : (((c.take i).foldl (dE Q) s).tch k).T = s.T
 tln : (((c.take i).foldl (dE Q) s).tch k).ln k = some (((c.take i).foldl (dE Q) s).cf k)
 nxt : (c.take (i + 1)).foldl (dE Q) s = (((c.take i).foldl (dE Q) s).tch k).dZ k (some (eg (((c.take i).foldl (dE Q) s).cf k) (c.getD i cT).m (c.getD i cT).b Q))
 nok : bX ((c.take (i + 1)).foldl (dE Q) s)
 tb : ((c.take i).foldl (dE Q) s).eY k = true
 n0 : Q ≠ 0
theorem ab8 (h : bX s) (hq : js s Q c = 0) (hQ : Q < 18446744073709551616) (hi : i < c.length) : ∃ k m : Nat, aix s Q c i k m := by
 obtain ⟨h1, h2, h3⟩ := nJ hq;have hx : c.getD i cT ∈ c := by rw [List.getD, List.getElem?_eq_getElem hi]; exact List.getElem_mem hi
 have hp := h1 _ hx;obtain ⟨k, m, e1, hk, e2, hmN⟩ := iu hp;have ih := gJ h hq hQ i (Nat.le_of_lt hi);have ih1 := gJ h hq hQ (i + 1) hi;have hs := ih.step (p := c.getD i cT) h3 hp ((jN _ _).2 (.inr (List.mem_map.2 ⟨_, hx, rfl⟩))) h2 hQ;have ek : (c.getD i cT).n.toNat = k := by omega
 rw [ek] at hs;have ht := pA hs.1;refine ⟨k, m, hmN, e1, e2, hk, ih.ok, ih.T, hs.2.1, (ShS.oW _ _).2.1.trans ih.T, ht, ?_, ih1.ok, hs.1, h2⟩;rw [eH _ _ (d := cT) hi];generalize (c.take i).foldl (dE Q) s = s1 at *;unfold dE;rw [ek, eu ht]
structure ais (s2 : ShS) (c : List dh) (i k : Nat) : Prop where
 ok : bX ((c.take i).foldl (cE c) s2)
 N : ((c.take i).foldl (cE c) s2).N = s2.N
 T : ((c.take i).foldl (cE c) s2).T = s2.T
 ln : ((c.take i).foldl (cE c) s2).ln k = some (((c.take i).foldl (cE c) s2).cf k)
 yes : (c.map bV).any (km ((c.take i).foldl (cE c) s2).N k) = true -> (c.take (i + 1)).foldl (cE c) s2 = (c.take i).foldl (cE c) s2
 no : (c.map bV).any (km ((c.take i).foldl (cE c) s2).N k) = false -> (c.take (i + 1)).foldl (cE c) s2 = ((c.take i).foldl (cE c) s2).dZ k (some (fN (((c.take i).foldl (cE c) s2).cf k) ((pPl ((c.take i).foldl (cE c) s2).N k : Nat) : Int)))
 nok : bX ((c.take (i + 1)).foldl (cE c) s2)
theorem yk (N k : Nat) : (c.map bV).any (km N k) = rM N c (k : Int) := by
 rw [List.any_map];unfold rM
 congr 1
theorem aaT {s2 : ShS} {k : Nat} (h : bX s2) (hp : ∀ x ∈ c, (s2.ln x.n.toNat).isSome = true) (hi : i < c.length) (hn : (c.getD i cT).n = (k : Int)) : ais s2 c i k := by
 have hx : c.getD i cT ∈ c := by rw [List.getD, List.getElem?_eq_getElem hi]; exact List.getElem_mem hi
 have ih := iY h c hp i (Nat.le_of_lt hi);have ih1 := iY h c hp (i + 1) hi;have ek : (c.getD i cT).n.toNat = k := by omega
 have hl : (((c.take i).foldl (cE c) s2).ln k).isSome = true := by rw [ih.some, <- ek]; exact hp _ hx
 obtain ⟨y, hy⟩ := Option.isSome_iff_exists.1 hl;refine ⟨ih.ok, ih.N, ih.T, by rw [hy, eu hy], fun e => ?_, fun e => ?_, ih1.ok⟩
 ·rw [yk] at e;rw [eH _ _ (d := cT) hi];generalize (c.take i).foldl (cE c) s2 = s1 at *
  show cE c _ (c.getD i cT) = _
  unfold cE;rw [hn, if_pos e]
 ·rw [yk] at e;rw [eH _ _ (d := cT) hi];generalize (c.take i).foldl (cE c) s2 = s1 at *
  show cE c _ (c.getD i cT) = _
  unfold cE pPl;rw [hn, if_neg (by rw [e]; decide), Int.toNat_natCast]
end
def stz (c : List dh) (n i : Nat) : List Int := (c.take i).map dh.n ++ List.replicate (n - i) 0
section
variable {c : List dh} {n i : Nat}
theorem abv : stz c n 0 = List.replicate n 0 := by simp [stz]
theorem ad7 (h : c.length = n) : stz c n n = c.map dh.n := by subst h; simp [stz]
theorem aeG (h : c.length = n) (hi : i < n) : (stz c n i).set i (c.getD i cT).n = stz c n (i + 1) := by
 unfold stz;have hl : ((c.take i).map dh.n).length = i := by rw [List.length_map, List.length_take]; omega
 obtain ⟨d, hd⟩ : ∃ d, n - i = d + 1 := ⟨n - i - 1, by omega⟩;rw [List.set_append_right _ _ (by omega), hl, Nat.sub_self, hd, List.replicate_succ, List.set_cons_zero, show n - (i + 1) = d by omega, ad4 (by omega), List.append_assoc]
 rfl
end
theorem ahk {w : World} {b k : Nat} {a : Int} (h : w.there b k 1) : (Instr.storeAt 3 (.pointer (some ⟨b, k, none⟩)) (.int .i64 a)).run prog w = .ok () (w.setCells b k (bN.cel a)) := by
 obtain ⟨h1, h2⟩ := h 0 (by omega);rw [Nat.add_zero] at h1 h2;obtain ⟨u, hu⟩ := Option.isSome_iff_exists.1 h1;simp [go_sem, hu, h2, bN, World.setCells]
section
variable {w : World} {t lp mp K : Nat} {FL : Nat -> Prop} {m : Nat -> Option Nat} {r : Int} {s : ShS}
theorem aak {Q nc cc : Nat} {A : Option Addr} {c : List dh} (h : PRu w t lp mp FL (kyL s.dty s.o) s.o.length m s.ln s.N s.T s.room r) (hok : bX s) (hn0 : nc <= 1000000) (hc : RdE dw w w.heap.size A nc (c.map bV)) (hcn : c.length = nc) : Calls prog 21 #[.pointer (some ⟨t, 0, none⟩), .int .u64 (Q : Int), .slice A nc cc] w fun e w' => e = .returned (.int .i64 (js s Q c)) /\ Below w.heap.size w w' := by
 have HH := ae h;have HOK := ae hok;have HC := ae hc;have HCN := ae hcn;have HN0 := ae hn0;have hmz := pS bN rfl w nc w.heap.size aj hn0;have hb1 := (Below.refl w.heap.size w).alloc aj (.cells (madeCells bN.z.cells (nc * bN.n)) bN.t);have HBZ := ae hb1;have HM0 : Hid (aO bN (w.alloc (.cells (madeCells bN.z.cells (nc * bN.n)) bN.t)) w.heap.size (.slice (some ⟨w.heap.size, 0, none⟩) nc nc) (List.replicate nc 0)) := ae hmz;obtain ⟨pq, hpq⟩ : ∃ pq, js s Q c = pq := ⟨_, rfl⟩;have HPQ := ae hpq;rw [hpq];clear h hok hc hcn hn0 hmz hb1 hpq;go_enter func21, ntmps21;go_upto_region 1 with fail;refine aH 1 ?_;refine aw rfl (aA call50 rfl (evc ajL evn)) ?_;refine (nL HH).mono ?_;rintro e w' ⟨rfl, rfl⟩;refine aQ ?_;refine aF 2 ?_;go_upto_region 3 with fail;refine aH 1 ?_;by_cases hq : Q = 0
 ·have HE : Hid (((Q : Int) == 0) = true) := ae (by rw [hq]; rfl);have HZ : Hid (pq = 2) := ae (by
   rw [<- HPQ.out];unfold js;rw [if_pos hq]
   split <;> rfl)
  clear hq;refine ajB (aE true rfl ajL evk HE) ?_;refine aF 1 ?_;go_wp2_with fail;go_ret;exact ⟨by rw [HZ.out]; rfl, ak⟩
 have HE : Hid (((Q : Int) == 0) = false) := ae (au (by omega));have HQ0 := ae hq;clear hq;refine ajB (aE false rfl ajL evk HE) ?_;refine aF 1 ?_;go_upto_region 5 with fail;refine aH 1 ?_;refine ajB (et dw rfl ajL) ?_;refine ajB (pl (E := bN) rfl ajL ajL HN0) ?_;refine aF 1 ?_;generalize w.alloc (.cells (madeCells bN.z.cells (nc * bN.n)) bN.t) = w1 at *;obtain ⟨g, hg⟩ : ∃ g, w.heap.size = g := ⟨_, rfl⟩;rw [hg] at HM0 HBZ ⊢;have HG := ae hg;have HHg : Hid (∀ q, pV t mp FL m q -> q < g) := ae fun q hq => by have := HH.out.size q hq; omega
 clear hg;go_upto_region 6 with fail;refine aH 1 ?_;refine ajB (et dw rfl ajL) ?_;refine aF 1 ?_;go_wp2_with fail
 go_loopw [8, 9, 22] (fun _ _ y wr => ∃ i : Nat, y = .int .i64 i /\ i <= nc /\ (c.take i).all (fun x => s.plc x.n x.m) = true /\ aO bN wr g (.slice (some ⟨g, 0, none⟩) nc nc) (stz c nc i) /\ Below g w wr) (fun _ _ y _ => nc - (intOf y).toNat)
 case atStart => exact ⟨0, by go_num, Nat.zero_le _, rfl, by rw [abv]; exact HM0, HBZ⟩
 case round =>
  obtain ⟨i, rfl, hi, ha, hm, hb⟩ := hrel;have HAL := ae ha;have HM := ae hm;have HW := ae hb;have hb' : Below w.heap.size w wr := by rw [HG.out]; exact hb
  have HHr := ae (HH.out.below hb');have HCr := ae (HC.out.step hb');have HBS : Hid (g <= wr.heap.size) := ae (by have := hb'.size; rw [HG.out] at this; exact this);clear ha hm hb hb';by_cases hlt : i < nc
  ·have HI := ae hlt;have HIC : Hid (i < c.length) := ae (by rw [HCN.out]; exact hlt);have HT : Hid (decide ((i : Int) < (nc : Int)) = true) := ae (ao (by omega));have HADD : Hid (IntKind.i64.wrap ((i : Int) + 1) = ((i + 1 : Nat) : Int)) := ae (by have := HN0.out; rw [eW ⟨by omega, by omega⟩]; omega);obtain ⟨b, off, rfl, hbb, hcell⟩ := HCr.out.cl hlt;obtain ⟨x, hx⟩ : ∃ x, c.getD i cT = x := ⟨_, rfl⟩;rw [lz HIC.out, hx] at hcell;have HCL : Hid (wr.rangeAt b (off + i * dw.n) (cQ (bV x))) := ae hcell;have HXX := ae hx;have HB3 : Hid (Below wr.heap.size wr (wr.alloc (.cells (cQ (bV x)).toArray 46))) := ae (ak.alloc aj _);have HBX := ae (heap_alloc_new wr (.cells (cQ (bV x)).toArray 46));clear hi hlt hcell hx hbb;go_upto_region 7 with fail;refine af ?_;refine ajB (aZ true rfl ajL ajL HT) ?_;refine ah ?_;go_upto_region 8 with fail;refine aH 1 ?_;refine ajB (cM (E := dw) rfl ajL ajL HI) ?_;refine ajB (fT rfl ajL HCL) ?_;refine ajB (gd rfl) ?_;refine runs 1 ?_;refine aG rfl (gY rfl (ev rfl) (ev rfl)) ?_;simp only [aa];refine ah ?_;obtain ⟨bx, hbx⟩ : ∃ bx, wr.heap.size = bx := ⟨_, rfl⟩;rw [hbx] at HBX ⊢;generalize wr.alloc (.cells (cQ (bV x)).toArray 46) = w3 at *;have HH3 := ae (HHr.out.below HB3);have HW3 := ae (HW.out.trans (HB3.out.mono HBS));have HM3 := ae (HM.out.below HB3);have HBXG : Hid (g <= bx) := ae (by rw [<- hbx]; exact HBS);clear hbx;have HPS : Hid (w3.rangeAt bx 0 (gh x.n x.m)) := ae (iX (c := bV x) (aP HBX));cases hp : s.plc x.n x.m
   ·have HP : Hid (decide (0 <= x.n /\ x.n < (s.T : Int) /\ 0 <= x.m /\ x.m < (s.N : Int)) = false) := ae hp;have HZ : Hid (pq = 2) := ae (by
     rw [<- HPQ.out];unfold js;rw [aeY HIC.out (by rw [HXX.out]; exact hp), if_neg (by decide)])
    clear hp;go_upto_region 9 with fail;refine aH 1 ?_;refine ajB (ax rfl ajL rt) ?_;refine ajB (io rfl ajL HPS) ?_;refine aw rfl (aA call51 rfl (evc ajL (evc ajL evn))) ?_;refine (ip x.n x.m HH3).mono ?_;rintro e w4 ⟨rfl, b4⟩;rw [HP.out];have HB4 := ae b4;clear b4;refine aQ ?_;refine aF 1 ?_;go_wp2_with fail;go_ret;exact ⟨by rw [HZ.out]; rfl, by rw [HG.out]; exact HW3.out.trans (HB4.out.mono (aq HBS HB3.out.size))⟩
   have HP : Hid (decide (0 <= x.n /\ x.n < (s.T : Int) /\ 0 <= x.m /\ x.m < (s.N : Int)) = true) := ae hp;have HALN : Hid ((c.take (i + 1)).all (fun x => s.plc x.n x.m) = true) := ae (by rw [acm HIC.out, HAL.out, HXX.out]; exact hp);clear hp;go_upto_region 9 with fail;refine aH 1 ?_;refine ajB (ax rfl ajL rt) ?_;refine ajB (io rfl ajL HPS) ?_;refine aw rfl (aA call51 rfl (evc ajL (evc ajL evn))) ?_;refine (ip x.n x.m HH3).mono ?_;rintro e w4 ⟨rfl, b4⟩;rw [HP.out];have HB4 := ae b4;clear b4;refine aQ ?_;refine aF 1 ?_;have HS34 : Hid (g <= w3.heap.size) := ae (aq HBS HB3.out.size);have HW4 := ae (HW3.out.trans (HB4.out.mono HS34));have HM4 := ae (HM3.out.below HB4);have HPL : Hid (w4.cell? ⟨bx, 0, none⟩ = some (.int .i64 x.n)) := ae (by have := (iU (iX (c := bV x) (aP (aB HBX HB4)))).1; exact this);have HTH : Hid (w4.there g (0 + i * bN.n) 1) := ae (by have := HM4.out.there HI (j := 0) (m := 1) aj; rw [Nat.add_zero] at this; rwa [Nat.zero_add]);have HM5 : Hid (aO bN (w4.setCells g (0 + i * bN.n) (bN.cel x.n)) g (.slice (some ⟨g, 0, none⟩) nc nc) (stz c nc (i + 1))) := ae (by have := HM4.out.store HI x.n; rw [<- HXX.out, aeG HCN.out HI.out, HXX.out] at this; rwa [Nat.zero_add]);have HW5 : Hid (Below g w (w4.setCells g (0 + i * bN.n) (bN.cel x.n))) := ae (below_setCells HW4 aj _);go_upto_region 11 with fail;refine aH 2 ?_;refine ajB (ax rfl ajL rt) ?_;refine ajB (ax rfl ajL oG) ?_;refine ajB (aC rfl ajL (bY HPL)) ?_;refine ajB (cM (E := bN) rfl ajL ajL HI) ?_;refine aG rfl (c7 rfl (ev rfl) (ev rfl) (ahk HTH.out)) ?_;simp only [aa];generalize w4.setCells g (0 + i * bN.n) (bN.cel x.n) = w5 at *;refine ah ?_;go_upto_region 12 with fail;refine af ?_;refine ajB (bL rfl ajL evk HADD) ?_;refine aF 1 ?_;go_wp2_with fail;go_roundw
   case rel => exact ⟨i + 1, by go_num, HI, HALN, HM5, HW5⟩
   case measure => have := HI.out; simp [intOf]; omega
  have hin : i = nc := by omega
  have HT : Hid (decide ((i : Int) < (nc : Int)) = false) := ae (am (by omega));have htk : c.take i = c := List.take_of_length_le (by rw [HCN.out]; omega);rw [htk] at HAL;have HMF : Hid (aO bN wr g (.slice (some ⟨g, 0, none⟩) nc nc) (c.map dh.n)) := ae (by have := HM.out; rwa [hin, ad7 HCN.out] at this);have HSR : Hid (RdE bN wr wr.heap.size (some ⟨g, 0, none⟩) nc (c.map dh.n)) := ae (by have := aO.rd HMF; exact this);have HWF : Hid (∀ x ∈ c.map dh.n, (Lit.int .i64 x).wf = true) := ae fun x hx => by
   obtain ⟨y, hy, rfl⟩ := List.mem_map.1 hx;have hp := List.all_eq_true.1 HAL y hy;obtain ⟨k, j, e1, hk, _, _⟩ := iu hp;rw [e1];exact jD (by have := HOK.out.t64; omega)
  clear hlt hi hin htk;go_upto_region 7 with fail;refine af ?_;refine ajB (aZ false rfl ajL ajL HT) ?_;refine ah ?_;cases hf : s.fits (c.map dh.n)
  ·have HFI := ae hf;have HZ : Hid (pq = 10) := ae (by rw [<- HPQ.out]; unfold js; rw [HAL.out, if_pos rfl, if_neg HQ0.out, hf, if_neg (by decide)]);clear hf;go_upto_region 13 with fail;refine aH 2 ?_;refine aw rfl (aA call52 rfl (evc ajL (evc ajL evn))) ?_;refine (rz (l := c.map dh.n) HHr HOK HSR HWF (by rw [List.length_map]; have := HN0.out; have := HCN.out; omega)).mono ?_;rintro e wB ⟨rfl, b5⟩;rw [HFI.out];have HWB := ae (HW.out.trans (b5.mono HBS));clear b5;refine aQ ?_;refine aF 1 ?_;go_wp2_with fail;go_ret;exact ⟨by rw [HZ.out]; rfl, by rw [HG.out]; exact HWB⟩
  have HFI := ae hf;have HZ : Hid (pq = 0) := ae (by rw [<- HPQ.out]; unfold js; rw [HAL.out, if_pos rfl, if_neg HQ0.out, hf, if_pos rfl]);clear hf;go_upto_region 13 with fail;refine aH 2 ?_;refine aw rfl (aA call52 rfl (evc ajL (evc ajL evn))) ?_;refine (rz (l := c.map dh.n) HHr HOK HSR HWF (by rw [List.length_map]; have := HN0.out; have := HCN.out; omega)).mono ?_;rintro e wB ⟨rfl, b5⟩;rw [HFI.out];have HWB := ae (HW.out.trans (b5.mono HBS));clear b5;refine aQ ?_;refine aF 1 ?_;go_wp2_with fail;go_ret;exact ⟨by rw [HZ.out]; rfl, by rw [HG.out]; exact HWB⟩
end
section
variable {s : ShS} {n Q j k : Nat} {x : dh}
theorem xT (h : s.eY k = true) : k ∈ (s.tch k).o := by rw [uq, if_pos h]; exact List.mem_cons_self ..
theorem ahO (h : bX s) (hk : k < s.T) (hb : s.eY k = true) (hQ : Q < 18446744073709551616) : bX ((s.tch k).dZ k (some (eg (s.cf k) x.m x.b Q))) :=
 (h.tch hk).dZ (xT hb) ((h.line k).1.set _ _ hQ) (by rw [yl, (h.line k).2]; exact (ShS.oW s k).1.symm)
theorem acq (h : bX s) (hk : k < s.T) (hj : x.m = (j : Int)) (hjN : j < s.N) (hQ : Q ≠ 0) : ((s.tch k).dZ k (some (eg (s.cf k) x.m x.b Q))).dty = c8 (s.tch k).dty k true := funext fun i => by
 by_cases e : i = k
 ·subst e;rw [cU];have : ((s.tch i).dZ i (some (eg (s.cf i) x.m x.b Q))).ln i = some (eg (s.cf i) x.m x.b Q) := by rw [cZ, if_pos rfl]
  rw [ji this];exact yz (by rw [hj]; exact iA (by rw [(h.line i).2]; exact hjN)) hQ
 ·rw [bZ _ _ e];exact kW (by rw [cZ, if_neg e])
end
section
variable {w w1 w2 w' : World} {S S1 : Nat -> Prop} {t K : Nat} {s : ShS}
theorem PSh.lt (h : PSh w S t K s) : ∀ b, S b -> b < w.heap.size := by
 obtain ⟨lp, mp, FL, m, r, h1, h2, rfl⟩ := h;exact h1.size
theorem PSh.below (h : PSh w S t K s) (hb : Below w.heap.size w w1) : PSh w1 S t K s := by
 obtain ⟨lp, mp, FL, m, r, h1, h2, e⟩ := h;exact ⟨lp, mp, FL, m, r, h1.below hb, h2, e⟩
theorem PSx.since (hb : Below w.heap.size w w2) (h : PSx w2 S w' t s) : PSx w S w' t s := by
 obtain ⟨lp, mp, FL, m, r, h1, h2⟩ := h;refine ⟨lp, mp, FL, m, r, ⟨h1.u, (Only.of_below S hb).trans h1.on fun b hb => .inl hb, fun b hb' => ?_⟩, h2⟩;rcases h1.gr b hb' with e | e
 ·exact .inl e
 ·exact .inr (aq hb.size e)
theorem PSx.after (o : Only S w w1) (g : Grow w S S1) (h : PSx w1 S1 w' t s) : PSx w S w' t s := by
 obtain ⟨lp, mp, FL, m, r, h1, h2⟩ := h;refine ⟨lp, mp, FL, m, r, ⟨h1.u, o.trans h1.on g, fun b hb' => ?_⟩, h2⟩;rcases h1.gr b hb' with e | e
 ·exact g b e
 ·exact .inr (aq o.size e)
theorem PSx.keep {b : Nat} {o : Obj} (h : PSx w S w' t s) (hb : w.heap[b]? = some o) (hn : ¬ S b) : w'.heap[b]? = some o := Only.keep h.only hb hn
end
theorem ahF {w : World} {S : Nat -> Prop} {t K Q k j : Nat} {s : ShS} {x : dh} (h : PSh w S t K s) (hk : x.n = (k : Int)) (hj : x.m = (j : Int)) (hkT : k < s.T) (hjN : j < s.N) (hQ0 : Q ≠ 0) (hQ : Q < 18446744073709551616) (htb : s.eY k = true) : Calls prog 22 #[.pointer (some ⟨t, 0, none⟩), clV (bV x), .int .u64 (Q : Int)] w fun e w' => e = .returned (.int .i64 0) /\ PSx w S w' t ((s.tch k).dZ k (some (eg (s.cf k) x.m x.b Q))) := by
 have hok := h.x.ok;have hlt := h.lt;have HOK2 : Hid (bX ((s.tch k).dZ k (some (eg (s.cf k) x.m x.b Q)))) := ae (ahO hok hkT htb hQ);have HDT := ae (acq (Q := Q) hok hkT hj hjN hQ0);have HTE : Hid (tcE s k = 0) := ae (by unfold tcE; rw [if_pos htb]);have HKT := ae hkT;have HQ := ae hQ;have HW := ae (jD (n := k) (by have := hok.t64; omega));have HLN := ae (pA htb);have HSE : Hid (qh (s.cf k) x.m Q = 0) := ae (by rw [hj]; exact xY (by rw [(hok.line k).2]; exact hjN) hQ0);have HND : Hid ((s.tch k).o.Nodup) := ae (hok.tch hkT).nd;have HX := ae (And.intro hk hj);have HMM := ae (xT htb);have hb1 := (Below.refl w.heap.size w).alloc aj (.cells (cQ (bV x)).toArray 46);have HB1 := ae hb1;have HC1 := ae (heap_alloc_new w (.cells (cQ (bV x)).toArray 46));have HS := ae h;have HNS : Hid (∀ b, w.heap.size <= b -> ¬ S b) := ae fun b hb hs => by have := hlt b hs; omega
 clear h hok hkT hjN hQ0 hQ htb hk hj hb1 hlt;go_enter func22, ntmps22;go_upto_region 0 with fail;refine af ?_;refine ajB (zq rfl ajL) ?_;refine aF 1 ?_;have HBC : Hid (¬ S w.heap.size) := ae (HNS.out _ aj);obtain ⟨bc, hbc⟩ : ∃ bc, w.heap.size = bc := ⟨_, rfl⟩;have HBCQ : Hid (w.heap.size <= bc) := ae (Nat.le_of_eq hbc);rw [hbc] at HC1 HBC ⊢;generalize w.alloc (.cells (cQ (bV x)).toArray 46) = w1 at *;clear hbc;have HP1 : Hid (w1.rangeAt bc 0 (gh x.n x.m)) := ae (iX (c := bV x) (aP HC1));have hb2 := (Below.refl w1.heap.size w1).alloc aj (.cells (gh x.n x.m).toArray 42);have HB2 := ae (HB1.out.trans (hb2.mono HB1.out.size));have HC2 := ae (aB HC1 hb2);have HP2 := ae (heap_alloc_new w1 (.cells (gh x.n x.m).toArray 42));have HBP : Hid (¬ S w1.heap.size) := ae (HNS.out _ HB1.out.size);clear hb2;go_upto_region 1 with fail;refine af ?_;refine ajB (ax rfl ajL rt) ?_;refine ajB (io rfl ajL HP1) ?_;refine ajB (rG rfl) ?_;refine aG rfl (uJ rfl (ev rfl) (ev rfl)) ?_;simp only [aa];refine ah ?_;obtain ⟨bp, hbp⟩ : ∃ bp, w1.heap.size = bp := ⟨_, rfl⟩;rw [hbp] at HP2 HBP ⊢;generalize w1.alloc (.cells (gh x.n x.m).toArray 42) = w2 at *;have HN2 : Hid (w2.cell? ⟨bp, 0, none⟩ = some (.int .i64 (k : Int))) := ae (by have := (iU (aP HP2)).1; rwa [HX.out.1] at this);have HS2 := ae (HS.out.below HB2).x;clear hbp HP1 HC1;go_upto_region 2 with fail;refine aH 1 ?_;refine ajB (ax rfl ajL oG) ?_;refine ajB (aC rfl ajL (bY HN2)) ?_;refine aw rfl (aA call53 rfl (evc ajL (evc ajL evn))) ?_;refine (ack HS2 HKT).mono ?_;rintro e w3 ⟨rfl, h3⟩;rw [HTE.out];have HC3 := ae (h3.keep HC2 HBC);have HP3 := ae (h3.keep HP2 HBP);obtain ⟨lp, mp, FL, m, r, hs3, hok3⟩ := h3;have hl3 := hs3.u.ln k;rw [HLN.out] at hl3;obtain ⟨a, ha, hla, hlo⟩ := hl3.some_;have HS3 := ae (hs3.below (ak.drew));have HA := ae ha;have HLA : Hid (qj w3.drew (fun j => j = a) a (s.cf k)) := ae ⟨hla, rfl, hlo⟩;have HLK : Hid ((Instr.lookup 53 (.map (some mp)) (.int .i64 (k : Int)) false).run prog w3.drew = .ok (.pointer (some ⟨a, 0, none⟩)) w3.drew) := ae (by
  have := HS3.out.u.map.m9 HW;rwa [show mLn m (k : Int) = some a from by unfold mLn; rw [if_pos (by omega), Int.toNat_natCast, ha]] at this)
 have HN3 : Hid (w3.cell? ⟨bp, 0, none⟩ = some (.int .i64 (k : Int)) /\ w3.cell? ⟨bp, 0 + 1, none⟩ = some (.int .i64 x.m)) := ae (by have := iU (aP HP3); rw [HX.out.1] at this; exact this);have HBL : Hid (w3.rangeAt bc (0 + 2) (cel x.b)) := ae (abI (c := bV x) (aP HC3));clear hs3 hok3 hl3 ha hla hlo;refine aQ ?_;refine aF 1 ?_;go_upto_region 3 with fail;refine aH 1 ?_;refine ajB (aJ false rfl ajL evk rfl) ?_;refine ah ?_;go_upto_region 5 with fail;refine wp_region_still_tail 12 (by kernel_rfl) (by kernel_rfl) ?_;simp only [ac];refine aN rfl (aL rfl ajL) ?_;simp only [aa];refine aN rfl (bj rfl ajL) ?_;simp only [aa];refine aN rfl (ax rfl ajL iZ) ?_;simp only [aa];refine aN rfl (aC rfl ajL (mh (PRu.c4 HS3.out.u))) ?_;simp only [aa];refine aN rfl (ax rfl ajL oG) ?_;simp only [aa];refine aN rfl (aC rfl ajL (bY HN3.out.1)) ?_;simp only [aa];refine aN rfl (dl rfl ajL ajL HLK) ?_;simp only [aa];refine aN rfl (ax rfl ajL afJ) ?_;simp only [aa];refine aN rfl (aC rfl ajL (bY HN3.out.2)) ?_;simp only [aa];refine aN rfl (ax rfl ajL air) ?_;simp only [aa];refine aN rfl (bJ rfl ajL HBL) ?_;simp only [aa];refine aN rfl (aL rfl ajL) ?_;simp only [aa];refine wpStill_nil ?_;change wpList _ _ _ _ _ (World.drew _);refine aw rfl (aA call54 rfl (evc ajL (evc ajL (evc ajL (evc ajL evn))))) ?_;refine (aeH w3.drew x.m x.b Q HLA HQ).mono ?_;rintro e w4 ⟨rfl, l4, t4⟩;rw [HSE.out];have HS4 := ae (HS3.out.line HA t4 l4);have HP4 := ae (Only.keep HS4.out.on HP2 HBP);have HN4 : Hid (w4.cell? ⟨bp, 0, none⟩ = some (.int .i64 (k : Int))) := ae (by have := (iU (aP HP4)).1; rwa [HX.out.1] at this);clear l4 t4;refine aQ ?_;refine aF 1 ?_;go_upto_region 6 with fail;refine aH 1 ?_;refine ajB (aJ false rfl ajL evk rfl) ?_;refine ah ?_;have HS4d := ae (HS4.out.below (ak.drew));have HL4 : Hid (PLF w4.drew (fun b => FL b \/ w4.drew.heap.size <= b) lp (s.tch k).room (kyL (s.tch k).dty (s.tch k).o)) := ae (HS4d.out.u.li.mono fun b h1 _ => .inl h1);go_upto_region 8 with fail;refine wp_region_still_tail 6 (by kernel_rfl) (by kernel_rfl) ?_;simp only [ac];refine aN rfl (aL rfl ajL) ?_;simp only [aa];refine aN rfl (bj rfl ajL) ?_;simp only [aa];refine aN rfl (ax rfl ajL kO) ?_;simp only [aa];refine aN rfl (aC rfl ajL (pZ (PRu.c3 HS4d.out.u))) ?_;simp only [aa];refine aN rfl (ax rfl ajL oG) ?_;simp only [aa];refine aN rfl (aC rfl ajL (bY HN4)) ?_;simp only [aa];refine wpStill_nil ?_;change wpList _ _ _ _ _ (World.drew _);refine aw rfl (aA call55 rfl (evc ajL (evc ajL (evc evk evn)))) ?_;refine (xA w4.drew HL4 HW true).mono ?_;rintro e w5 ⟨rfl, l5, t5⟩;rw [yx HND.out] at l5;obtain ⟨FL5, hs5⟩ := HS4d.out.list rfl l5 t5;rw [<- HDT.out] at hs5;have HF : Hid (wK (k : Int) (kyL (s.tch k).dty (s.tch k).o) = 0) := ae (if_pos (dj.2 HMM));rw [HF.out];have HS5 : Hid (PSx w2 S w5 t ((s.tch k).dZ k (some (eg (s.cf k) x.m x.b Q)))) := ae ⟨lp, mp, FL5, m, r, hs5, HOK2⟩;clear l5 t5 hs5;refine aQ ?_;refine aF 1 ?_;go_wp2_with fail;go_ret;exact ⟨rfl, HS5.out.since HB2⟩
section
variable {s : ShS} {q j k i : Nat} {x p : dh} {c : List dh} {y : LnS} {m : Int} {b : Blk}
def tX (s : ShS) (x : dh) : Bool := (cW (s.cf x.n.toNat) x.m.toNat).dt
theorem tN (s : ShS) (k : Nat) (y : LnS) (j : Nat) : (s.dZ k (some y)).cf j = if j = k then y else s.cf j := by
 by_cases e : j = k
 ·subst e; rw [if_pos rfl]; exact eu (by rw [cZ, if_pos rfl])
 ·rw [if_neg e]; unfold ShS.cf; rw [cZ, if_neg e]; rfl
theorem xS (h : bX s) (hd : s.dty j = true) (n : Nat) : (s.tch n).cf j = s.cf j := by
 unfold ShS.cf;rw [h.oy hd, (s.oW n).1]
theorem jR (h : bX s) (hp : s.plc x.n x.m = true) (hd : tX s x = true) : s.dty x.n.toNat = true := by
 obtain ⟨k, i, e1, hk, e2, hi⟩ := iu hp;rw [<- pM];refine oX (k := x.m.toNat) hd ?_;rw [(h.line _).2];omega
theorem aaM (hr : lnR y m = true) (hq : q ≠ 0) (h : j = m.toNat \/ (cW y j).dt = true) : (cW (eg y m b q) j).dt = true := by
 obtain ⟨k, e, hk⟩ := kx hr;rw [e, pQ hk hq];unfold cW;rw [jh _ _ _ _ _ hk]
 split
 ·rfl
 ·rename_i hne
  rcases h with h | h
  ·exact absurd (by rw [h, e]; simp) hne
  ·exact h
theorem acY (h : bX s) (hq : js s q c = 0) (hqb : q < 18446744073709551616) : ∀ i, i <= c.length -> ∀ x ∈ c.take i, tX ((c.take i).foldl (dE q) s) x = true
 |0, _ => fun x hx => by rw [List.take_zero] at hx; cases hx
 |i + 1, hi => fun x hx => by
  obtain ⟨h1, h2, h3⟩ := nJ hq;have hi' : i < c.length := by omega
  have ih := acY h hq hqb i (by omega);have pf := gJ h hq hqb i (by omega);have hpm : c.getD i cT ∈ c := by rw [List.getD, List.getElem?_eq_getElem hi']; exact List.getElem_mem hi'
  obtain ⟨ht, hto, hr, _⟩ := pf.step (p := c.getD i cT) h3 (h1 _ hpm) ((jN _ _).2 (.inr (List.mem_map.2 ⟨_, hpm, rfl⟩))) h2 hqb;rw [eH _ _ (d := cT) hi'];rw [show c.take (i + 1) = c.take i ++ [c.getD i cT] from by rw [List.take_add_one, List.getD, List.getElem?_eq_getElem hi']; rfl] at hx;generalize c.getD i cT = p at *;generalize (c.take i).foldl (dE q) s = s1 at *;unfold tX dE;rw [tN];rcases List.mem_append.1 hx with hx | hx
  ·have hxm : x ∈ c := List.mem_of_mem_take hx;have hd := ih x hx;have hdy := jR pf.ok (by rw [pf.plc]; exact h1 x hxm) hd
   split
   ·rename_i e
    refine aaM hr h2 (.inr ?_);rw [<- e, xS pf.ok hdy];exact hd
   ·rw [xS pf.ok hdy];exact hd
  ·have : x = p := by simpa using hx
   subst this;rw [if_pos rfl];exact aaM hr h2 (.inl rfl)
theorem ahE {N : Nat} (h : (cW y j).dt = true) (hj : (j : Int) ≠ m) (hy : dO y) : (cW (fN y m) j).dt = true := by
 unfold fN
 split
 ·rename_i hr
  obtain ⟨k, e, hk⟩ := kx hr;unfold cW;rw [e, Int.toNat_natCast, jh _ _ _ _ _ hk, if_neg (fun e2 => hj (by rw [e, e2]))];exact h
 ·exact h
theorem aaF {N : Nat} (hx : x ∈ c) (h : rM N c x.n = false) : x.m ≠ ((N - 1 - x.n.toNat % N : Nat) : Int) := fun e => by
 have : rM N c x.n = true := List.any_eq_true.2 ⟨x, hx, by rw [ao rfl, ao e]; rfl⟩;rw [h] at this;cases this
theorem aa5 {s2 : ShS} (h : bX s2) (hp : ∀ x ∈ c, s2.plc x.n x.m = true) (hd : ∀ x ∈ c, tX s2 x = true) : ∀ i, i <= c.length ->
  (∀ x ∈ c, rM s2.N c x.n = false -> tX ((c.take i).foldl (cE c) s2) x = true) /\ ∀ j, ((c.take i).foldl (cE c) s2).dty j = s2.dty j
 |0, _ => ⟨fun x hx _ => by rw [List.take_zero]; exact hd x hx, fun j => by rw [List.take_zero]; rfl⟩
 |i + 1, hi => by
  have hi' : i < c.length := by omega
  obtain ⟨ih1, ih2⟩ := aa5 h hp hd i (by omega);have hs : ∀ x ∈ c, (s2.ln x.n.toNat).isSome = true := fun x hx => eL (jR h (hp x hx) (hd x hx))
  have fi := iY h c hs i (by omega);have fi1 := iY h c hs (i + 1) hi;have hpm : c.getD i cT ∈ c := by rw [List.getD, List.getElem?_eq_getElem hi']; exact List.getElem_mem hi'
  rw [eH _ _ (d := cT) hi'] at fi1 ⊢;generalize c.getD i cT = p at *;generalize (c.take i).foldl (cE c) s2 = s1 at *;have hplc : ∀ x ∈ c, s1.plc x.n x.m = true := fun x hx => by unfold ShS.plc; rw [fi.N, fi.T]; exact hp x hx
  by_cases hq : rM s1.N c p.n = true
  ·have e : cE c s1 p = s1 := by unfold cE; rw [if_pos hq]
   rw [e];exact ⟨ih1, ih2⟩
  ·have hqf : rM s2.N c p.n = false := by rw [fi.N] at hq; simpa using hq
   have e : cE c s1 p = s1.dZ p.n.toNat (some (fN (s1.cf p.n.toNat) ((s1.N - 1 - p.n.toNat % s1.N : Nat) : Int))) := by unfold cE; rw [if_neg hq]
   rw [e] at fi1 ⊢;have hdt : ∀ x ∈ c, rM s2.N c x.n = false -> tX (s1.dZ p.n.toNat (some (fN (s1.cf p.n.toNat) ((s1.N - 1 - p.n.toNat % s1.N : Nat) : Int)))) x = true := fun x hx hxq => by
    have hx1 := ih1 x hx hxq;unfold tX at hx1 ⊢;rw [tN]
    split
    ·rename_i en
     rw [en] at hx1;refine ahE (N := s1.N) hx1 ?_ (fi.ok.line _).1;have := aaF hx hxq;obtain ⟨_, mi, _, _, em, _⟩ := iu (hp x hx);rw [<- en, fi.N];omega
    ·exact hx1
   refine ⟨hdt, fun j => ?_⟩;rw [<- ih2];by_cases ej : j = p.n.toNat
   ·subst ej;rw [jR fi1.ok (by have := hplc p hpm; unfold ShS.plc at this ⊢; exact this) (hdt p hpm hqf), jR fi.ok (hplc p hpm) (ih1 p hpm hqf)]
   ·exact kW (by rw [cZ, if_neg ej])
end
def hbC (f : Nat -> Bool) : List Value := (List.range 64).map fun j => .bool (f j)
theorem sC (f : Nat -> Bool) : (hbC f).length = 64 := by simp [hbC]
theorem v7 (f : Nat -> Bool) {j : Nat} (h : j < 64) : (hbC f)[j]? = some (.bool (f j)) := by
 simp only [hbC, List.getElem?_map, List.getElem?_range h, Option.map_some]
theorem aeQ (f : Nat -> Bool) (k : Nat) (b : Bool) : (hbC f).set k (.bool b) = hbC (c8 f k b) := by
 apply List.ext_getElem?;intro j;by_cases hj : j < 64
 ·rw [v7 _ hj];by_cases e : k = j
  ·subst e; rw [List.getElem?_set_self (by rw [sC]; exact hj), cU]
  ·rw [List.getElem?_set_ne e, v7 _ hj, bZ _ _ fun e2 => e e2.symm]
 ·rw [List.getElem?_eq_none (by rw [List.length_set, sC]; omega), List.getElem?_eq_none (by rw [sC]; omega)]
def gK (w : World) (b : Nat) (f : Nat -> Bool) : Prop := w.heap[b]? = some (.cells (hbC f).toArray 118 (0, 0))
section
variable {w w' : World} {b k : Nat} {f : Nat -> Bool}
theorem gK.at_ (h : gK w b f) (hk : k < 64) : w.cell? ⟨b, k, none⟩ = some (.bool (f k)) := by
 have := (aP h) k _ (v7 f hk);rwa [Nat.zero_add] at this
theorem gK.fz (h : gK w b f) (j : Nat) : w.frozen? ⟨b, j, none⟩ = false := frozen_of_row w b j _ _ h
theorem gK.set (h : gK w b f) (k : Nat) : gK (w.setCell ⟨b, k, none⟩ (.bool true)) b (c8 f k true) := by
 have := heap_setCell_same w b k _ _ (.bool true) h;unfold gK;rw [this, <- aeQ];simp
theorem abw : (prog.info? 118).map (fun i => i.zero) = some (some (.agg (hbC fun _ => false).toArray)) := by kernel_rfl
theorem gK.below (h : gK w b f) (hb : Below w.heap.size w w') : gK w' b f := aB h hb
theorem aiC {off : Nat} (hk : k < 64) : (Instr.indexAt 118 (.pointer (some ⟨b, 0, none⟩)) (.int .i64 (k : Int))).run prog w = .ok (.pointer (some ⟨b, k, none⟩)) w := by
 have e : (0 <= (k : Int) /\ (k : Int) < 64) := by omega
 simp [Instr.indexAt, Instr.sureAddr, asIntOf, run_underlying underlying118, Tryz.sizeOf4, Addr.add_mid, e, hk]
end
theorem kV {ρ : Operand -> Value} {o : Oper} {x y : Operand} {w : World} {b k : Nat} (hk : k < 64) (ho : o.op = .indexAddr 118 x y) (hx : ρ x = .pointer (some ⟨b, 0, none⟩)) (hy : ρ y = .int .i64 (k : Int)) : (execOp ρ o).run prog w = .ok (.value (.pointer (some ⟨b, k, none⟩))) w := by
 unfold execOp;simp only [ho, hx, hy, Sem.run_bind, aiC (off := 0) hk, Result.andThen_ok, Sem.run_pure]
def hbF (N : Nat) (l : List Cl) (j : Nat) : Bool := l.any (km N j)
theorem abu {N : Nat} {l : List Cl} {i k : Nat} {x : Cl} (hi : i < l.length) (hx : l.getD i iV = x) (hk : x.s = (k : Int)) : hbF N (l.take (i + 1)) = if x.m = ((N - 1 - k % N : Nat) : Int) then c8 (hbF N (l.take i)) k true else hbF N (l.take i) := by
 subst hx;have e : ∀ j, hbF N (l.take (i + 1)) j = (hbF N (l.take i) j || km N j (l.getD i iV)) := fun j => by
  unfold hbF;rw [List.take_add_one, List.getElem?_eq_getElem hi, List.getD, List.getElem?_eq_getElem hi, List.any_append];simp
 funext j
 rw [e];by_cases ej : j = k
 ·subst ej
  split
  ·rename_i hm
   rw [cU];have : km N j (l.getD i iV) = true := by unfold km pPl; rw [ao hk, ao hm]; rfl
   rw [this, Bool.or_true]
  ·rename_i hm
   have : km N j (l.getD i iV) = false := by unfold km pPl; rw [am hm, Bool.and_false]
   rw [this, Bool.or_false]
 ·have : km N j (l.getD i iV) = false := by unfold km; rw [am (by omega), Bool.false_and]
  rw [this, Bool.or_false]
  split
  ·rw [bZ _ _ ej]
  ·rfl
theorem zY {w : World} {S : Nat -> Prop} {t K nc cc : Nat} {A : Option Addr} {c : List dh} {s : ShS} (h : PSh w S t K s) (hn0 : nc <= 1000000) (hc : RdE dw w w.heap.size A nc (c.map bV)) (hcn : c.length = nc) (hA : ∀ x, A = some x -> 0 < nc -> ¬ S x.block) (hp : ∀ x ∈ c, s.plc x.n x.m = true) (hd : ∀ x ∈ c, tX s x = true) : Calls prog 23 #[.pointer (some ⟨t, 0, none⟩), .slice A nc cc] w fun e w' => e = .returned (.tuple #[]) /\ PSx w S w' t (c.foldl (cE c) s) := by
 have hok := h.x.ok;have hlt0 := h.lt;have HT64 : Hid (s.T <= 64) := ae hok.t64;have HPC := ae hp;have HN0 := ae hn0;have HC := ae hc;have HCN := ae hcn;have HA := ae hA;have HOK := ae hok;have HSM : Hid (∀ x ∈ c, (s.ln x.n.toNat).isSome = true) := ae fun x hx => eL (jR hok (hp x hx) (hd x hx))
 have HFD := ae (aa5 hok hp hd);have HLC : Hid ((c.map bV).length = c.length) := ae (List.length_map _);have hb1 := (Below.refl w.heap.size w).alloc aj (.cells (hbC fun _ => false).toArray 118);have HB1 := ae hb1;have HH1 : Hid (gK (w.alloc (.cells (hbC fun _ => false).toArray 118)) w.heap.size (fun _ => false)) := ae (heap_alloc_new w _);have HS := ae h;have HNS : Hid (∀ b, w.heap.size <= b -> ¬ S b) := ae fun b hb hs => by have := hlt0 b hs; omega
 clear h hok hn0 hc hcn hA hp hd hb1 hlt0;go_enter func23, ntmps23;go_upto_region 0 with fail;refine af ?_;refine ajB (c9 abw rfl) ?_;refine ah ?_;have HBH : Hid (¬ S w.heap.size) := ae (HNS.out _ aj);obtain ⟨bh, hbh⟩ : ∃ bh, w.heap.size = bh := ⟨_, rfl⟩;have HBHQ := ae hbh;rw [hbh] at HH1 HBH ⊢;generalize w.alloc (.cells (hbC fun _ => false).toArray 118) = w1 at *;clear hbh;go_upto_region 1 with fail;refine aH 1 ?_;refine ajB (et dw rfl ajL) ?_;refine aF 1 ?_;go_wp2_with fail
 go_loopw [6, 12] (fun _ y wr => ∃ i : Nat, y = .int .i64 i /\ i <= nc /\ gK wr bh (hbF s.N ((c.map bV).take i)) /\ Below bh w wr) (fun _ y _ => nc - (intOf y).toNat)
 case atStart => exact ⟨0, by go_num, Nat.zero_le _, by rw [List.take_zero]; exact HH1, by have := HB1.out; rwa [HBHQ.out] at this⟩
 case round =>
  obtain ⟨i, rfl, hi, hh, hb⟩ := hrel;have HHr := ae hh;have HW := ae hb;have hb' : Below w.heap.size w wr := by rw [HBHQ.out]; exact hb
  have HCr := ae (HC.out.step hb');have HSr := ae (HS.out.below hb');have HBS : Hid (bh <= wr.heap.size) := ae (by have := hb'.size; rw [HBHQ.out] at this; exact this);clear hh hb hb';by_cases hlt : i < nc
  ·have HI := ae hlt;have HIC : Hid (i < c.length) := ae (by rw [HCN.out]; exact hlt);have HT : Hid (decide ((i : Int) < (nc : Int)) = true) := ae (ao (by omega));have HADD : Hid (IntKind.i64.wrap ((i : Int) + 1) = ((i + 1 : Nat) : Int)) := ae (by have := HN0.out; rw [eW ⟨by omega, by omega⟩]; omega);obtain ⟨b, off, rfl, hbb, hcell⟩ := HCr.out.cl hlt;obtain ⟨x, hx⟩ : ∃ x, c.getD i cT = x := ⟨_, rfl⟩;rw [lz HIC.out, hx] at hcell;have HCL : Hid (wr.rangeAt b (off + i * dw.n) (cQ (bV x))) := ae hcell;have HXX := ae hx;obtain ⟨k, j, e1, hkT, e2, hjN⟩ := iu (HPC.out x (by rw [<- hx, List.getD, List.getElem?_eq_getElem HIC.out]; exact List.getElem_mem HIC));have HE1 := ae e1;have HKT := ae hkT;have HK64 : Hid (k < 64) := ae (by have := HT64.out; omega);have HB3 : Hid (Below wr.heap.size wr (wr.alloc (.cells (cQ (bV x)).toArray 46))) := ae (ak.alloc aj _);have HBX := ae (heap_alloc_new wr (.cells (cQ (bV x)).toArray 46));have HSNO : Hid (hbF s.N ((c.map bV).take (i + 1)) = if x.m = ((s.N - 1 - k % s.N : Nat) : Int) then c8 (hbF s.N ((c.map bV).take i)) k true else hbF s.N ((c.map bV).take i)) := ae (abu (x := bV x) (by rw [HLC.out]; exact HIC) (by rw [lz HIC.out, hx]) e1);clear hi hlt hcell hx hbb e1 hkT e2 hjN;go_upto_region 2 with fail;refine af ?_;refine ajB (aZ true rfl ajL ajL HT) ?_;refine ah ?_;go_upto_region 3 with fail;refine af ?_;refine ajB (cM (E := dw) rfl ajL ajL HI) ?_;refine ajB (fT rfl ajL HCL) ?_;refine ajB (gd rfl) ?_;refine aG rfl (gY rfl (ev rfl) (ev rfl)) ?_;simp only [aa];refine ah ?_;obtain ⟨bx, hbx⟩ : ∃ bx, wr.heap.size = bx := ⟨_, rfl⟩;rw [hbx] at HBX ⊢;generalize wr.alloc (.cells (cQ (bV x)).toArray 46) = w3 at *;have HS3 := ae (HSr.out.below HB3);have HH3 := ae (HHr.out.below HB3);have HW3 := ae (HW.out.trans (HB3.out.mono HBS));have HS3B : Hid (bh <= w3.heap.size) := ae (aq HBS HB3.out.size);clear hbx;have HPS : Hid (∀ {w' : World}, Below w3.heap.size w3 w' -> w'.cell? ⟨bx, 0, none⟩ = some (.int .i64 (k : Int)) /\ w'.cell? ⟨bx, 0 + 1, none⟩ = some (.int .i64 x.m)) := ae fun hw => by
    have := iU (iX (c := bV x) (aP (aB HBX hw)));rw [<- HE1.out];exact this
   obtain ⟨lp, mp, FL, m, r, hs3, hok3, _⟩ := HS3.out;have HU3 := ae hs3;clear hs3 hok3;go_upto_region 4 with fail;refine aR (B := w3.heap.size) (by kernel_rfl) ?_;refine ajJ (fun _ hw => ax rfl ajL rt) ?_;refine ajJ (fun _ hw => ax rfl ajL afJ) ?_;refine ajJ (fun _ hw => aC rfl ajL (bY (HPS.out hw).2)) ?_;refine cy 1 ?_;refine ajJ (fun _ hw => ax rfl ajL rt) ?_;refine ajJ (fun _ hw => ax rfl ajL oG) ?_;refine ajJ (fun _ hw => aC rfl ajL (bY (HPS.out hw).1)) ?_;refine bO rfl (fun _ => aA call56 rfl (evc ajL (evc ajL evn))) (bw aj fun _ hw => qw HKT (HU3.out.below hw)) ?_;simp only [aa];by_cases hm : x.m = ((s.N - 1 - k % s.N : Nat) : Int)
   ·have HM : Hid ((x.m == ((s.N - 1 - k % s.N : Nat) : Int)) = true) := ae (by rw [hm]; exact beq_self_eq_true _);have HST : Hid (hbF s.N ((c.map bV).take (i + 1)) = c8 (hbF s.N ((c.map bV).take i)) k true) := ae (by rw [HSNO.out, if_pos hm]);clear hm;refine ajJ (fun _ hw => aE true rfl ajL ajL HM) ?_;refine wpQuiet_nil ?_;intro w4 hw;have HH4 := ae (HH3.out.below hw);have HW4 := ae (HW3.out.trans (hw.mono HS3B));have HPS4 : Hid (w4.cell? ⟨bx, 0, none⟩ = some (.int .i64 (k : Int))) := ae (HPS.out hw).1;clear hw;have HH5 := ae (HH4.out.set k);have HW5 : Hid (Below bh w (w4.setCell ⟨bh, k, none⟩ (.bool true))) := ae (below_setCells HW4 aj (o := k) [.bool true]);go_upto_region 5 with fail;refine af ?_;refine ajB (ax rfl ajL rt) ?_;refine ajB (ax rfl ajL oG) ?_;refine ajB (aC rfl ajL (bY HPS4)) ?_;refine ajB (kV HK64 rfl ajL ajL) ?_;refine aG rfl (c7 rfl (ev rfl) evk (aiu (HH4.out.at_ HK64.out) (HH4.out.fz k))) ?_;simp only [aa];generalize w4.setCell ⟨bh, k, none⟩ (.bool true) = w5 at *;refine ah ?_;go_upto_region 6 with fail;refine af ?_;refine ajB (bL rfl ajL evk HADD) ?_;refine aF 1 ?_;go_wp2_with fail;go_roundw
    case rel => exact ⟨i + 1, by go_num, HI, by rw [HST.out]; exact HH5, HW5⟩
    case measure => have := HI.out; simp [intOf]; omega
   have HM : Hid ((x.m == ((s.N - 1 - k % s.N : Nat) : Int)) = false) := ae (au hm);have HST : Hid (hbF s.N ((c.map bV).take (i + 1)) = hbF s.N ((c.map bV).take i)) := ae (by rw [HSNO.out, if_neg hm]);clear hm;refine ajJ (fun _ hw => aE false rfl ajL ajL HM) ?_;refine wpQuiet_nil ?_;intro w4 hw;have HH4 := ae (HH3.out.below hw);have HW4 := ae (HW3.out.trans (hw.mono HS3B));clear hw;go_upto_region 6 with fail;refine af ?_;refine ajB (bL rfl ajL evk HADD) ?_;refine aF 1 ?_;go_wp2_with fail;go_roundw
   case rel => exact ⟨i + 1, by go_num, HI, by rw [HST.out]; exact HH4, HW4⟩
   case measure => have := HI.out; simp [intOf]; omega
  have hin : i = nc := by omega
  have HT : Hid (decide ((i : Int) < (nc : Int)) = false) := ae (am (by omega));have HHB : Hid (gK wr bh (hbF s.N (c.map bV))) := ae (by have := HHr.out; rwa [hin, List.take_of_length_le (by rw [HLC.out, HCN.out]; omega)] at this);clear hlt hi hin;go_upto_region 2 with fail;refine af ?_;refine ajB (aZ false rfl ajL ajL HT) ?_;refine ah ?_;go_upto_region 7 with fail;refine aH 1 ?_;refine ajB (et dw rfl ajL) ?_;refine aF 1 ?_;have HWB : Hid (Below w.heap.size w wr) := ae (by rw [HBHQ.out]; exact HW);have HCB := HCr;have HSB := HSr;clear HCr HSr HW HBS
  rename World => wB
  go_wp2_with fail
  go_loopw [8, 9, 32] (fun _ _ y wr => ∃ i : Nat, y = .int .i64 i /\ i <= nc /\ PSx wB S wr t ((c.take i).foldl (cE c) s)) (fun _ _ y _ => nc - (intOf y).toNat)
  case atStart => exact ⟨0, by go_num, Nat.zero_le _, HSB.out.x⟩
  case round =>
   obtain ⟨i, rfl, hi, hs⟩ := hrel;have HSr := ae hs;have HCr := ae (HCB.out.only hs.only aj HA);have HHr : Hid (gK wr bh (hbF s.N (c.map bV))) := ae (hs.keep HHB HBH);clear hs;by_cases hlt : i < nc
   ·have HI := ae hlt;have HIC : Hid (i < c.length) := ae (by rw [HCN.out]; exact hlt);have HT : Hid (decide ((i : Int) < (nc : Int)) = true) := ae (ao (by omega));have HADD : Hid (IntKind.i64.wrap ((i : Int) + 1) = ((i + 1 : Nat) : Int)) := ae (by have := HN0.out; rw [eW ⟨by omega, by omega⟩]; omega);obtain ⟨b, off, rfl, hbb, hcell⟩ := HCr.out.cl hlt;obtain ⟨x, hx⟩ : ∃ x, c.getD i cT = x := ⟨_, rfl⟩;rw [lz HIC.out, hx] at hcell;have HCL : Hid (wr.rangeAt b (off + i * dw.n) (cQ (bV x))) := ae hcell;have HXX := ae hx;obtain ⟨k, j, e1, hkT, e2, hjN⟩ := iu (HPC.out x (by rw [<- hx, List.getD, List.getElem?_eq_getElem HIC.out]; exact List.getElem_mem HIC));have HE1 := ae e1;have HKT := ae hkT;have HK64 : Hid (k < 64) := ae (by have := HT64.out; omega);have HB3 : Hid (Below wr.heap.size wr (wr.alloc (.cells (cQ (bV x)).toArray 46))) := ae (ak.alloc aj _);have HBX := ae (heap_alloc_new wr (.cells (cQ (bV x)).toArray 46));have HFA := ae (aaT HOK HSM HIC (by rw [hx]; exact e1));have HFD1 : Hid (∀ j, ((c.take (i + 1)).foldl (cE c) s).dty j = ((c.take i).foldl (cE c) s).dty j) := ae fun j => by rw [(HFD.out (i + 1) HIC.out).2, (HFD.out i (Nat.le_of_lt HIC.out)).2]
    have HWF := ae (jD HK64);clear hi hlt hcell hx hbb e1 hkT e2 hjN;go_upto_region 8 with fail;refine af ?_;refine ajB (aZ true rfl ajL ajL HT) ?_;refine ah ?_;go_upto_region 9 with fail;refine af ?_;refine ajB (cM (E := dw) rfl ajL ajL HI) ?_;refine ajB (fT rfl ajL HCL) ?_;refine ajB (gd rfl) ?_;refine aG rfl (gY rfl (ev rfl) (ev rfl)) ?_;simp only [aa];refine ah ?_;obtain ⟨bx, hbx⟩ : ∃ bx, wr.heap.size = bx := ⟨_, rfl⟩;rw [hbx] at HBX ⊢;generalize wr.alloc (.cells (cQ (bV x)).toArray 46) = w3 at *;have HS3 := ae (HSr.out.below HB3);have HH3 := ae (HHr.out.below HB3);clear hbx;have HPS : Hid (w3.cell? ⟨bx, 0, none⟩ = some (.int .i64 (k : Int))) := ae (by
     have := (iU (iX (c := bV x) (aP HBX))).1;rw [<- HE1.out];exact this)
    go_upto_region 10 with fail;refine af ?_;refine ajB (ax rfl ajL rt) ?_;refine ajB (ax rfl ajL oG) ?_;refine ajB (aC rfl ajL (bY HPS)) ?_;refine aF 1 ?_;have HFN := ae HFA.out.N;cases hfl : hbF s.N (c.map bV) k;rotate_left
    ·have HFL := ae hfl;have HNX : Hid ((c.take (i + 1)).foldl (cE c) s = (c.take i).foldl (cE c) s) := ae (HFA.out.yes (by rw [HFN.out]; exact hfl));clear hfl;go_upto_region 11 with fail;refine aH 1 ?_;refine ajB (kV HK64 rfl ajL ajL) ?_;refine ajB (aC rfl ajL (sO (by rw [HH3.out.at_ HK64.out, HFL.out]))) ?_;refine aF 1 ?_;go_upto_region 13 with fail;refine af ?_;refine ajB (bL rfl ajL evk HADD) ?_;refine aF 1 ?_;go_wp2_with fail;go_roundw
     case rel => exact ⟨i + 1, by go_num, HI, by rw [HNX.out]; exact HS3⟩
     case measure => have := HI.out; simp [intOf]; omega
    have HFL := ae hfl;have HNX : Hid ((c.take (i + 1)).foldl (cE c) s = ((c.take i).foldl (cE c) s).dZ k (some (fN (((c.take i).foldl (cE c) s).cf k) ((s.N - 1 - k % s.N : Nat) : Int)))) := ae (by rw [HFA.out.no (by rw [HFN.out]; exact hfl), HFN.out]; rfl);have HNOK := ae HFA.out.nok;have HLN := ae HFA.out.ln;have HKT1 : Hid (k < ((c.take i).foldl (cE c) s).T) := ae (by rw [HFA.out.T]; exact HKT);clear hfl;generalize (c.take i).foldl (cE c) s = s1 at *;generalize hs2q : (c.take (i + 1)).foldl (cE c) s = s2 at *;have HS2Q := ae hs2q;clear hs2q;obtain ⟨lp, mp, FL, m, r, hs3, hok3⟩ := HS3.out;have hl3 := hs3.u.ln k;rw [HLN.out] at hl3;obtain ⟨a, ha, hla, hlo⟩ := hl3.some_;have HA3 := ae ha;have HU3 := ae hs3;have HLA : Hid (LnA w3 a (lf (s1.cf k)) /\ dO (s1.cf k)) := ae ⟨hla, hlo⟩;have HLK : ∀ {w' : World}, dB w' mp s1.o.length (mLn m) -> (Instr.lookup 53 (.map (some mp)) (.int .i64 (k : Int)) false).run prog w' = .ok (.pointer (some ⟨a, 0, none⟩)) w' := fun hm => by
     have := hm.m9 HWF;rwa [show mLn m (k : Int) = some a from by unfold mLn; rw [if_pos (by omega), Int.toNat_natCast, HA3.out]] at this
    have HSD : Hid (w3.drew.cell? ⟨t, 4, none⟩ = some (.map (some mp)) /\ (Instr.lookup 53 (.map (some mp)) (.int .i64 (k : Int)) false).run prog w3.drew = .ok (.pointer (some ⟨a, 0, none⟩)) w3.drew) := ae ⟨hs3.u.c4, HLK (hs3.below (ak.drew)).u.map⟩;clear hok3 hl3 ha hla hlo;go_upto_region 11 with fail;refine aH 1 ?_;refine ajB (kV HK64 rfl ajL ajL) ?_;refine ajB (aC rfl ajL (sO (by rw [HH3.out.at_ HK64.out, HFL.out]))) ?_;refine aF 1 ?_;go_upto_region 12 with fail;refine wp_region_held (S := fun w' => w'.cell? ⟨t, 4, none⟩ = some (.map (some mp)) /\ (Instr.lookup 53 (.map (some mp)) (.int .i64 (k : Int)) false).run prog w' = .ok (.pointer (some ⟨a, 0, none⟩)) w') (by kernel_rfl) ?_;change wpAnyH _ _ _ _ _ 10 _ _ w3.drew;refine ajY 0 rfl HSD ?_;refine aj0 1 rfl HSD ?_;refine ajE 2 rfl (fun _ hw => ax rfl ajL iZ) HSD ?_;refine ajE 3 rfl (fun _ hw => aC rfl ajL (mh hw.1)) HSD ?_;refine ajY 4 rfl HSD ?_;refine ajE 5 rfl (fun _ hw => dl rfl ajL ajL hw.2) HSD ?_;refine ajY 6 rfl HSD ?_;refine ajY 7 rfl HSD ?_;refine eN 8 rfl (by kernel_rfl) rfl (aA call56 rfl (evc ajL (evc ajL evn))) ?_;refine (qw HKT1 (hs3.below (ak.drew)).u).mono ?_;rintro e wA ⟨rfl, bA⟩;have bA' := ((Below.refl w3.heap.size w3).drew).trans bA;have hsA := hs3.below bA';have HSA : Hid (wA.cell? ⟨t, 4, none⟩ = some (.map (some mp)) /\ (Instr.lookup 53 (.map (some mp)) (.int .i64 (k : Int)) false).run prog wA = .ok (.pointer (some ⟨a, 0, none⟩)) wA) := ae ⟨hsA.u.c4, HLK hsA.u.map⟩;have HUA := ae hsA;have HPA : Hid (qj wA (fun j => j = a) a (s1.cf k)) := ae ⟨HLA.out.1.below bA', rfl, HLA.out.2⟩;clear bA bA' hsA;refine ⟨_, rfl, HSA, ?_⟩;simp only [aa];refine eN 9 rfl (by kernel_rfl) rfl (aA call57 rfl (evc ajL (evc ajL evn))) ?_;rw [show s1.N = s.N from HFN.out];refine (wU wA ((s.N - 1 - k % s.N : Nat) : Int) HPA).mono ?_;rintro e wC ⟨rfl, lC, tC⟩;have HUC := ae (HUA.out.line HA3 tC lC);have HSC : Hid (wC.cell? ⟨t, 4, none⟩ = some (.map (some mp)) /\ (Instr.lookup 53 (.map (some mp)) (.int .i64 (k : Int)) false).run prog wC = .ok (.pointer (some ⟨a, 0, none⟩)) wC) := ae ⟨HUC.out.u.c4, HLK HUC.out.u.map⟩;clear lC tC;refine ⟨_, rfl, HSC, ?_⟩;simp only [aa];refine wpAnyH_done (by kernel_rfl) ?_ _;have HSF : Hid (PSx wB S wC t s2) := ae (by
     have hde : s2.dty = s1.dty := funext HFD1;refine ⟨lp, mp, FL, m, r, ?_, HNOK⟩;have hu := HUC.out;rw [hde];rw [HNX.out];exact hu)
    go_upto_region 13 with fail;refine af ?_;refine ajB (bL rfl ajL evk HADD) ?_;refine aF 1 ?_;go_wp2_with fail;go_roundw
    case rel => exact ⟨i + 1, by go_num, HI, by rw [HS2Q.out]; exact HSF⟩
    case measure => have := HI.out; simp [intOf]; omega
   have hin : i = nc := by omega
   have HT : Hid (decide ((i : Int) < (nc : Int)) = false) := ae (am (by omega));have HSF : Hid (PSx wB S wr t (c.foldl (cE c) s)) := ae (by have := HSr.out; rwa [List.take_of_length_le (by rw [HCN.out]; omega)] at this);clear hlt hi hin;go_upto_region 8 with fail;refine af ?_;refine ajB (aZ false rfl ajL ajL HT) ?_;refine ah ?_;go_wp2_with fail
   go_end0
   exact ⟨rfl, HSF.out.since HWB⟩
theorem aht {w : World} {S : Nat -> Prop} {t K Q nc cc : Nat} {A : Option Addr} {c : List dh} {s : ShS} (h : PSh w S t K s) (hQ : Q < 18446744073709551616) (hn0 : nc <= 1000000) (hc : RdE dw w w.heap.size A nc (c.map bV)) (hcn : c.length = nc) (hA : ∀ x, A = some x -> 0 < nc -> ¬ S x.block) : Calls prog 6 #[.pointer (some ⟨t, 0, none⟩), .int .u64 (Q : Int), .slice A nc cc] w fun e w' => e = .returned (.int .i64 (js s Q c)) /\ PSx w S w' t (nZ s Q c) := by
 have hok := h.x.ok;have HQB := ae hQ;have HN0 := ae hn0;have HC := ae hc;have HCN := ae hcn;have HA := ae hA;have HOK := ae hok;have HS := ae h;obtain ⟨lp, mp, FL, m, r, hs, _, _⟩ := h;have HU := ae hs;obtain ⟨pq, hpq⟩ : ∃ pq, js s Q c = pq := ⟨_, rfl⟩;have HPQ := ae hpq;rw [hpq];clear hs hok hn0 hc hcn hA hQ hpq;go_enter func6, ntmps6;go_upto_region 1 with fail;refine aH 3 ?_;refine aw rfl (aA call21 rfl (evc ajL (evc ajL (evc ajL evn)))) ?_;refine (aak HU HOK HN0 HC HCN).mono ?_;rintro e wB ⟨rfl, b1⟩;rw [HPQ.out];have HB := ae b1;clear b1;refine aQ ?_;refine aF 1 ?_;by_cases hz : pq = 0;rotate_left
 ·have HNE : Hid ((pq != 0) = true) := ae (bne_iff_ne.2 hz);have HZ2 : Hid (nZ s Q c = s) := ae (by unfold nZ; rw [HPQ.out, if_neg hz]);clear hz;go_upto_region 2 with fail;refine aH 1 ?_;refine ajB (aJ true rfl ajL evk HNE) ?_;refine ah ?_;go_upto_region 3 with fail;refine bU 2 ?_;go_wp2_with fail;go_ret;exact ⟨rfl, by rw [HZ2.out]; exact HS.out.x.below HB⟩
 subst hz;have HPS : Hid (nZ s Q c = c.foldl (cE c) (c.foldl (dE Q) s)) := ae (by unfold nZ; rw [if_pos HPQ.out]);go_upto_region 2 with fail;refine aH 1 ?_;refine ajB (aJ false rfl ajL evk rfl) ?_;refine ah ?_;go_upto_region 4 with fail;refine aH 1 ?_;refine ajB (et dw rfl ajL) ?_;refine aF 1 ?_;have HSB := ae (HS.out.below HB);have HCB := ae (HC.out.step HB);clear HU;go_wp2_with fail
 go_loopw [9, 10, 20] (fun _ _ y wr => ∃ i : Nat, y = .int .i64 i /\ i <= nc /\ PSx wB S wr t ((c.take i).foldl (dE Q) s)) (fun _ _ y _ => nc - (intOf y).toNat)
 case atStart => exact ⟨0, by go_num, Nat.zero_le _, HSB.out.x⟩
 case round =>
  obtain ⟨i, rfl, hi, hs⟩ := hrel;have HSr := ae hs;have HCr := ae (HCB.out.only hs.only aj HA);clear hs;by_cases hlt : i < nc
  ·have HI := ae hlt;have HIC : Hid (i < c.length) := ae (by rw [HCN.out]; exact hlt);have HT : Hid (decide ((i : Int) < (nc : Int)) = true) := ae (ao (by omega));have HADD : Hid (IntKind.i64.wrap ((i : Int) + 1) = ((i + 1 : Nat) : Int)) := ae (by have := HN0.out; rw [eW ⟨by omega, by omega⟩]; omega);obtain ⟨k, j, hpa⟩ := ab8 HOK HPQ HQB HIC;obtain ⟨b, off, rfl, hbb, hcell⟩ := (HCB.out.only HSr.out.only aj HA).cl hlt;obtain ⟨x, hx⟩ : ∃ x, c.getD i cT = x := ⟨_, rfl⟩;rw [lz HIC.out, hx] at hcell;have HCL : Hid (wr.rangeAt b (off + i * dw.n) (cQ (bV x))) := ae hcell;have hpn := hpa.n;have hpm := hpa.m;rw [hx] at hpn hpm;have HXN := ae hpn;have HXM := ae hpm;have HKT : Hid (k < ((c.take i).foldl (dE Q) s).T) := ae (by rw [hpa.T]; exact hpa.kT);have hNf := (gJ HOK HPQ HQB i (Nat.le_of_lt HIC)).N;have HJN : Hid (j < ((c.take i).foldl (dE Q) s).N) := ae (by rw [hNf]; exact hpa.mN);have HTB := ae hpa.tb;have HQ0 := ae hpa.n0;have hnx := hpa.nxt;rw [hx] at hnx;have HNX := ae hnx;have HB3 : Hid (Below wr.heap.size wr (wr.alloc (.cells (cQ (bV x)).toArray 46))) := ae (ak.alloc aj _);have HBX := ae (heap_alloc_new wr (.cells (cQ (bV x)).toArray 46));clear hi hlt hcell hx hbb hpn hpm hpa hNf hnx;go_upto_region 5 with fail;refine af ?_;refine ajB (aZ true rfl ajL ajL HT) ?_;refine ah ?_;go_upto_region 6 with fail;refine af ?_;refine ajB (cM (E := dw) rfl ajL ajL HI) ?_;refine ajB (fT rfl ajL HCL) ?_;refine ajB (gd rfl) ?_;refine aG rfl (gY rfl (ev rfl) (ev rfl)) ?_;simp only [aa];refine ah ?_;obtain ⟨bx, hbx⟩ : ∃ bx, wr.heap.size = bx := ⟨_, rfl⟩;rw [hbx] at HBX ⊢;generalize wr.alloc (.cells (cQ (bV x)).toArray 46) = w3 at *;have HS3 := ae (HSr.out.below HB3);clear hbx;obtain ⟨S3, hs3, o3, g3⟩ := HS3.out.res K;have HSH := ae hs3;have HO3 := ae o3;have HG3 := ae g3;clear hs3 o3 g3;go_upto_region 7 with fail;refine aH 1 ?_;refine ajB (fT rfl ajL (aP HBX)) ?_;refine runs 1 ?_;refine aw rfl (aA call22 rfl (evc ajL (evc ajL (evc ajL evn)))) ?_;refine (ahF HSH HXN HXM HKT HJN HQ0 HQB HTB).mono ?_;rintro e w4 ⟨rfl, h4⟩;rw [<- HNX.out] at h4;have HS4 := ae (h4.after HO3 HG3);clear h4;refine aQ ?_;refine aF 1 ?_;go_upto_region 8 with fail;refine aH 1 ?_;refine ajB (aJ false rfl ajL evk rfl) ?_;refine ah ?_;go_upto_region 10 with fail;refine af ?_;refine ajB (bL rfl ajL evk HADD) ?_;refine aF 1 ?_;go_wp2_with fail;go_roundw
   case rel => exact ⟨i + 1, by go_num, HI, HS4⟩
   case measure => have := HI.out; simp [intOf]; omega
  have hin : i = nc := by omega
  have HT : Hid (decide ((i : Int) < (nc : Int)) = false) := ae (am (by omega));have htk : c.take i = c := List.take_of_length_le (by rw [HCN.out]; omega);rw [htk] at HSr;have hpf := gJ HOK HPQ HQB c.length aj;have hpd := acY HOK HPQ HQB c.length aj;rw [List.take_length] at hpf hpd;obtain ⟨hq1, _, _⟩ := nJ HPQ;have HP2 : Hid (∀ x ∈ c, (c.foldl (dE Q) s).plc x.n x.m = true) := ae fun x hx => by rw [hpf.plc]; exact hq1 x hx
  have HD2 := ae hpd;obtain ⟨S2, hs2, o2, g2⟩ := HSr.out.res K;have HSH := ae hs2;have HO2 := ae o2;have HG2 := ae g2;have HA2 : Hid (∀ x, A = some x -> 0 < nc -> ¬ S2 x.block) := ae fun x e hn hs => by
   rcases g2 _ hs with e2 | e2
   ·exact HA.out x e hn e2
   ·obtain ⟨b, off, e3, hb, _⟩ := HC.out.2 0 hn;rw [e] at e3;injection e3 with e3;subst e3;have := HB.out.size;have hb' : b < w.heap.size := hb;have e4 : wB.heap.size <= b := e2;omega
  clear hlt hi hin htk hpf hpd hq1 hs2 o2 g2;go_upto_region 5 with fail;refine af ?_;refine ajB (aZ false rfl ajL ajL HT) ?_;refine ah ?_;go_upto_region 11 with fail;refine aH 2 ?_;refine aw rfl (aA call23 rfl (evc ajL (evc ajL evn))) ?_;refine (zY HSH HN0 (HCr.out.more HSr.out.only.size) HCN HA2 HP2 HD2).mono ?_;rintro e w5 ⟨rfl, h5⟩;have HS5 := ae ((h5.after HO2 HG2).since HB);clear h5;refine aQ ?_;refine ah ?_;go_wp2_with fail;go_ret;exact ⟨rfl, by rw [HPS.out]; exact HS5⟩
theorem xU {s : ShS} {n : Int} (h : s.str n = true) : ∃ k : Nat, n = (k : Int) /\ k < s.T := by
 have := of_decide_eq_true h;exact ⟨n.toNat, by omega, by omega⟩
theorem ub {s : ShS} (n : Int) : zA s.T n = shE s n := rfl
section
variable {s : ShS} {k : Nat} {x : LnS}
theorem abn (h : bX s) : (s.dZ k (some (fL x))).dty = c8 s.dty k false := funext fun i => by
 by_cases e : i = k
 ·subst e;rw [cU, ji (x := fL x) (by rw [cZ, if_pos rfl])];unfold ka;rw [xE]
  rfl
 ·rw [bZ _ _ e];exact kW (by rw [cZ, if_neg e])
end
theorem aaL {w : World} {S : Nat -> Prop} {t K : Nat} {s : ShS} (n : Int) (h : PSh w S t K s) : Calls prog 37 #[.pointer (some ⟨t, 0, none⟩), .int .i64 n] w fun e w' => e = .returned (.int .i64 (shE s n)) /\ PSx w S w' t (dF s n) := by
 have hok := h.x.ok;have HOK := ae hok;have HS := ae h;obtain ⟨lp, mp, FL, m, r, hs, _, hSe⟩ := h;have HU := ae hs;obtain ⟨en, hen⟩ : ∃ en, shE s n = en := ⟨_, rfl⟩;have HEN := ae hen;have HMY : Hid (zA s.T n = en) := ae ((ub n).trans hen);rw [hen];clear hs hen;go_enter func37, ntmps37;go_upto_region 1 with fail;refine aH 2 ?_;refine aw rfl (aA call30 rfl (evc ajL (evc ajL evn))) ?_;refine (xk n HU).mono ?_;rintro e w1 ⟨rfl, b1⟩;rw [HMY.out];have HB := ae b1;clear b1;refine aQ ?_;refine aF 1 ?_;cases hc : s.str n
 ·have HNE : Hid ((en != 0) = true) := ae (by rw [<- HEN.out]; unfold shE; rw [hc]; rfl);have HZ : Hid (dF s n = s) := ae (by unfold dF; rw [hc]; simp);clear hc hok hSe;go_upto_region 2 with fail;refine aH 1 ?_;refine ajB (aJ true rfl ajL evk HNE) ?_;refine ah ?_;go_upto_region 3 with fail;refine bU 2 ?_;go_wp2_with fail;go_ret;exact ⟨rfl, by rw [HZ.out]; exact HS.out.x.below HB⟩
 have hen0 : en = 0 := by rw [<- HEN.out]; unfold shE; rw [hc]; rfl
 subst hen0;obtain ⟨k, rfl, hk⟩ := xU hc;have HW := ae (jD (n := k) (by have := hok.t64; omega));have HU1 := ae (HU.out.below HB);have HS1 : Hid (PSt w S w1 t lp mp FL (kyL s.dty s.o) s.o.length m s.ln s.N s.T s.room r) := ae (by subst hSe; exact (PSt.start HU).below HB);go_upto_region 2 with fail;refine aH 1 ?_;refine ajB (aJ false rfl ajL evk rfl) ?_;refine ah ?_;have hl := HU1.out.ln k;cases hx : s.ln k with
 |none =>
  rw [hx] at hl;have hlk := HU1.out.map.m9 HW;rw [show mLn m (k : Int) = none from by unfold mLn; rw [if_pos (by omega), Int.toNat_natCast, hl.none_]] at hlk;have HK := ae hlk;have HZ : Hid (dF s (k : Int) = s) := ae (by unfold dF; rw [Int.toNat_natCast, hx, if_neg (fun e => by cases e.2)]);clear hc hk hl hx hlk hok hSe;go_upto_region 4 with fail;refine aH 2 ?_;refine ajB (ax rfl ajL iZ) ?_;refine ajB (aC rfl ajL (mh (PRu.c4 HU1))) ?_;refine runs 1 ?_;refine ajB (dl rfl ajL ajL HK) ?_;refine aF 1 ?_;go_upto_region 5 with fail;refine aH 1 ?_;refine ajB (cY false underlying87 rfl ajL evk rfl) ?_;refine ah ?_;go_wp2_with fail;go_ret;exact ⟨rfl, by rw [HZ.out]; exact HS.out.x.below HB⟩
 |some x =>
  rw [hx] at hl;obtain ⟨a, ha, hla, hlo⟩ := hl.some_;have hlk := HU1.out.map.m9 HW;rw [show mLn m (k : Int) = some a from by unfold mLn; rw [if_pos (by omega), Int.toNat_natCast, ha]] at hlk;have HK := ae hlk;have HA := ae ha;have HLA : Hid (qj w1 (fun j => j = a) a x) := ae ⟨hla, rfl, hlo⟩;have HZ : Hid (dF s (k : Int) = s.dZ k (some (fL x))) := ae (by unfold dF; rw [Int.toNat_natCast, if_pos ⟨hc, by rw [hx]; rfl⟩, eu hx]);have HOK2 : Hid (bX (dF s (k : Int))) := ae (HOK.out.cln _);have HDT := ae (abn (k := k) (x := x) hok);have HND := ae hok.nd;clear hc hk hl hx hlk ha hla hlo hok hSe;go_upto_region 4 with fail;refine aH 2 ?_;refine ajB (ax rfl ajL iZ) ?_;refine ajB (aC rfl ajL (mh (PRu.c4 HU1))) ?_;refine runs 1 ?_;refine ajB (dl rfl ajL ajL HK) ?_;refine aF 1 ?_;go_upto_region 5 with fail;refine aH 1 ?_;refine ajB (cY true underlying87 rfl ajL evk rfl) ?_;refine ah ?_;go_upto_region 6 with fail;refine aH 1 ?_;refine aw rfl (aA call77 rfl (evc ajL evn)) ?_;refine (yR w1 HLA).mono ?_;rintro e w2 ⟨rfl, l2, t2⟩;have HS2 := ae (HS1.out.line HA t2 l2);have HL2 : Hid (PLF w2 (fun b => FL b \/ w2.heap.size <= b) lp s.room (kyL s.dty s.o)) := ae (HS2.out.u.li.mono fun b h1 _ => .inl h1);clear l2 t2;refine aQ ?_;refine ah ?_;go_upto_region 7 with fail;refine aH 2 ?_;refine ajB (ax rfl ajL kO) ?_;refine ajB (aC rfl ajL (pZ (PRu.c3 HS2.out.u))) ?_;refine runs 1 ?_;refine aw rfl (aA call55 rfl (evc ajL (evc ajL (evc evk evn)))) ?_;refine (xA w2 HL2 HW false).mono ?_;rintro e w3 ⟨rfl, l3, t3⟩;rw [yx HND.out, <- HDT.out] at l3;obtain ⟨FL3, hs3⟩ := HS2.out.list rfl l3 t3;have HS3 : Hid (PSx w S w3 t (dF s (k : Int))) := ae ⟨lp, mp, FL3, m, r, by rw [HZ.out]; exact hs3, HOK2⟩;clear l3 t3 hs3;refine aQ ?_;refine ah ?_;go_wp2_with fail;go_ret;exact ⟨rfl, HS3⟩
theorem aat (N T : Nat) (r : Int) (lp mp : Nat) (w : World) : (Instr.build 55 #[(0, .agg #[.int .i64 (N : Int), .int .i64 (T : Int), .int .i64 r]), (1, .pointer (some ⟨lp, 0, none⟩)), (2, .map (some mp))]).run prog w = .ok (.agg (shC N T r lp mp).toArray) w := by kernel_rfl
theorem vB {ρ : Operand -> Value} {o : Oper} {x y z : Operand} {N T lp mp : Nat} {r : Int} {w : World} (ho : o.op = .build 55 #[(0, x), (1, y), (2, z)]) (hx : ρ x = .agg #[.int .i64 (N : Int), .int .i64 (T : Int), .int .i64 r]) (hy : ρ y = .pointer (some ⟨lp, 0, none⟩)) (hz : ρ z = .map (some mp)) : (execOp ρ o).run prog w = .ok (.value (.agg (shC N T r lp mp).toArray)) w := by
 unfold execOp;simp [ho, hx, hy, hz, aat, Result.andThen]
theorem dB.congr {w : World} {b N : Nat} {M M' : Int -> Option Nat} (h : dB w b N M) (e : ∀ j, M' j = M j) : dB w b N M' := by
 have : M' = M := funext e;rw [this];exact h
theorem ag7 {N T room : Nat} {r : Int} (w : World) (hg : dA (gx N T r) = true) (h1 : 1 <= room) (h2 : room <= 64) : Calls prog 19 #[geo (gx N T r), .int .i64 (room : Int)] w fun e w' => ∃ p S, e = .returned (.tuple #[.pointer (some ⟨p, 0, none⟩), .int .i64 0]) /\ PSh w' S p 0 (ox N T room) /\ Below w.heap.size w w' /\ ∀ b, S b -> w.heap.size <= b := by
 have HG := ae hg;have HR1 := ae h1;have HR2 := ae h2;clear hg h1 h2;go_enter func19, ntmps19;go_upto_region 0 with fail;refine af ?_;refine ajB (cw (cs := ([.int .i64 (N : Int), .int .i64 (T : Int), .int .i64 r] : List Value)) rfl ajL) ?_;have hbx := (Below.refl w.heap.size w).alloc aj (.cells ([.int .i64 (N : Int), .int .i64 (T : Int), .int .i64 r] : List Value).toArray 51);have P1 := ae (heap_alloc_new w (.cells ([.int .i64 (N : Int), .int .i64 (T : Int), .int .i64 r] : List Value).toArray 51));have HB1 := ae hbx;clear hbx;generalize w.alloc (.cells ([.int .i64 (N : Int), .int .i64 (T : Int), .int .i64 r] : List Value).toArray 51) = w1 at *;refine aF 2 ?_;go_upto_region 1 with fail;refine af ?_;refine ajB (cj (cs := ([.int .i64 (N : Int), .int .i64 (T : Int), .int .i64 r] : List Value)) underlying51 rfl (by kernel_rfl) rfl ajL (aP P1)) ?_;refine aw rfl (aA call47 rfl (evc ajL evn)) ?_;refine (uO (gx N T r) w1).mono ?_;rintro e w2 ⟨rfl, b2⟩;rw [HG.out];have HB2 := ae (HB1.out.trans (b2.mono HB1.out.size));have P2 := ae (aB P1 b2);clear b2;refine aQ ?_;refine aF 1 ?_;go_upto_region 3 with fail;refine aH 1 ?_;refine aw rfl (aA call48 rfl (evc ajL evn)) ?_;refine (ad8 room w2 HR1 HR2).mono ?_;rintro e w3 ⟨lp, rfl, l3, b3⟩;have HB3 := ae (HB2.out.trans (b3.mono HB2.out.size));have P3 := ae (aB P2 b3);have HL3 := ae l3;have HS23 : Hid (w.heap.size <= w2.heap.size) := ae HB2.out.size;clear l3 b3;refine aQ ?_;refine runs 3 ?_;refine aF 2 ?_;go_upto_region 4 with fail;refine aH 1 ?_;refine ajB (aJ false rfl ajL evk rfl) ?_;refine ah ?_;have hb4 := (Below.refl w3.heap.size w3).alloc aj (.map #[] 0);have HB4 := ae (HB3.out.trans (hb4.mono HB3.out.size));have HM4 := ae (dB.made w3);have HL4 := ae (HL3.out.below hb4);have HLN : Hid (∀ b, w2.heap.size <= b /\ b < w3.heap.size -> b < (w3.alloc (.map #[] 0)).heap.size) := ae fun b hb => ar hb.2 hb4.size
 have HLM : Hid (PLF w3 (fun b => w2.heap.size <= b /\ b < w3.heap.size) lp room []) := ae (HL3.out.mono fun b h1 h2 => ⟨h1, h2⟩);have HL5 : Hid (PLF (w3.alloc (.map #[] 0)) (fun b => w2.heap.size <= b /\ b < w3.heap.size) lp room []) := ae (HLM.out.below hb4);clear hb4;go_upto_region 6 with fail;refine af ?_;refine ajB (cj (cs := ([.int .i64 (N : Int), .int .i64 (T : Int), .int .i64 r] : List Value)) underlying51 rfl (by kernel_rfl) rfl ajL (aP P3)) ?_;refine runs 1 ?_;refine ajB (oo rfl) ?_;refine ajB (vB rfl ajL ajL ajL) ?_;refine ajB (cw (cs := shC N T r lp w3.heap.size) rfl ajL) ?_;refine aF 2 ?_;go_wp2_with fail;go_ret2;generalize w3.alloc (.map #[] 0) = w4 at *;have hb5 := (Below.refl w4.heap.size w4).alloc aj (.cells (shC N T r lp w3.heap.size).toArray 55);have h5 := heap_alloc_new w4 (.cells (shC N T r lp w3.heap.size).toArray 55);obtain ⟨k1, k2, k3, k4, _⟩ := afR HG;have hs34 : w3.heap.size < w4.heap.size := HM4.out.lt;refine ⟨w4.heap.size, pV w4.heap.size w3.heap.size (fun b => w2.heap.size <= b /\ b < w3.heap.size) (fun _ => none), rfl, ⟨lp, w3.heap.size, fun b => w2.heap.size <= b /\ b < w3.heap.size, fun _ => none, r, ⟨h5, HL5.out.below hb5, (HM4.out.kept fun es c hb => aB hb hb5).congr fun j => ?_, fun n => trivial, fun i j b h => (by cases h), ⟨fun h => (by have := h.2; omega), fun h => (by have := h.2; omega), fun n b h => (by cases h)⟩, fun b hb => ar (Nat.lt_trans hb.2 hs34) hb5.size, HG⟩, bX.new k1 k2 k3 k4 HR1 HR2, rfl⟩, HB4.out.trans (hb5.mono HB4.out.size), fun b hb => ?_⟩
 ·unfold mLn
  split <;> rfl
 ·have e1 := HS23.out;have e2 := HB4.out.size;have e3 := HB3.out.size;rcases hb with e | e | e | ⟨n, e⟩
  ·omega
  ·omega
  ·have := e.1; omega
  ·cases e
theorem yV (x : Ros) (room : Int) (w : World) (h : ¬ (dA x = true /\ 1 <= room /\ room <= 64)) : Calls prog 19 #[geo x, .int .i64 room] w fun e w' => e = .returned (.tuple #[.pointer none, .int .i64 2]) /\ Below w.heap.size w w' := by
 have HN := ae h;obtain ⟨gn, gt, gr⟩ : ∃ a b c, geo x = .agg ([.int .i64 a, .int .i64 b, .int .i64 c] : List Value).toArray := ⟨_, _, _, rfl⟩;obtain ⟨gr, hge⟩ := gr;have HGE := ae hge;rw [hge];clear h hge;go_enter func19, ntmps19;go_upto_region 0 with fail;refine af ?_;refine ajB (cw (cs := ([.int .i64 gn, .int .i64 gt, .int .i64 gr] : List Value)) rfl ajL) ?_;have hbx := (Below.refl w.heap.size w).alloc aj (.cells ([.int .i64 gn, .int .i64 gt, .int .i64 gr] : List Value).toArray 51);have P1 := ae (heap_alloc_new w (.cells ([.int .i64 gn, .int .i64 gt, .int .i64 gr] : List Value).toArray 51));have HB1 := ae hbx;clear hbx;generalize w.alloc (.cells ([.int .i64 gn, .int .i64 gt, .int .i64 gr] : List Value).toArray 51) = w1 at *;refine aF 2 ?_;cases hg : dA x
 ·have HG := ae hg;clear hg;go_upto_region 1 with fail;refine af ?_;refine ajB (cj (cs := ([.int .i64 gn, .int .i64 gt, .int .i64 gr] : List Value)) underlying51 rfl (by kernel_rfl) rfl ajL (aP P1)) ?_;refine aw rfl (aA call47 rfl (evc ajL evn)) ?_;rw [show Value.agg ([.int .i64 gn, .int .i64 gt, .int .i64 gr] : List Value).toArray = geo x from HGE.out.symm];refine (uO x w1).mono ?_;rintro e w2 ⟨rfl, b2⟩;rw [HG.out];have HB2 := ae (HB1.out.trans (b2.mono HB1.out.size));clear b2;refine aQ ?_;refine aF 1 ?_;go_wp2_with fail;go_ret2;exact ⟨rfl, HB2⟩
 have HG := ae hg;have HR : Hid (¬ (1 <= room /\ room <= 64)) := ae fun e => HN.out ⟨hg, e⟩
 clear hg;go_upto_region 1 with fail;refine af ?_;refine ajB (cj (cs := ([.int .i64 gn, .int .i64 gt, .int .i64 gr] : List Value)) underlying51 rfl (by kernel_rfl) rfl ajL (aP P1)) ?_;refine aw rfl (aA call47 rfl (evc ajL evn)) ?_;rw [show Value.agg ([.int .i64 gn, .int .i64 gt, .int .i64 gr] : List Value).toArray = geo x from HGE.out.symm];refine (uO x w1).mono ?_;rintro e w2 ⟨rfl, b2⟩;rw [HG.out];have HB2 := ae (HB1.out.trans (b2.mono HB1.out.size));clear b2;refine aQ ?_;refine aF 1 ?_;go_upto_region 3 with fail;refine aH 1 ?_;refine aw rfl (aA call48 rfl (evc ajL evn)) ?_;refine (zo room w2 HR).mono ?_;rintro e w3 ⟨rfl, rfl⟩;refine aQ ?_;refine runs 3 ?_;refine aF 2 ?_;go_upto_region 4 with fail;refine aH 1 ?_;refine ajB (aJ true rfl ajL evk rfl) ?_;refine ah ?_;go_upto_region 5 with fail;refine bU 3 ?_;go_wp2_with fail;go_ret2;exact ⟨rfl, HB2⟩
def shZ : List Value := [.int .i64 0, .int .i64 0, .int .i64 0, .pointer none, .map none]
def mH (w : World) (v : Value) : Prop := v = .pointer none \/ ∃ p, v = .pointer (some ⟨p, 0, none⟩) /\ w.heap[p]? = some (.cells shZ.toArray 55 (0, 0))
theorem mH.below {w w' : World} {v : Value} (h : mH w v) (hb : Below w.heap.size w w') : mH w' v := by
 rcases h with h | ⟨p, h, h1⟩
 ·exact .inl h
 ·exact .inr ⟨p, h, aB h1 hb⟩
theorem wS (w : World) : (Instr.build 55 #[]).run prog w = .ok (.agg shZ.toArray) w := by kernel_rfl
theorem nK (w : World) {v : Value} (h : mH w v) : Calls prog 50 #[v] w fun e w' => e = .returned (.bool false) /\ w = w' := by
 rcases h with rfl | ⟨p, rfl, h⟩
 ·go_enter func50, ntmps50;go_upto_region 1 with fail;refine aH 1 ?_;refine ajB (cY false underlying23 rfl ajL evk rfl) ?_;refine a6 5 rfl (aL rfl ajL) (by kernel_rfl) ?_;simp only [bH, ac, aa];refine aF 2 ?_;go_wp2_with fail;go_ret;exact ⟨rfl, rfl⟩
 ·have HP := ae h;clear h;go_enter func50, ntmps50;go_upto_region 1 with fail;refine aH 1 ?_;refine ajB (cY true underlying23 rfl ajL evk rfl) ?_;refine runs 3 ?_;refine ajI (ax rfl ajL iZ) ?_;refine ajI (aC rfl ajL (mh (aP HP 4 _ rfl))) ?_;refine ajI (py false underlying53 rfl ajL evk rfl) ?_;refine aF 2 ?_;go_wp2_with fail;go_ret;exact ⟨rfl, rfl⟩
theorem oL (w : World) (v : Value) (h : mH w v) : Calls prog 24 #[v] w fun e w' => e = .returned (.slice none 0 0) /\ w = w' := by
 have H := ae h;clear h;go_enter func24, ntmps24;go_upto_region 1 with fail;refine aH 1 ?_;refine aw rfl (aA call50 rfl (evc ajL evn)) ?_;refine (nK w H).mono ?_;rintro e w' ⟨rfl, rfl⟩;refine aQ ?_;refine aF 1 ?_;go_wp2_with fail;go_ret;exact ⟨rfl, rfl⟩
theorem ac1 (w : World) (v : Value) (h : mH w v) : Calls prog 7 #[v] w fun e w' => e = .returned (.slice none 0 0) /\ Below w.heap.size w w' := by
 have H := ae h;clear h;go_enter func7, ntmps7;go_upto_region 2 with fail;refine aH 1 ?_;refine aw rfl (aA call24 rfl (evc ajL evn)) ?_;refine (oL w v H).mono ?_;rintro e w' ⟨rfl, rfl⟩;refine aQ ?_;refine ajB (et bN rfl ajL) ?_;refine aF 1 ?_;go_wp2_with fail
 go_loopw [3, 5, 9] (fun z u c wr => c = .int .i64 0 /\ z = .slice none 0 0 /\ wr = w) (fun _ _ _ _ => 0)
 case atStart => exact ⟨rfl, rfl, rfl⟩
 case round =>
  obtain ⟨rfl, rfl, rfl⟩ := hrel;go_upto_region 3 with fail;refine af ?_;refine ajB (aZ false rfl ajL ajL (by decide)) ?_;refine ah ?_;go_upto_region 8 with fail;refine aH 1 ?_;refine aw rfl (aA call26 rfl (evc ajL evn)) ?_;refine (tY (l := []) (aO.nil wr wr.heap.size) aj (by decide)).mono ?_;rintro e w2 ⟨rfl, _, b2⟩;have HB := ae b2;clear b2;refine aQ ?_;refine ah ?_;go_upto_region 9 with fail;refine bU 2 ?_;go_wp2_with fail;go_ret;exact ⟨rfl, HB⟩
theorem acG (w : World) (v : Value) (n : Int) (h : mH w v) : Calls prog 30 #[v, .int .i64 n] w fun e w' => e = .returned (.int .i64 1) /\ w = w' := by
 have H := ae h;clear h;go_enter func30, ntmps30;go_upto_region 1 with fail;refine aH 1 ?_;refine aw rfl (aA call50 rfl (evc ajL evn)) ?_;refine (nK w H).mono ?_;rintro e w' ⟨rfl, rfl⟩;refine aQ ?_;refine aF 2 ?_;go_wp2_with fail;go_ret;exact ⟨rfl, rfl⟩
theorem aaE (w : World) (v : Value) (n : Int) (h : mH w v) : Calls prog 37 #[v, .int .i64 n] w fun e w' => e = .returned (.int .i64 1) /\ Below w.heap.size w w' := by
 have H := ae h;clear h;go_enter func37, ntmps37;go_upto_region 1 with fail;refine aH 2 ?_;refine aw rfl (aA call30 rfl (evc ajL (evc ajL evn))) ?_;refine (acG w v n H).mono ?_;rintro e w' ⟨rfl, rfl⟩;refine aQ ?_;refine aF 1 ?_;go_upto_region 2 with fail;refine aH 1 ?_;refine ajB (aJ true rfl ajL evk rfl) ?_;refine ah ?_;go_upto_region 3 with fail;refine bU 2 ?_;go_wp2_with fail;go_ret;exact ⟨rfl, ak⟩
theorem acu (w : World) (v : Value) (n : Int) (h : mH w v) : Calls prog 10 #[v, .int .i64 n] w fun e w' => (∃ A c, e = .returned (.slice A 0 c)) /\ Below w.heap.size w w' := by
 have H := ae h;clear h;go_enter func10, ntmps10;go_upto_region 1 with fail;refine aH 2 ?_;refine aw rfl (aA call30 rfl (evc ajL (evc ajL evn))) ?_;refine (acG w v n H).mono ?_;rintro e w' ⟨rfl, rfl⟩;refine aQ ?_;refine ajB (aJ true rfl ajL evk rfl) ?_;refine ah ?_;go_wp2_with fail;go_ret;exact ⟨⟨_, _, rfl⟩, ak⟩
theorem yX (w : World) (v : Value) (Q : Nat) (h : mH w v) : Calls prog 21 #[v, .int .u64 (Q : Int), .slice none 0 0] w fun e w' => e = .returned (.int .i64 1) /\ w = w' := by
 have H := ae h;clear h;go_enter func21, ntmps21;go_upto_region 1 with fail;refine aH 1 ?_;refine aw rfl (aA call50 rfl (evc ajL evn)) ?_;refine (nK w H).mono ?_;rintro e w' ⟨rfl, rfl⟩;refine aQ ?_;refine aF 2 ?_;go_wp2_with fail;go_ret;exact ⟨rfl, rfl⟩
theorem af6 (w : World) (v : Value) (Q : Nat) (h : mH w v) : Calls prog 6 #[v, .int .u64 (Q : Int), .slice none 0 0] w fun e w' => e = .returned (.int .i64 1) /\ Below w.heap.size w w' := by
 have H := ae h;clear h;go_enter func6, ntmps6;go_upto_region 1 with fail;refine aH 3 ?_;refine aw rfl (aA call21 rfl (evc ajL (evc ajL (evc ajL evn)))) ?_;refine (yX w v Q H).mono ?_;rintro e w' ⟨rfl, rfl⟩;refine aQ ?_;refine aF 1 ?_;go_upto_region 2 with fail;refine aH 1 ?_;refine ajB (aJ true rfl ajL evk rfl) ?_;refine ah ?_;go_upto_region 3 with fail;refine bU 2 ?_;go_wp2_with fail;go_ret;exact ⟨rfl, ak⟩
theorem adO (w : World) (v : Value) (h : mH w v) : Calls prog 52 #[v, .slice none 0 0] w fun e w' => e = .returned (.bool false) /\ Below w.heap.size w w' := by
 have H := ae h;clear h;go_enter func52, ntmps52;go_upto_region 1 with fail;refine aH 1 ?_;refine aw rfl (aA call50 rfl (evc ajL evn)) ?_;refine (nK w H).mono ?_;rintro e w' ⟨rfl, rfl⟩;refine aQ ?_;refine aF 1 ?_;go_wp2_with fail;go_ret;exact ⟨rfl, ak⟩
section
variable {x : LnS} {N i n : Nat}
theorem ahe (hi : i < x.l.length) : lnG x (i : Int) = cW x i := by unfold lnG; rw [iA hi, Int.toNat_natCast]; rfl
def mA (n : Int) (x : LnS) (l : List Int) : List Cl := l.map fun m => ⟨n, m, (cW x m.toNat).b⟩
theorem abY (n : Int) (x : LnS) (i : Nat) : (nf n x i).map bV = mA n x (gC x.l i) := by
 induction i with
 |zero => rfl
 |succ i ih =>
  rw [nf, gC, List.map_append, ih];unfold mA;rw [List.map_append]
  congr 1
  show _ = List.map _ (if (cW x i).dt = true then [(i : Int)] else [])
  split
  ·rw [List.map_cons, List.map_nil, List.map_cons, List.map_nil, Int.toNat_natCast]; rfl
  ·rfl
theorem aag {n : Int} {l : List Int} {i j : Nat} (hi : i < l.length) (hj : l.getD i 0 = (j : Int)) : mA n x (l.take (i + 1)) = mA n x (l.take i) ++ [⟨n, (j : Int), (cW x j).b⟩] := by
 unfold mA;rw [vc hi, List.map_append, hj]
 rfl
end
theorem af7 {w : World} {v : Value} {x : LnS} {N : Nat} (m : Int) (h : (v = .pointer none /\ x = dS N) \/ ∃ a, v = .pointer (some ⟨a, 0, none⟩) /\ LnA w a (lf x) /\ dO x) : Calls prog 32 #[v, .int .i64 m] w fun e w' => e = .returned (.tuple #[blk (lnG x m).b, .bool (lnG x m).kn]) /\ Below w.heap.size w w' := by
 rcases h with ⟨rfl, rfl⟩ | ⟨a, rfl, h1, h2⟩
 ·have e : lnG (dS N) m = lc0 := by
   unfold lnG
   split
   ·simp only [cW, dS, List.getD, List.getElem?_replicate]
    split <;> rfl
   ·rfl
  rw [e];exact ahj w (.pointer none) m (.inl rfl)
 ·exact agd w m (B := 0) ⟨h1, Nat.zero_le _, h2⟩
theorem adb {w : World} {v : Value} {x : LnS} {N : Nat} (h : (v = .pointer none /\ x = dS N) \/ ∃ a, v = .pointer (some ⟨a, 0, none⟩) /\ LnA w a (lf x) /\ dO x) : Calls prog 31 #[v] w fun e w' => ∃ v, e = .returned v /\ aO bN w' w.heap.size v (lnD x) /\ Below w.heap.size w w' := by
 rcases h with ⟨rfl, rfl⟩ | ⟨a, rfl, h1, h2⟩
 ·rw [yr];exact (aav w (.pointer none) (.inl rfl)).mono fun e w' ⟨k0, k1⟩ => ⟨_, k0, aO.nil _ _, k1⟩
 ·exact abR w (B := 0) ⟨h1, Nat.zero_le _, h2⟩
section
variable {w : World} {t lp mp K : Nat} {FL : Nat -> Prop} {m : Nat -> Option Nat} {r : Int} {s : ShS}
theorem PRu.get {k : Nat} (h : PRu w t lp mp FL (kyL s.dty s.o) s.o.length m s.ln s.N s.T s.room r) (hok : bX s) (hk : k < s.T) : ∃ v, (Instr.lookup 53 (.map (some mp)) (.int .i64 (k : Int)) false).run prog w = .ok v w /\ ((v = .pointer none /\ s.cf k = dS s.N) \/ ∃ a, v = .pointer (some ⟨a, 0, none⟩) /\ LnA w a (lf (s.cf k)) /\ dO (s.cf k)) := by
 have hlk := h.map.m9 (jD (n := k) (by have := hok.t64; omega));rw [show mLn m (k : Int) = m k from by unfold mLn; rw [if_pos (by omega), Int.toNat_natCast]] at hlk;have hl := h.ln k;cases hx : s.ln k with
 |none =>
  rw [hx] at hl;rw [hl.none_] at hlk;exact ⟨_, hlk, .inl ⟨rfl, iO hx⟩⟩
 |some x =>
  rw [hx] at hl;obtain ⟨a, ha, h1, h2⟩ := hl.some_;rw [ha] at hlk;exact ⟨_, hlk, .inr ⟨a, rfl, by rw [eu hx]; exact h1, by rw [eu hx]; exact h2⟩⟩
theorem abZ (n : Int) (h : PRu w t lp mp FL (kyL s.dty s.o) s.o.length m s.ln s.N s.T s.room r) (hok : bX s) : Calls prog 10 #[.pointer (some ⟨t, 0, none⟩), .int .i64 n] w fun e w' => ∃ v, e = .returned v /\ aO dw w' w.heap.size v ((dq s n).map bV) /\ Below w.heap.size w w' := by
 have HH := ae h;have HOK := ae hok;have HN16 : Hid (s.N <= 16) := ae hok.n16;have HN6 : Hid (s.N <= 1000000) := ae (by have := hok.n16; omega);obtain ⟨en, hen⟩ : ∃ en, shE s n = en := ⟨_, rfl⟩;have HEN := ae hen;have HMY : Hid (zA s.T n = en) := ae ((ub n).trans hen);clear h hok hen;go_enter func10, ntmps10;cases hc : s.str n
 ·have HNE : Hid ((en != 0) = true) := ae (by rw [<- HEN.out]; unfold shE; rw [hc]; rfl);have HZ : Hid (dq s n = []) := ae (by unfold dq; rw [hc]; rfl);clear hc;go_upto_region 1 with fail;refine aH 2 ?_;refine aw rfl (aA call30 rfl (evc ajL (evc ajL evn))) ?_;refine (xk n HH).mono ?_;rintro e w1 ⟨rfl, b1⟩;rw [HMY.out];have HB := ae b1;have HH1 := ae (HH.out.below b1);clear b1;refine aQ ?_;refine ajB (aJ true rfl ajL evk HNE) ?_;refine ah ?_;go_wp2_with fail;go_ret;exact ⟨_, rfl, by rw [HZ.out, List.map_nil]; exact aO.nil _ _, HB⟩
 have hen0 : en = 0 := by rw [<- HEN.out]; unfold shE; rw [hc]; rfl
 subst hen0;obtain ⟨k, rfl, hk⟩ := xU hc;have HKT := ae hk;have HZ : Hid ((dq s (k : Int)).map bV = mA (k : Int) (s.cf k) (lnD (s.cf k))) := ae (by unfold dq; rw [hc, if_pos rfl, Int.toNat_natCast, abY, <- (HOK.out.line k).2]; rfl);have HDL : Hid ((lnD (s.cf k)).length <= 16) := ae (aq (yg _ _) (by rw [(HOK.out.line k).2]; exact HN16));have HDM : Hid (∀ i, i < (lnD (s.cf k)).length -> ∃ j : Nat, (lnD (s.cf k)).getD i 0 = (j : Int) /\ j < (s.cf k).l.length) := ae fun i hi => by
  obtain ⟨j, e, hj, _⟩ := xn (cz (d := 0) hi);exact ⟨j, e, hj⟩
 clear hc hk;go_upto_region 1 with fail;refine aH 2 ?_;refine aw rfl (aA call30 rfl (evc ajL (evc ajL evn))) ?_;refine (xk (k : Int) HH).mono ?_;rintro e w1 ⟨rfl, b1⟩;rw [HMY.out];have HB := ae b1;have HH1 := ae (HH.out.below b1);clear b1;refine aQ ?_;refine ajB (aJ false rfl ajL evk rfl) ?_;refine ah ?_;obtain ⟨v, hlk, hv⟩ := HH1.out.get HOK HKT;have HLK := ae hlk;have HV := ae hv;clear hlk hv;go_upto_region 4 with fail;refine aH 2 ?_;refine ajB (ax rfl ajL iZ) ?_;refine ajB (aC rfl ajL (mh (PRu.c4 HH1))) ?_;refine runs 1 ?_;refine ajB (dl rfl ajL ajL HLK) ?_;refine aF 1 ?_;go_upto_region 5 with fail;refine aH 1 ?_;refine aw rfl (aA call31 rfl (evc ajL evn)) ?_;refine (adb HV).mono ?_;rintro e w2 ⟨v2, rfl, m2, b2⟩;obtain ⟨A2, c2, rfl, _, _⟩ := m2.form;have HM2 := ae m2;have HB2 := ae (HB.out.trans (b2.mono HB.out.size));have HVW : Hid (∀ {w' : World}, Below w2.heap.size w2 w' -> (v = .pointer none /\ s.cf k = dS s.N) \/ ∃ a, v = .pointer (some ⟨a, 0, none⟩) /\ LnA w' a (lf (s.cf k)) /\ dO (s.cf k)) := ae fun hw => by
  rcases HV.out with h | ⟨a, h1, h2, h3⟩
  ·exact .inl h
  ·exact .inr ⟨a, h1, (h2.below b2).below hw, h3⟩
 clear m2;refine aQ ?_;refine ajB (et bN rfl ajL) ?_;refine aF 1 ?_;obtain ⟨D, hD⟩ : ∃ D, lnD (s.cf k) = D := ⟨_, rfl⟩;rw [hD] at HDL HDM HM2 HZ ⊢;clear hD b2;go_wp2_with fail
 go_loopw [5, 8, 9, 10, 24] (fun z _ _ _ y wr => ∃ i : Nat, y = .int .i64 i /\ i <= D.length /\ aO dw wr w2.heap.size z (mA (k : Int) (s.cf k) (D.take i)) /\ Below w2.heap.size w2 wr) (fun _ _ _ _ y _ => D.length - (intOf y).toNat)
 case atStart => exact ⟨0, by go_num, Nat.zero_le _, aO.nil _ _, ak⟩
 case round =>
  obtain ⟨i, rfl, hi, hm, hb⟩ := hrel;have HM := ae hm;have HW := ae hb;have HMr := ae (aO.below HM2 hb);have HVr := ae (HVW.out hb);have HBS : Hid (w2.heap.size <= wr.heap.size) := ae hb.size;clear hm hb;by_cases hlt : i < D.length
  ·have HI := ae hlt;have HT : Hid (decide ((i : Int) < (D.length : Int)) = true) := ae (ao (by omega));have HADD : Hid (IntKind.i64.wrap ((i : Int) + 1) = ((i + 1 : Nat) : Int)) := ae (by have := HDL.out; rw [eW ⟨by omega, by omega⟩]; omega);obtain ⟨j, hj, hjL⟩ := HDM.out i hlt;obtain ⟨b, off, hA, _, hc⟩ := HMr.out.rd.int (k := i) hlt;rw [hj] at hc;subst hA;have HC := ae hc;have HGB : Hid (lnG (s.cf k) (j : Int) = cW (s.cf k) j) := ae (ahe hjL);have HSN : Hid (mA (k : Int) (s.cf k) (D.take (i + 1)) = mA (k : Int) (s.cf k) (D.take i) ++ [⟨(k : Int), (j : Int), (cW (s.cf k) j).b⟩]) := ae (aag hlt hj);have HLL : Hid ((mA (k : Int) (s.cf k) (D.take i)).length <= 16) := ae (by unfold mA; rw [List.length_map, List.length_take]; have := HDL.out; omega);clear hi hlt hj hjL hc;go_upto_region 6 with fail;refine af ?_;refine ajB (aZ true rfl ajL ajL HT) ?_;refine ah ?_;go_upto_region 7 with fail;refine af ?_;refine ajB (cM (E := bN) rfl ajL ajL HI) ?_;refine ajB (aC rfl ajL (bY (by rw [show i * bN.n = i from Nat.mul_one i]; exact HC.out))) ?_;refine aF 1 ?_;obtain ⟨bl, hbl⟩ : ∃ bl, (cW (s.cf k) j).b = bl := ⟨_, rfl⟩;rw [hbl] at HSN;have HBL := ae hbl;clear hbl;go_upto_region 8 with fail;refine aH 2 ?_;refine aw rfl (aA call32 rfl (evc ajL (evc ajL evn))) ?_;refine (af7 (j : Int) HVr).mono ?_;rintro e w5 ⟨rfl, b5⟩;rw [HGB.out, HBL.out];have HM5 := ae (HM.out.below b5);have HW5 := ae (HW.out.trans (b5.mono HBS));have hb6 := HW5.out.alloc HW5.out.size (.cells (cel bl).toArray 44);have HW6 := ae hb6;have HX6 := ae (heap_alloc_new w5 (.cells (cel bl).toArray 44));have HM6 := ae (HM5.out.below ((Below.refl w5.heap.size w5).alloc aj (.cells (cel bl).toArray 44)));clear b5 hb6;refine aQ ?_;refine runs 3 ?_;refine ajB (bW rfl) ?_;refine aG rfl (jA (c := bl) rfl (ev rfl) (ev rfl)) ?_;simp only [aa];refine aF 1 ?_;obtain ⟨b6, hb6⟩ : ∃ b6, w5.heap.size = b6 := ⟨_, rfl⟩;rw [hb6] at HX6 ⊢;clear hb6;generalize w5.alloc (.cells (cel bl).toArray 44) = w6 at *;obtain ⟨cx, hcx⟩ : ∃ cx : Cl, (⟨(k : Int), (j : Int), bl⟩ : Cl) = cx := ⟨_, rfl⟩;have HBS6 : Hid (w2.heap.size <= w6.heap.size) := ae HW6.out.size;have hsz : (w6.alloc (.cells (cQ cx).toArray 46)).heap.size = w6.heap.size + 1 := al;obtain ⟨v2, wA, hrun, hm2, hg2⟩ := ge dw (w6.alloc (.cells (cQ cx).toArray 46)) 22 w2.heap.size (w6.heap.size + 1) 1 1 u5 (mA (k : Int) (s.cf k) (D.take i)) [cx] (some ⟨w6.heap.size, 0, none⟩) (aO.below HM6 (ak.alloc aj _)) (fI (E := dw) (l := [cx]) w6 (cQ cx).toArray 46 (by simp [cu, dw])) (by have := HBS6.out; omega) (by have := HLL.out; simp; omega);have HRUN := ae hrun;have HMA : Hid (aO dw wA w2.heap.size v2 (mA (k : Int) (s.cf k) (D.take (i + 1)))) := ae (by rw [HSN.out, hcx]; exact hm2);have HWA : Hid (Below w2.heap.size w2 wA) := ae ((HW6.out.trans (ak.alloc HBS6 _)).grown hg2 (by have := HBS6.out; omega) (fun j' hj' => HM6.out.gW j' hj'));have HCX := ae hcx;clear hsz hrun hm2 hg2 hcx;go_upto_region 9 with fail;refine aH 3 ?_;refine ajB (wN rfl ajL ajL) ?_;refine ajB (bJ (c := bl) rfl ajL (aP HX6)) ?_;refine ajB (zS (s := (k : Int)) (m := (j : Int)) (b := bl) rfl ajL ajL) ?_;refine ajB (el (E := dw) (a := cx) rfl ajL (by rw [<- HCX.out]; rfl) (by show 66 <= _; omega)) ?_;refine ajB (gI (E := dw) rfl ajL ajL HRUN) ?_;refine aF 1 ?_;go_upto_region 10 with fail;refine af ?_;refine ajB (bL rfl ajL evk HADD) ?_;refine aF 1 ?_;go_wp2_with fail;go_roundw
   case rel => exact ⟨i + 1, by go_num, HI, HMA, HWA⟩
   case measure => have := HI.out; simp [intOf]; omega
  have hin : i = D.length := by omega
  have HT : Hid (decide ((i : Int) < (D.length : Int)) = false) := ae (am (by omega));have HMF : Hid (aO dw wr w.heap.size u5 ((dq s (k : Int)).map bV)) := ae (by
   have := HM.out;rw [hin, List.take_length] at this;rw [HZ.out];exact this.base HB2.out.size)
  clear hlt hi hin;go_upto_region 6 with fail;refine af ?_;refine ajB (aZ false rfl ajL ajL HT) ?_;refine ah ?_;go_upto_region 11 with fail;refine bU 2 ?_;go_wp2_with fail;go_ret;exact ⟨_, rfl, HMF, HB2.out.trans (HW.out.mono HB2.out.size)⟩
end
theorem PSh.aiI {F S : Nat -> Prop} {w w' : World} {t K : Nat} {s : ShS} (h : PSh w S t K s) (hk : Only F w w') (hF : ∀ b, S b -> ¬ F b) : PSh w' S t K s := by
 obtain ⟨lp, mp, FL, m, r, h1, h2, rfl⟩ := h;exact ⟨lp, mp, FL, m, r, h1.only hk hF, h2, rfl⟩
theorem yG (s : ShS) : fk (kyL s.dty s.o) = s.strs := rN
def aiX : ShPr where
 P := PSh
 lt := fun h => h.lt
 only := fun h k n => h.aiI k n
 more := fun h _ => h
 ok := fun h => h.x.ok
 new_ok := fun w hg h1 h2 => ag7 w hg h1 h2
 new_no := fun x room w h => yV x room w h
 put := fun h hQ hK hc hcn _ _ hA => (aht h hQ (by omega) hc hcn hA).mono fun e w' ⟨k0, k1⟩ => ⟨k0, k1.res _⟩
 clean := fun n h => (aaL n h).mono fun e w' ⟨k0, k1⟩ => ⟨k0, k1.res _⟩
 fits := fun h hl hwf _ _ hb => by
  have hok := h.x.ok;obtain ⟨lp, mp, FL, m, r, h1, _, _⟩ := h;exact rz h1 hok hl hwf hb
 cells := fun n h => by
  have hok := h.x.ok;obtain ⟨lp, mp, FL, m, r, h1, _, _⟩ := h;exact abZ n h1 hok
 da := fun h => by
  have hok := h.x.ok;obtain ⟨lp, mp, FL, m, r, h1, _, _⟩ := h;exact tG h1 hok
 stripes := fun {w S t K s} h => by
  obtain ⟨lp, mp, FL, m, r, h1, _, _⟩ := h;have := oM h1;rw [yG] at this;exact this
 No := mH
 zc := shZ
 no_nil := fun w => .inl rfl
 bld0 := fun w => wS w
 no_zero := fun w => .inr ⟨_, rfl, heap_alloc_new w _⟩
 no_below := fun h hb => h.below hb
 no_put := fun w v Q h => af6 w v Q h
 no_clean := fun w v n h => aaE w v n h
 no_fits := fun w v h => adO w v h
 no_cells := fun w v n h => acu w v n h
 no_dirty := fun w v h => (ac1 w v h).mono fun e w' ⟨k0, k1⟩ => ⟨⟨_, _, k0⟩, k1⟩
 no_stripes := fun w v h => (oL w v h).mono fun e w' ⟨k0, k1⟩ => ⟨⟨_, _, k0⟩, by subst k1; exact ak⟩
def aiO (C : eF) (F : ail C) : ShI C where
 toShPr := aiX
section
variable {C : eF} {w0 w wr w' : World} {H K : Nat -> Prop} {q p N i : Nat} {rd : HuS -> Int -> Int × Blk × HuS} {P : HuS -> Int -> Prop} {sk s : Int} {X : Int × List Blk × HuS} {l l2 : List Blk} {h h' : HuS} {v v2 : Value}
theorem ajh (C : eF) : ail C where
end
end Go.Proofs.YtlmdklakcmnaiaaGreatDoor
