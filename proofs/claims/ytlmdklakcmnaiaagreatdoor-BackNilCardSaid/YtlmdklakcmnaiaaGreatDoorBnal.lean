import Derived.Test.YtlmdklakcmnaiaaGreatDoorBnak
import Derived.Shelf.Sort.Plain
import Derived.Shelf.Slices.In.SortNone
namespace Go.Proofs.YtlmdklakcmnaiaaGreatDoor
set_option maxHeartbeats 8000000
open Go.Proofs.Tryz
open Go.RowKit
set_option linter.unusedVariables false
set_option linter.unusedSimpArgs false
set_option maxRecDepth 100000
theorem ahJ : (prog.info? 134).map (fun i => i.zero) = some (some (.agg (gV (lf0 0)).toArray)) := by kernel_rfl
theorem yL : (prog.info? 131).map (·.size) = some 16 := by kernel_rfl
section
variable {ρ : Operand -> Value} {o : Oper} {x y z : Operand} {w : World} {b off p j : Nat} {c : Blk}
theorem acH : (Instr.fieldAt 134 (.pointer (some ⟨b, 0, none⟩)) 0).run prog w = .ok (.pointer (some ⟨b, 0, none⟩)) w := by kernel_rfl
theorem vZ : (Instr.fieldAt 134 (.pointer (some ⟨b, 0, none⟩)) 1).run prog w = .ok (.pointer (some ⟨b, 1, none⟩)) w := by kernel_rfl
theorem pK : (Instr.fieldAt 134 (.pointer (some ⟨b, 0, none⟩)) 2).run prog w = .ok (.pointer (some ⟨b, 17, none⟩)) w := by kernel_rfl
theorem wF : (Instr.fieldAt 134 (.pointer (some ⟨b, 0, none⟩)) 3).run prog w = .ok (.pointer (some ⟨b, 33, none⟩)) w := by kernel_rfl
theorem nR : (Instr.fieldAt 134 (.pointer (some ⟨b, 0, none⟩)) 4).run prog w = .ok (.pointer (some ⟨b, 1057, none⟩)) w := by kernel_rfl
theorem vt (hj : j < 16) : (Instr.indexAt 131 (.pointer (some ⟨b, off, none⟩)) (.int .i64 (j : Int))).run prog w = .ok (.pointer (some ⟨b, off + j, none⟩)) w := by
 have e : (0 <= (j : Int) /\ (j : Int) < 16) := by omega
 simp [Instr.indexAt, Instr.sureAddr, asIntOf, run_underlying underlying131, Tryz.sizeOf4, Addr.add_mid, e, hj]
theorem agz (hj : j < 16) : (Instr.indexAt 132 (.pointer (some ⟨b, off, none⟩)) (.int .i64 (j : Int))).run prog w = .ok (.pointer (some ⟨b, off + j * 64, none⟩)) w := by
 have e : (0 <= (j : Int) /\ (j : Int) < 16) := by omega
 simp [Instr.indexAt, Instr.sureAddr, asIntOf, run_underlying underlying132, Tryz.sizeOf44, Addr.add_mid, e, hj]
theorem xj {ad : Addr} {u : Value} {n : Int} (h : w.cell? ad = some u) (hf : w.frozen? ad = false) : (Instr.storeAt 34 (.pointer (some ad)) (.int .u64 n)).run prog w = .ok () (w.setCell ad (.int .u64 n)) := by simp [go_sem, h, hf]
theorem qL (n : Int) : gV (lf0 n) = .int .i64 n :: (gV (lf0 0)).tail := by
 refine List.ext_getElem? fun i => ?_
 cases i with
 |zero => rw [jm _ (by omega)]; rfl
 |succ i =>
  rw [List.getElem?_cons_succ, List.getElem?_tail];by_cases hi : i + 1 < 1058
  ·rw [jm _ hi, jm _ hi]; unfold fF; rw [if_neg (show ¬ i + 1 = 0 by omega)]; rfl
  ·rw [List.getElem?_eq_none (by rw [gP]; omega), List.getElem?_eq_none (by rw [gP]; omega)]
theorem wY (n : Int) : (Instr.build 134 #[(0, .int .i64 n)]).run prog w = .ok (.agg (gV (lf0 n)).toArray) w := by
 have hz := fQ ahJ w;have h1 := db (place := fun i => (#[(0, 1), (1, 16), (17, 16), (33, 1024), (1057, 1)] : Array (Nat × Nat))[i]?) (i := 0) (off := 0) (size := 1) (v := .int .i64 n) (pre := []) (mid := [.int .i64 0]) (post := (gV (lf0 0)).tail) (vs := [.int .i64 n]) (rest := []) rfl rfl rfl rfl rfl;simp only [List.nil_append, List.append_nil, List.cons_append] at h1;rw [<- qL n, <- qL 0] at h1;have hc : (Value.agg (gV (lf0 0)).toArray).cells = (gV (lf0 0)).toArray := rfl;simp only [Instr.build, Sem.run_bind, hz, run_underlying underlying134, Result.andThen_ok, hc];refine Eq.trans (congrArg (fun r => Result.andThen r _) (?h : _ = Result.ok #[(0, 1), (1, 16), (17, 16), (33, 1024), (1057, 1)] w)) ?_
 case h => kernel_rfl
 simp only [Result.andThen_ok];have h4 : Instr.fill (fun i => (#[(0, 1), (1, 16), (17, 16), (33, 1024), (1057, 1)] : Array (Nat × Nat))[i]?) (gV (lf0 n)).toArray [] = some (gV (lf0 n)).toArray := by rw [Instr.fill]
 rw [h1.trans h4]
 rfl
theorem abm : (Instr.build 131 #[]).run prog w = .ok (.agg qi.toArray) w := by kernel_rfl
theorem wy (ho : o.op = .store 131 x y) (hx : ρ x = .pointer (some ⟨b, off, none⟩)) (hy : ρ y = .agg qi.toArray) (ht : w.there b off 16) : (execOp ρ o).run prog w = .ok .skip (w.setCells b off qi) :=
 fR yL (fun v hv => by simp [qi] at hv; subst hv; rfl) ho hx hy ht
end
def ml : Obj -> Prop
 |.cells _ t _ => t = 134
 |_ => False
section
variable {w w' : World} {p B : Nat} {x : LnF} {s : LnS}
theorem LnA.below (h : LnA w p x) (hb : Below w.heap.size w w') : LnA w' p x := aB h hb
theorem LnA.drew (h : LnA w p x) : LnA w.drew p x := h
end
theorem jv (w : World) {p : Nat} {x : LnF} (h : LnA w p x) : Calls prog 64 #[.pointer (some ⟨p, 0, none⟩)] w fun e w' => e = .returned (.int .i64 x.n) /\ w = w' := by
 have HL := ae h;clear h;go_enter func64, ntmps64;go_upto_region 1 with fail;refine aH 1 ?_;refine ajB (dc false underlying87 rfl ajL evk rfl) ?_;refine ah ?_;go_upto_region 3 with fail;refine aH 2 ?_;refine ajB (ax rfl ajL acH) ?_;refine ajB (aC rfl ajL (bY HL.out.cN)) ?_;refine aF 1 ?_;go_wp2_with fail;go_ret;exact ⟨rfl, rfl⟩
theorem sP (w : World) : Calls prog 64 #[.pointer none] w fun e w' => e = .returned (.int .i64 0) /\ w = w' := by
 go_enter func64, ntmps64;go_upto_region 1 with fail;refine aH 1 ?_;refine ajB (dc true underlying87 rfl ajL evk rfl) ?_;refine ah ?_;go_wp2_with fail;go_ret;exact ⟨rfl, rfl⟩
def NoL (w : World) (v : Value) : Prop := v = .pointer none \/ ∃ p, v = .pointer (some ⟨p, 0, none⟩) /\ LnA w p (lf0 0)
theorem NoL.below {w w' : World} {v : Value} (h : NoL w v) (hb : Below w.heap.size w w') : NoL w' v := by
 rcases h with h | ⟨p, h, h1⟩
 ·exact .inl h
 ·exact .inr ⟨p, h, h1.below hb⟩
theorem kP (w : World) {v : Value} (h : NoL w v) : Calls prog 64 #[v] w fun e w' => e = .returned (.int .i64 0) /\ w = w' := by
 rcases h with rfl | ⟨p, rfl, h⟩
 ·exact sP w
 ·exact jv w h
theorem rp (w : World) {v : Value} {n : Int} (t : Bool) (h : Calls prog 64 #[v] w fun e w' => e = .returned (.int .i64 n) /\ w = w') (ht : decide (0 < n) = t) : Calls prog 101 #[v] w fun e w' => e = .returned (.bool t) /\ w = w' := by
 have HC := ae h;have HT := ae ht;clear h ht;go_enter func101, ntmps101;go_upto_region 1 with fail;refine aH 1 ?_;refine aw rfl (aA call64 rfl (evc ajL evn)) ?_;refine (HC.out).mono ?_;rintro e w' ⟨rfl, rfl⟩;refine aQ ?_;refine ajB (dC t rfl ajL evk HT) ?_;refine aF 1 ?_;go_wp2_with fail;go_ret;exact ⟨rfl, rfl⟩
theorem aap (w : World) (v : Value) (m : Int) (h : NoL w v) : Calls prog 65 #[v, .int .i64 m] w fun e w' => e = .returned (.int .i64 1) /\ w = w' := by
 have HC := ae (rp w false (kP w h) (by decide));clear h;go_enter func65, ntmps65;go_upto_region 1 with fail;refine aH 1 ?_;refine aw rfl (aA call101 rfl (evc ajL evn)) ?_;refine (HC.out).mono ?_;rintro e w' ⟨rfl, rfl⟩;refine aQ ?_;refine aF 2 ?_;go_wp2_with fail;go_ret;exact ⟨rfl, rfl⟩
theorem ahH (w : World) (m : Int) {p : Nat} {s : LnS} (h : LnA w p (lf s)) (hs : dO s) : Calls prog 65 #[.pointer (some ⟨p, 0, none⟩), .int .i64 m] w fun e w' => e = .returned (.int .i64 (lnE s m)) /\ w = w' := by
 have HC := ae (rp w true (jv w h) (ao (by have := hs.lo; show (0 : Int) < (s.l.length : Int); omega)));have HL := ae h;clear h hs;go_enter func65, ntmps65;go_upto_region 1 with fail;refine aH 1 ?_;refine aw rfl (aA call101 rfl (evc ajL evn)) ?_;refine (HC.out).mono ?_;rintro e w' ⟨rfl, rfl⟩;refine aQ ?_;refine aF 2 ?_;go_upto_region 3 with fail;refine aH 1 ?_;by_cases h0 : m < 0
 ·have H0 : Hid (decide (m < 0) = true) := ae (ao h0);have HE : Hid (lnE s m = 2) := ae (px (by unfold lnR; rw [am (by omega)]; rfl));clear h0;refine ajB (aZ true rfl ajL evk H0) ?_;refine a6 6 rfl (aL rfl ajL) (by kernel_rfl) ?_;simp only [bH, ac, aa];refine aF 2 ?_;go_wp2_with fail;go_ret;exact ⟨by rw [HE.out]; rfl, rfl⟩
 have H0 : Hid (decide (m < 0) = false) := ae (am h0);refine ajB (aZ false rfl ajL evk H0) ?_;refine runs 3 ?_;refine runs 1 ?_;refine ajI (ax rfl ajL acH) ?_;refine ajI (aC rfl ajL (bY HL.out.cN)) ?_;by_cases h1 : (s.l.length : Int) <= m
 ·have H1 : Hid (decide ((s.l.length : Int) <= m) = true) := ae (ao h1);have HE : Hid (lnE s m = 2) := ae (px (by unfold lnR; rw [am (p := m < (s.l.length : Int)) (by omega), Bool.and_false]));clear h0 h1;refine ajI (dv true rfl ajL ajL H1) ?_;refine aF 2 ?_;go_wp2_with fail;go_ret;exact ⟨by rw [HE.out]; rfl, rfl⟩
 have H1 : Hid (decide ((s.l.length : Int) <= m) = false) := ae (am h1);have HE : Hid (lnE s m = 0) := ae (by unfold lnE lnR; rw [ao (p := 0 <= m) (by omega), ao (p := m < (s.l.length : Int)) (by omega)]; rfl);clear h0 h1;refine ajI (dv false rfl ajL ajL H1) ?_;refine aF 2 ?_;go_wp2_with fail;go_ret;exact ⟨by rw [HE.out]; rfl, rfl⟩
theorem i1 (w : World) {m e : Int} {p : Nat} {s : LnS} (h : LnA w p (lf s)) (hs : dO s) (he : lnE s m = e) : Calls prog 65 #[.pointer (some ⟨p, 0, none⟩), .int .i64 m] w fun a w' => a = .returned (.int .i64 e) /\ w = w' := by
 subst he; exact ahH w m h hs
theorem xI (N : Nat) (w : World) (h1 : 1 <= N) (h2 : N <= 16) : Calls prog 86 #[.int .i64 (N : Int)] w fun e w' => ∃ p, e = .returned (.tuple #[.pointer (some ⟨p, 0, none⟩), .int .i64 0]) /\ (LnA w' p (lf (dS N)) /\ w.heap.size <= p) /\ Below w.heap.size w w' := by
 have H0 : Hid (decide ((N : Int) < 1) = false) := ae (am (by omega));have H1 : Hid (decide ((16 : Int) < (N : Int)) = false) := ae (am (by omega));clear h1 h2;go_enter func86, ntmps86;go_upto_region 1 with fail;refine aH 1 ?_;refine ajB (aZ false rfl ajL evk H0) ?_;refine runs 2 ?_;refine ajI (dC false rfl ajL evk H1) ?_;refine aF 1 ?_;go_upto_region 3 with fail;refine aH 1 ?_;refine ajB (je rfl ajL (wY _)) ?_;refine ajB (cw (cs := gV (lf0 (N : Int))) rfl ajL) ?_;refine aF 2 ?_;go_wp2_with fail;go_ret2;refine ⟨_, rfl, ⟨?_, aj⟩, ak.alloc aj _⟩;rw [agy];exact heap_alloc_new w _
def PLn (w : World) (B p : Nat) (s : LnS) : Prop := LnA w p (lf s) /\ B <= p /\ dO s
theorem wJ {s : LnS} {k Q : Nat} (b : Blk) (hk : k < s.l.length) (hq : Q ≠ 0) : lf (eg s (k : Int) b Q) = { lf s with kn := gB (lf s).kn k true, bl := gB (lf s).bl k b, dt := gB (lf s).dt k true, f := (rE s.f Q : Nat) } := by
 rw [pQ hk hq, acJ hk]; rfl
theorem agB {s : LnS} {k : Nat} (hk : k < s.l.length) : lf (fN s (k : Int)) = { lf s with kn := gB (lf s).kn k false, dt := gB (lf s).dt k false, bl := gB (lf s).bl k aI } := by
 rw [acg hk, acJ hk]; rfl
theorem agd (w : World) (m : Int) {B p : Nat} {s : LnS} (h : PLn w B p s) : Calls prog 32 #[.pointer (some ⟨p, 0, none⟩), .int .i64 m] w fun e w' => e = .returned (.tuple #[blk (lnG s m).b, .bool (lnG s m).kn]) /\ Below w.heap.size w w' := by
 obtain ⟨h, hB, hs⟩ := h;have HB1 : Hid (Below w.heap.size w (w.alloc (.cells (cel aI).toArray 44))) := ae (ak.alloc aj _);have HL : Hid (LnA (w.alloc (.cells (cel aI).toArray 44)) p (lf s)) := ae (h.below HB1);have HT := ae (fq w aI 44);have HNE : Hid (p ≠ w.heap.size) := ae (by have := h.lt; omega);have HS := ae hs;clear h hB hs;go_enter func32, ntmps32;go_upto_region 0 with fail;refine af ?_;refine ajB (bW rfl) ?_;refine aF 1 ?_;generalize w.alloc (.cells (cel aI).toArray 44) = w1 at *;cases hr : lnR s m
 ·have HE := ae (px hr);have HR := ae hr;clear hr;go_upto_region 1 with fail;refine aH 2 ?_;refine aw rfl (aA call65 rfl (evc ajL (evc ajL evn))) ?_;refine (i1 _ HL HS HE).mono ?_;rintro e w' ⟨rfl, rfl⟩;refine aQ ?_;refine ajB (aJ true rfl ajL evk rfl) ?_;refine ah ?_;go_upto_region 2 with fail;refine af ?_;refine ajB (dn (c := aI) (parts := []) rfl rfl) ?_;refine aG rfl (bP rfl (ev rfl) (ev rfl) HT.out) ?_;simp only [aa];refine aF 1 ?_;go_wp2_with fail;exact bodyPost_ret (du rfl _ _ _ rfl (World.rangeAt_setCells_same _ _ _ _ (by rw [aM]; exact HT))) rfl ⟨by rw [agn HR.out]; rfl, below_setCells HB1 aj _⟩
 obtain ⟨k, rfl, hk⟩ := kx hr;have HE := ae (xd hk);have HKL := ae hk;have HK : Hid (k < 16) := ae (ar hk HS.out.hi);clear hr hk;go_upto_region 1 with fail;refine aH 2 ?_;refine aw rfl (aA call65 rfl (evc ajL (evc ajL evn))) ?_;refine (i1 _ HL HS HE).mono ?_;rintro e w' ⟨rfl, rfl⟩;refine aQ ?_;refine ajB (aJ false rfl ajL evk rfl) ?_;refine ah ?_;have HS1 : Hid (LnA (World.drew w1) p (lf s) /\ (World.drew w1).there w.heap.size 0 64) := ae ⟨HL.out.drew, there_drew HT⟩;have HW2 : Hid (LnA ((World.drew w1).setCells w.heap.size 0 (cel (cW s k).b)) p (lf s)) := ae (by
  show _ = _
  rw [eP w.heap.size _ _ _ p HNE.out];exact HL.out.drew)
 have HT2 : Hid (((World.drew w1).setCells w.heap.size 0 (cel (cW s k).b)).there w.heap.size 0 64) := ae (aab (there_drew HT));have HR2 : Hid (((World.drew w1).setCells w.heap.size 0 (cel (cW s k).b)).rangeAt w.heap.size 0 (cel (cW s k).b)) := ae (World.rangeAt_setCells_same _ _ _ _ (by rw [aM]; exact there_drew HT));have HB2 : Hid (Below w.heap.size w ((World.drew w1).setCells w.heap.size 0 (cel (cW s k).b))) := ae (below_setCells HB1.out.drew aj _);go_upto_region 3 with fail;refine wp_region_held (S := fun w' => LnA w' p (lf s) /\ w'.there w.heap.size 0 64) (by kernel_rfl) ?_;change wpAnyH _ _ _ _ _ 14 _ _ w1.drew;refine ajY 0 rfl HS1 ?_;refine ajY 1 rfl HS1 ?_;refine aj0 2 rfl HS1 ?_;refine ajE 3 rfl (fun _ hw => ax rfl ajL wF) HS1 ?_;refine ajE 4 rfl (fun _ hw => cO rfl ajL ajL (agz HK)) HS1 ?_;refine ajE 5 rfl (fun _ hw => bJ (c := (cW s k).b) rfl ajL (hw.1.cB HK)) HS1 ?_;refine ajY 6 rfl HS1 ?_;refine ajY 7 rfl HS1 ?_;refine aj0 8 rfl HS1 ?_;refine ajE 9 rfl (fun _ hw => ax rfl ajL vZ) HS1 ?_;refine ajE 10 rfl (fun _ hw => cO rfl ajL ajL (vt HK)) HS1 ?_;refine ajE 11 rfl (fun _ hw => aC rfl ajL (ac7 (hw.1.cK HK))) HS1 ?_;refine dU 12 rfl (by kernel_rfl) rfl (bP rfl (ev rfl) (ev rfl) (there_drew HT.out)) ⟨HW2.out, HT2.out⟩ ?_;simp only [Act.put];generalize (World.drew w1).setCells w.heap.size 0 (cel (cW s k).b) = w2 at *;refine ajZ 13 rfl ⟨HW2, HT2⟩ ?_;refine wpAnyH_done (by kernel_rfl) ?_ _;go_wp2_with fail;exact bodyPost_ret (du rfl _ _ _ rfl HR2) rfl ⟨by rw [ahC HKL.out]; rfl, HB2⟩
theorem abR (w : World) {B p : Nat} {s : LnS} (h : PLn w B p s) : Calls prog 31 #[.pointer (some ⟨p, 0, none⟩)] w fun e w' => ∃ v, e = .returned v /\ aO bN w' w.heap.size v (lnD s) /\ Below w.heap.size w w' := by
 obtain ⟨h, hB, hs⟩ := h;have HH := ae h;have HN : Hid (s.l.length <= 16) := ae hs.hi;have HC := ae (jv w h);clear h hB hs;go_enter func31, ntmps31;go_upto_region 2 with fail;refine aH 1 ?_;refine aw rfl (aA call64 rfl (evc ajL evn)) ?_;refine (HC.out).mono ?_;rintro e w' ⟨rfl, rfl⟩;refine aQ ?_;refine aF 1 ?_;go_wp2_with fail
 go_loopw [3, 7] (fun z c wr => ∃ i : Nat, c = .int .i64 i /\ i <= s.l.length /\ aO bN wr w.heap.size z (gC s.l i) /\ Below w.heap.size w wr) (fun _ c _ => s.l.length - (intOf c).toNat)
 case atStart => exact ⟨0, by go_num, Nat.zero_le _, aO.nil _ _, ak⟩
 case round =>
  obtain ⟨i, rfl, hi, hm, hb⟩ := hrel;have HM := ae hm;have HW := ae hb;have HL := ae (HH.out.below hb);have HBS : Hid (w.heap.size <= wr.heap.size) := ae hb.size;by_cases hlt : i < s.l.length
  ·have HI := ae hlt;have HK : Hid (i < 16) := ae (by have := HN.out; omega);have HT : Hid (decide ((i : Int) < (s.l.length : Int)) = true) := ae (ao (by omega));have HA : Hid (IntKind.i64.wrap ((i : Int) + 1) = ((i + 1 : Nat) : Int)) := ae (by have := HN.out; rw [aiW ⟨by omega, by omega⟩]; omega);clear hm hb hi hlt;go_upto_region 3 with fail;refine af ?_;refine ajB (aZ true rfl ajL ajL HT) ?_;refine ah ?_;go_upto_region 4 with fail;refine bU 2 ?_;cases hd : (cW s i).dt
   ·have HD := ae hd;have HST : Hid (gC s.l (i + 1) = gC s.l i) := ae (by rw [gC, show (s.l.getD i lc0).dt = false from HD.out]; simp);clear hd;go_upto_region 5 with fail;refine aH 3 ?_;refine ajB (ax rfl ajL pK) ?_;refine ajB (cO rfl ajL ajL (vt HK)) ?_;refine ajB (aC rfl ajL (ac7 ((HL.out.cD HK.out).trans (congrArg (fun t => some (Value.bool t)) HD)))) ?_;refine ah ?_;go_upto_region 7 with fail;refine af ?_;refine ajB (bL rfl ajL evk HA) ?_;refine aF 1 ?_;go_wp2_with fail;go_roundw
    case rel => exact ⟨i + 1, by go_num, HI, by rw [HST.out]; exact HM, HW⟩
    case measure => have := HI.out; simp [intOf]; omega
   have HD := ae hd;have HST : Hid (gC s.l (i + 1) = gC s.l i ++ [(i : Int)]) := ae (by rw [gC, show (s.l.getD i lc0).dt = true from HD.out]; rfl);have hsz : (wr.alloc (.cells #[.int .i64 (i : Int)] 3)).heap.size = wr.heap.size + 1 := al;obtain ⟨v2, w2, hrun, hm2, hg2⟩ := ge bN (wr.alloc (.cells #[.int .i64 (i : Int)] 3)) 35 w.heap.size (wr.heap.size + 1) 1 1 u3 (gC s.l i) [(i : Int)] (some ⟨wr.heap.size, 0, none⟩) (aO.below HM (ak.alloc aj _)) (fI (E := bN) (l := [(i : Int)]) wr #[.int .i64 (i : Int)] 3 rfl) (by have := HBS.out; omega) (by have := yg s.l i; have := HI.out; have := HN.out; simp; omega);have HRUN := ae hrun;have HM2 : Hid (aO bN w2 w.heap.size v2 (gC s.l (i + 1))) := ae (by rw [HST.out]; exact hm2);have HW2 : Hid (Below w.heap.size w w2) := ae ((HW.out.trans (ak.alloc HBS _)).grown hg2 (by have := HBS.out; omega) (fun j' hj' => HM.out.gW j' hj'));clear hd hsz hrun hm2 hg2;go_upto_region 5 with fail;refine aH 3 ?_;refine ajB (ax rfl ajL pK) ?_;refine ajB (cO rfl ajL ajL (vt HK)) ?_;refine ajB (aC rfl ajL (ac7 ((HL.out.cD HK.out).trans (congrArg (fun t => some (Value.bool t)) HD)))) ?_;refine ah ?_;go_upto_region 6 with fail;refine aH 2 ?_;refine ajB (el (E := bN) (a := (i : Int)) rfl ajL rfl (by decide)) ?_;refine ajB (gI (E := bN) rfl ajL ajL HRUN) ?_;refine aF 1 ?_;go_upto_region 7 with fail;refine af ?_;refine ajB (bL rfl ajL evk HA) ?_;refine aF 1 ?_;go_wp2_with fail;go_roundw
   case rel => exact ⟨i + 1, by go_num, HI, HM2, HW2⟩
   case measure => have := HI.out; simp [intOf]; omega
  have hin : i = s.l.length := by omega
  subst hin;have HT : Hid (decide ((s.l.length : Int) < (s.l.length : Int)) = false) := ae (am (by omega));clear hlt hi hm hb;go_upto_region 3 with fail;refine af ?_;refine ajB (aZ false rfl ajL ajL HT) ?_;refine ah ?_;go_wp2_with fail;go_ret;exact ⟨_, rfl, HM, HW⟩
theorem ahj (w : World) (v : Value) (m : Int) (h : NoL w v) : Calls prog 32 #[v, .int .i64 m] w fun e w' => e = .returned (.tuple #[blk aI, .bool false]) /\ Below w.heap.size w w' := by
 have HB1 : Hid (Below w.heap.size w (w.alloc (.cells (cel aI).toArray 44))) := ae (ak.alloc aj _);have HN := ae (h.below HB1);have HT := ae (fq w aI 44);clear h;go_enter func32, ntmps32;go_upto_region 0 with fail;refine af ?_;refine ajB (bW rfl) ?_;refine aF 1 ?_;generalize w.alloc (.cells (cel aI).toArray 44) = w1 at *;go_upto_region 1 with fail;refine aH 2 ?_;refine aw rfl (aA call65 rfl (evc ajL (evc ajL evn))) ?_;refine (aap _ _ m HN).mono ?_;rintro e w' ⟨rfl, rfl⟩;refine aQ ?_;refine ajB (aJ true rfl ajL evk rfl) ?_;refine ah ?_;go_upto_region 2 with fail;refine af ?_;refine ajB (dn (c := aI) (parts := []) rfl rfl) ?_;refine aG rfl (bP rfl (ev rfl) (ev rfl) HT.out) ?_;simp only [aa];refine aF 1 ?_;go_wp2_with fail;exact bodyPost_ret (du rfl _ _ _ rfl (World.rangeAt_setCells_same _ _ _ _ (by rw [aM]; exact HT))) rfl ⟨rfl, below_setCells HB1 aj _⟩
theorem aav (w : World) (v : Value) (h : NoL w v) : Calls prog 31 #[v] w fun e w' => e = .returned (.slice none 0 0) /\ Below w.heap.size w w' := by
 have HC := ae (kP w h);clear h;go_enter func31, ntmps31;go_upto_region 2 with fail;refine aH 1 ?_;refine aw rfl (aA call64 rfl (evc ajL evn)) ?_;refine (HC.out).mono ?_;rintro e w' ⟨rfl, rfl⟩;refine aQ ?_;refine aF 1 ?_;go_wp2_with fail
 go_loopw [3, 7] (fun z c wr => c = .int .i64 0 /\ z = .slice none 0 0 /\ w = wr) (fun _ c _ => 0)
 case atStart => exact ⟨by first | rfl | trivial, by first | rfl | trivial, by first | rfl | trivial⟩
 case round =>
  obtain ⟨rfl, rfl, rfl⟩ := hrel;go_upto_region 3 with fail;refine af ?_;refine ajB (aZ false rfl ajL ajL rfl) ?_;refine ah ?_;go_wp2_with fail;go_ret;exact ⟨rfl, ak⟩
theorem bS.setCells {I : Obj -> Prop} {F : Nat -> Prop} {w w1 : World} {p : Nat} {ob : Obj} (h : bS I F w w1) (hF : F p) (ho : w1.heap[p]? = some ob) (hI : ∀ cs t fr, ob = .cells cs t fr -> I ob) (hc : I ob) (o : Nat) (vs : List Value) : bS I F w (w1.setCells p o vs) :=
 h.trans (Only.setCells (Only.refl _ _) (.inl ⟨hF, fun o2 ho2 => by rw [ho] at ho2; cases ho2; exact hc⟩) vs o)
def qj (w : World) (B : Nat -> Prop) (p : Nat) (s : LnS) : Prop := LnA w p (lf s) /\ B p /\ dO s
section
variable {B : Nat -> Prop} {w : World} {p : Nat} {x : LnF}
theorem LnA.t1F {w0 : World} (h : LnA w p x) (ht : bS ml B w0 w) (hB : B p) (j : Nat) (u : Value) : bS ml B w0 (w.setCell ⟨p, j, none⟩ u) := ht.setCell (p := ⟨p, j, none⟩) hB h rfl u
theorem LnA.tnF {w0 : World} (h : LnA w p x) (ht : bS ml B w0 w) (hB : B p) (o : Nat) (vs : List Value) : bS ml B w0 (w.setCells p o vs) := ht.setCells hB h (fun _ _ _ _ => rfl) rfl o vs
end
theorem aaQ (w : World) (k : Nat) (b : Blk) {B : Nat -> Prop} {p : Nat} {x : LnF} (h : LnA w p x) (hk : k < 16) (hB : B p) : Calls prog 87 #[.pointer (some ⟨p, 0, none⟩), .int .i64 (k : Int), blk b] w fun e w' => e = .returned (.tuple #[]) /\ LnA w' p { x with kn := gB x.kn k true, bl := gB x.bl k b } /\ bS ml B w w' := by
 have HK := ae hk;have hne : w.heap.size ≠ p := by have := h.lt; omega
 have HB1 : Hid (Below w.heap.size w (w.alloc (.cells (cel b).toArray 44))) := ae (ak.alloc aj _);have HL : Hid (LnA (w.alloc (.cells (cel b).toArray 44)) p x) := ae (h.below HB1);have HX : Hid ((w.alloc (.cells (cel b).toArray 44)).rangeAt w.heap.size 0 (cel b)) := ae (dK w (cel b) _);have HNE := ae hne;have HBp := ae hB;clear h hk hne hB;go_enter func87, ntmps87;go_upto_region 0 with fail;refine af ?_;refine ajB (cP rfl ajL) ?_;refine ah ?_;generalize w.alloc (.cells (cel b).toArray 44) = w1 at *;have HXd : Hid ((World.drew w1).rangeAt w.heap.size 0 (cel b)) := ae HX;have HX2 : Hid (((World.drew w1).setCell ⟨p, 1 + k, none⟩ (.bool true)).rangeAt w.heap.size 0 (cel b)) := ae (World.rangeAt_setCells_apart HXd p (1 + k) [.bool true] (.inl HNE));have HL2 : Hid (LnA ((World.drew w1).setCell ⟨p, 1 + k, none⟩ (.bool true)) p { x with kn := gB x.kn k true }) := ae (HL.out.drew.sK HK true);have HT2 : Hid (bS ml B w ((World.drew w1).setCell ⟨p, 1 + k, none⟩ (.bool true))) := ae (HL.out.drew.t1F (bS.of_below HB1).drew HBp _ _);have HC2 := ae (HL.out.drew.cK HK);have HF2 := ae (HL.out.drew.fz (1 + k));go_upto_region 1 with fail;refine wp_region_held (S := fun w' => w'.rangeAt w.heap.size 0 (cel b)) (by kernel_rfl) ?_;change wpAnyH _ _ _ _ _ 13 _ _ w1.drew;refine ajY 0 rfl HXd ?_;refine ajY 1 rfl HXd ?_;refine ajY 2 rfl HXd ?_;refine ajY 3 rfl HXd ?_;refine ajE 4 rfl (fun _ hw => bJ rfl ajL hw) HXd ?_;refine aj0 5 rfl HXd ?_;refine ajE 6 rfl (fun _ hw => ax rfl ajL vZ) HXd ?_;refine ajE 7 rfl (fun _ hw => cO rfl ajL ajL (vt HK)) HXd ?_;refine aj0 9 rfl HXd ?_;refine ajE 10 rfl (fun _ hw => ax rfl ajL wF) HXd ?_;refine dU 8 rfl (by kernel_rfl) rfl (c7 rfl (ev rfl) evk (xB HC2.out HF2.out)) HX2.out ?_;simp only [Act.put];generalize (World.drew w1).setCell ⟨p, 1 + k, none⟩ (.bool true) = w2 at *;have HTH := ae (HL2.out.there (o := 33 + k * 64) (m := 64) (by have := HK.out; omega));have HX3 : Hid ((w2.setCells p (33 + k * 64) (cel b)).rangeAt w.heap.size 0 (cel b)) := ae (World.rangeAt_setCells_apart HX2 p _ _ (.inl HNE));have HL3 : Hid (LnA (w2.setCells p (33 + k * 64) (cel b)) p { x with kn := gB x.kn k true, bl := gB x.bl k b }) := ae (HL2.out.sB HK b);have HT3 : Hid (bS ml B w (w2.setCells p (33 + k * 64) (cel b))) := ae (HL2.out.tnF HT2 HBp _ _);refine ajE 11 rfl (fun _ hw => cO rfl ajL ajL (agz HK)) HX2 ?_;refine dU 12 rfl (by kernel_rfl) rfl (bP rfl (ev rfl) (ev rfl) HTH.out) HX3.out ?_;simp only [Act.put];generalize w2.setCells p (33 + k * 64) (cel b) = w3 at *;refine wpAnyH_done (by kernel_rfl) ?_ _;go_wp2_with fail;exact bodyPost_end (results_none rfl _ _ _) rfl ⟨rfl, HL3, HT3⟩
theorem aeH (w : World) (m : Int) (b : Blk) (Q : Nat) {B : Nat -> Prop} {p : Nat} {s : LnS} (h : qj w B p s) (hQ : Q < 18446744073709551616) : Calls prog 54 #[.pointer (some ⟨p, 0, none⟩), .int .i64 m, blk b, .int .u64 (Q : Int)] w fun e w' => e = .returned (.int .i64 (qh s m Q)) /\ qj w' B p (eg s m b Q) /\ bS ml B w w' := by
 obtain ⟨h, hB, hs⟩ := h;have HQ := ae hQ;clear hQ;have HB1 : Hid (Below w.heap.size w (w.alloc (.cells (cel b).toArray 44))) := ae (ak.alloc aj _);have HL : Hid (LnA (w.alloc (.cells (cel b).toArray 44)) p (lf s)) := ae (h.below HB1);have HX : Hid ((w.alloc (.cells (cel b).toArray 44)).rangeAt w.heap.size 0 (cel b)) := ae (dK w (cel b) _);have HBp := ae hB;have HS := ae hs;clear h hB hs;go_enter func54, ntmps54;go_upto_region 0 with fail;refine af ?_;refine ajB (cP rfl ajL) ?_;refine aF 1 ?_;generalize w.alloc (.cells (cel b).toArray 44) = w1 at *;cases hr : lnR s m
 ·have HE := ae (px hr);have HR := ae hr;clear hr;go_upto_region 1 with fail;refine aH 2 ?_;refine aw rfl (aA call65 rfl (evc ajL (evc ajL evn))) ?_;refine (i1 _ HL HS HE).mono ?_;rintro e w' ⟨rfl, rfl⟩;refine aQ ?_;refine aF 1 ?_;go_upto_region 2 with fail;refine aH 1 ?_;refine ajB (aJ true rfl ajL evk rfl) ?_;refine ah ?_;go_wp2_with fail;go_ret;exact ⟨by rw [afb HR.out]; rfl, by rw [abc HR.out]; exact ⟨HL, HBp, HS⟩, bS.of_below HB1⟩
 obtain ⟨k, rfl, hk⟩ := kx hr;have HE := ae (xd hk);have HKL := ae hk;have HK : Hid (k < 16) := ae (ar hk HS.out.hi);clear hr hk;go_upto_region 1 with fail;refine aH 2 ?_;refine aw rfl (aA call65 rfl (evc ajL (evc ajL evn))) ?_;refine (i1 _ HL HS HE).mono ?_;rintro e w' ⟨rfl, rfl⟩;refine aQ ?_;refine aF 1 ?_;go_upto_region 2 with fail;refine aH 1 ?_;refine ajB (aJ false rfl ajL evk rfl) ?_;refine ah ?_;by_cases hq0 : Q = 0
 ·subst hq0;have HZ : Hid ((((0 : Nat) : Int) == 0) = true) := ae rfl;go_upto_region 4 with fail;refine aH 1 ?_;refine ajB (aE true rfl ajL evk HZ) ?_;refine ah ?_;go_wp2_with fail;go_ret;exact ⟨by rw [ag1]; rfl, by rw [aev]; exact ⟨HL, HBp, HS⟩, bS.of_below HB1⟩
 have HZ : Hid (((Q : Int) == 0) = false) := ae (au (by omega));have HQ0 := ae hq0;clear hq0;go_upto_region 4 with fail;refine aH 1 ?_;refine ajB (aE false rfl ajL evk HZ) ?_;refine ah ?_;go_upto_region 6 with fail;refine aH 2 ?_;refine ajB (bJ rfl ajL HX) ?_;refine aw rfl (aA call87 rfl (evc ajL (evc ajL (evc ajL evn)))) ?_;refine (aaQ _ k b HL HK HBp).mono ?_;rintro e w2 ⟨rfl, h2, t2⟩;have HL2 := ae h2;have HT2 := ae ((bS.of_below HB1).trans t2);clear h2 t2;refine aQ ?_;refine ah ?_;have HC2 := ae (HL2.out.cD HK);have HF2 := ae (HL2.out.fz (17 + k));have HL3 := ae (HL2.out.sD HK true);have HT3 := ae (HL2.out.t1F HT2 HBp (17 + k) (.bool true));go_upto_region 7 with fail;refine aH 3 ?_;refine ajB (ax rfl ajL pK) ?_;refine ajB (cO rfl ajL ajL (vt HK)) ?_;refine aG rfl (c7 rfl (ev rfl) evk (xB HC2.out HF2.out)) ?_;simp only [aa];generalize w2.setCell ⟨p, 17 + k, none⟩ (.bool true) = w3 at *;refine ah ?_;have HC3 : Hid (w3.cell? ⟨p, 1057, none⟩ = some (.int .u64 (s.f : Int))) := ae HL3.out.cF;have HF3 := ae (HL3.out.fz 1057);have HL4 := ae (HL3.out.sF (Q : Int));have HT4 := ae (HL3.out.t1F HT3 HBp 1057 (.int .u64 (Q : Int)));have HSE : Hid (qh s (k : Int) Q = 0) := ae (xY HKL HQ0);have HOK : Hid (dO (eg s (k : Int) b Q)) := ae (HS.out.set _ _ HQ);go_upto_region 8 with fail;refine aH 2 ?_;refine ajB (ax rfl ajL nR) ?_;refine ajB (aC rfl ajL (lT HC3)) ?_;by_cases hf : s.f = 0
 ·have HZf : Hid (((s.f : Int) == 0) = true) := ae (beq_iff_eq.2 (by omega));have HM : Hid (rE s.f Q = Q) := ae (if_pos (.inl hf));clear hf;refine ajB (aE true rfl ajL evk HZf) ?_;refine a6 6 rfl (aL rfl ajL) (by kernel_rfl) ?_;simp only [bH, ac, aa];refine aF 1 ?_;go_upto_region 9 with fail;refine aH 3 ?_;refine ajB (ax rfl ajL nR) ?_;refine aG rfl (c7 rfl (ev rfl) (ev rfl) (xj HC3.out HF3.out)) ?_;simp only [aa];generalize w3.setCell ⟨p, 1057, none⟩ (.int .u64 (Q : Int)) = w4 at *;refine ah ?_;go_wp2_with fail;go_ret;exact ⟨by rw [HSE.out]; rfl, ⟨by rw [wJ b HKL.out HQ0.out, HM.out]; exact HL4, HBp, HOK⟩, HT4⟩
 have HZf : Hid (((s.f : Int) == 0) = false) := ae (au (by omega));refine ajB (aE false rfl ajL evk HZf) ?_;refine runs 3 ?_;refine runs 1 ?_;refine ajI (ax rfl ajL nR) ?_;refine ajI (aC rfl ajL (lT HC3)) ?_;by_cases hl : Q < s.f
 ·have HLS : Hid (decide ((Q : Int) < (s.f : Int)) = true) := ae (ao (by omega));have HM : Hid (rE s.f Q = Q) := ae (if_pos (.inr hl));clear hf hl;refine ajI (aZ true rfl ajL ajL HLS) ?_;refine aF 1 ?_;go_upto_region 9 with fail;refine aH 3 ?_;refine ajB (ax rfl ajL nR) ?_;refine aG rfl (c7 rfl (ev rfl) (ev rfl) (xj HC3.out HF3.out)) ?_;simp only [aa];generalize w3.setCell ⟨p, 1057, none⟩ (.int .u64 (Q : Int)) = w4 at *;refine ah ?_;go_wp2_with fail;go_ret;exact ⟨by rw [HSE.out]; rfl, ⟨by rw [wJ b HKL.out HQ0.out, HM.out]; exact HL4, HBp, HOK⟩, HT4⟩
 have HLS : Hid (decide ((Q : Int) < (s.f : Int)) = false) := ae (am (by omega));have HM : Hid (rE s.f Q = s.f) := ae (if_neg (by omega));clear hf hl;refine ajI (aZ false rfl ajL ajL HLS) ?_;refine aF 1 ?_;go_wp2_with fail;go_ret;exact ⟨by rw [HSE.out]; rfl, ⟨by rw [wJ b HKL.out HQ0.out, HM.out]; exact HL3, HBp, HOK⟩, HT3⟩
theorem wU (w : World) (m : Int) {B : Nat -> Prop} {p : Nat} {s : LnS} (h : qj w B p s) : Calls prog 57 #[.pointer (some ⟨p, 0, none⟩), .int .i64 m] w fun e w' => e = .returned (.int .i64 (lnE s m)) /\ qj w' B p (fN s m) /\ bS ml B w w' := by
 obtain ⟨h, hB, hs⟩ := h;have HL := ae h;have HBp := ae hB;have HS := ae hs;clear h hB hs;go_enter func57, ntmps57;cases hr : lnR s m
 ·have HE := ae (px hr);have HR := ae hr;clear hr;go_upto_region 1 with fail;refine aH 2 ?_;refine aw rfl (aA call65 rfl (evc ajL (evc ajL evn))) ?_;refine (i1 _ HL HS HE).mono ?_;rintro e w' ⟨rfl, rfl⟩;refine aQ ?_;refine aF 1 ?_;go_upto_region 2 with fail;refine aH 1 ?_;refine ajB (aJ true rfl ajL evk rfl) ?_;refine ah ?_;go_wp2_with fail;go_ret;exact ⟨by rw [HE.out]; rfl, by rw [acn HR.out]; exact ⟨HL, HBp, HS⟩, bS.refl _ _ _⟩
 obtain ⟨k, rfl, hk⟩ := kx hr;have HE := ae (xd hk);have HKL := ae hk;have HK : Hid (k < 16) := ae (ar hk HS.out.hi);clear hr hk;go_upto_region 1 with fail;refine aH 2 ?_;refine aw rfl (aA call65 rfl (evc ajL (evc ajL evn))) ?_;refine (i1 _ HL HS HE).mono ?_;rintro e w' ⟨rfl, rfl⟩;refine aQ ?_;refine aF 1 ?_;go_upto_region 2 with fail;refine aH 1 ?_;refine ajB (aJ false rfl ajL evk rfl) ?_;refine ah ?_;have HC0 := ae (HL.out.drew.cK HK);have HF0 := ae (HL.out.drew.fz (1 + k));have HL1 := ae (HL.out.drew.sK HK false);have HT1 := ae (HL.out.drew.t1F (bS.refl ml B w).drew HBp (1 + k) (.bool false));go_upto_region 4 with fail;refine wp_region_held (S := fun _ => True) (by kernel_rfl) ?_;change wpAnyH _ _ _ _ _ 19 _ _ w.drew;refine ajY 0 rfl trivial ?_;refine ajY 1 rfl trivial ?_;refine ajY 2 rfl trivial ?_;refine ajY 3 rfl trivial ?_;refine ajY 4 rfl trivial ?_;refine ajY 5 rfl trivial ?_;refine ajE 6 rfl (fun _ hw => dn (c := aI) (parts := []) rfl rfl) trivial ?_;refine aj0 7 rfl trivial ?_;refine ajE 8 rfl (fun _ hw => ax rfl ajL vZ) trivial ?_;refine aj0 11 rfl trivial ?_;refine ajE 12 rfl (fun _ hw => ax rfl ajL pK) trivial ?_;refine aj0 15 rfl trivial ?_;refine ajE 16 rfl (fun _ hw => ax rfl ajL wF) trivial ?_;refine ajE 9 rfl (fun _ hw => cO rfl ajL ajL (vt HK)) trivial ?_;refine dU 10 rfl (by kernel_rfl) rfl (c7 rfl (ev rfl) evk (xB HC0.out HF0.out)) trivial ?_;simp only [Act.put];generalize (World.drew w).setCell ⟨p, 1 + k, none⟩ (.bool false) = w1 at *;have HC1 := ae (HL1.out.cD HK);have HF1 := ae (HL1.out.fz (17 + k));have HL2 := ae (HL1.out.sD HK false);have HT2 := ae (HL1.out.t1F HT1 HBp (17 + k) (.bool false));refine ajE 13 rfl (fun _ hw => cO rfl ajL ajL (vt HK)) trivial ?_;refine dU 14 rfl (by kernel_rfl) rfl (c7 rfl (ev rfl) evk (xB HC1.out HF1.out)) trivial ?_;simp only [Act.put];generalize w1.setCell ⟨p, 17 + k, none⟩ (.bool false) = w2 at *;have HTH := ae (HL2.out.there (o := 33 + k * 64) (m := 64) (by have := HK.out; omega));have HL3 := ae (HL2.out.sB HK aI);have HT3 := ae (HL2.out.tnF HT2 HBp (33 + k * 64) (cel aI));refine ajE 17 rfl (fun _ hw => cO rfl ajL ajL (agz HK)) trivial ?_;refine dU 18 rfl (by kernel_rfl) rfl (bP rfl (ev rfl) (ev rfl) HTH.out) trivial ?_;simp only [Act.put];generalize w2.setCells p (33 + k * 64) (cel aI) = w3 at *;refine wpAnyH_done (by kernel_rfl) ?_ _;go_wp2_with fail;go_ret;exact ⟨by rw [HE.out]; rfl, ⟨by rw [agB HKL.out]; exact HL3, HBp, HS.out.frg _⟩, HT3⟩
theorem yR (w : World) {B : Nat -> Prop} {p : Nat} {s : LnS} (h : qj w B p s) : Calls prog 77 #[.pointer (some ⟨p, 0, none⟩)] w fun e w' => e = .returned (.int .i64 0) /\ qj w' B p (fL s) /\ bS ml B w w' := by
 obtain ⟨h, hB, hs⟩ := h;have HC := ae (rp w true (jv w h) (ao (by have := hs.lo; show (0 : Int) < (s.l.length : Int); omega)));have HL := ae h;have HBp := ae hB;have HS := ae hs;have HTH := ae (h.there (o := 17) (m := 16) (by omega));have HL1 := ae h.sD0;have HT1 := ae (h.tnF (bS.refl ml B w) hB 17 qi);clear h hB hs;go_enter func77, ntmps77;go_upto_region 1 with fail;refine aH 1 ?_;refine aw rfl (aA call101 rfl (evc ajL evn)) ?_;refine (HC.out).mono ?_;rintro e w' ⟨rfl, rfl⟩;refine aQ ?_;refine aF 1 ?_;go_upto_region 3 with fail;refine aH 2 ?_;refine ajB (i4 rfl abm) ?_;refine runs 1 ?_;refine ajB (ax rfl ajL pK) ?_;refine aG rfl (wy rfl (ev rfl) (ev rfl) HTH.out) ?_;simp only [aa];generalize w.setCells p 17 qi = w1 at *;have HC1 := ae HL1.out.cF;have HF1 := ae (HL1.out.fz 1057);have HL2 := ae (HL1.out.sF 0);have HT2 := ae (HL1.out.t1F HT1 HBp 1057 (.int .u64 0));refine runs 1 ?_;refine ajB (ax rfl ajL nR) ?_;refine aG rfl (c7 rfl (ev rfl) evk (xj HC1.out HF1.out)) ?_;simp only [aa];generalize w1.setCell ⟨p, 1057, none⟩ (.int .u64 0) = w2 at *;refine ah ?_;go_wp2_with fail;go_ret;exact ⟨rfl, ⟨by rw [aho]; exact HL2, HBp, HS.out.cln⟩, HT2⟩
open Go.Maps (Keyed)
theorem ahP (w : World) : (zeroValue 87).run prog w = .ok (.pointer none) w := by kernel_rfl
section
variable {w w' : World} {b N : Nat} {M : Int -> Option Nat} {k : Int}
theorem dB.m9 (h : dB w b N M) (hw : (Lit.int .i64 k).wf = true) : (Instr.lookup 53 (.map (some b)) (.int .i64 k) false).run prog w = .ok (ptO (M k)) w := by
 obtain ⟨D, h1, _, h3⟩ := h;obtain ⟨v, ps, hr, hv⟩ := h1.lookup fo underlying53 (ahP w) (zd := .nil) (zp := []) rfl (qf hw);rw [(h3 k hw).1] at hv;rw [hr, yo hv]
theorem dB.aaJ (h : dB w b N M) (hw : (Lit.int .i64 k).wf = true) (hn : M k = none) (hN : N < maxLen) (q : Nat) :
  ∃ w', (Instr.mapUpdate 53 (.map (some b)) (.int .i64 k) (.pointer (some ⟨q, 0, none⟩))).run prog w = .ok () w' /\ dB w' b (N + 1) (fun j => if j = k then some q else M j) /\ w.mapTurned w' b := by
 obtain ⟨D, h1, h2, h3⟩ := h;obtain ⟨w', hr, ho, ht⟩ := h1.store fo underlying53 hN (qf hw) (acX (some q));have hT := h1.tidy fo;have hk : WideAt.IsKeyLit (Lit.int .i64 k) := fo.key (qf hw);have hs : Maps.size (D.put (.int .i64 k) (ptD (some q))) = N + 1 := by
  rw [Maps.size_put hT, (h3 k hw).2, hn, h2]; rfl
 refine ⟨w', hr, ⟨_, by rw [<- hs]; exact lw ho, hs, fun j hj => ?_⟩, ht⟩;by_cases e : j = k
 ·subst e;dsimp only;rw [if_pos rfl, Maps.atKey_put_same hT.isMap hk, Maps.has_put_same hT.isMap hk];exact ⟨rfl, rfl⟩
 ·dsimp only;rw [if_neg e, Maps.atKey_put_other (ju e), Maps.has_put_other (ju e)];exact h3 j hj
theorem dB.ajj (h : dB w b (N + 1) M) (hw : (Lit.int .i64 k).wf = true) (hn : (M k).isSome = true) (ty : TypeId) :
  ∃ w', (Builtin.delete_ #[53, 3] ty #[.map (some b), .int .i64 k]).run prog w = .ok (.tuple #[]) w' /\ dB w' b N (fun j => if j = k then none else M j) /\ w.mapTurned w' b := by
 obtain ⟨D, h1, h2, h3⟩ := h;obtain ⟨w', hr, ho, ht⟩ := h1.drop fo underlying53 (qf hw) ty;have hT := h1.tidy fo;have hs : Maps.size (D.del (.int .i64 k)) = N := by
  have := Maps.size_del (k := .int .i64 k) hT;rw [(h3 k hw).2, hn, h2] at this
  simpa using this
 refine ⟨w', hr, ⟨_, by rw [<- hs]; exact lw ho, hs, fun j hj => ?_⟩, ht⟩;by_cases e : j = k
 ·subst e;dsimp only;rw [if_pos rfl, Maps.atKey_del_same, Maps.has_del_same];exact ⟨rfl, rfl⟩
 ·dsimp only;rw [if_neg e, Maps.atKey_del_other (ju e), Maps.has_del_other (ju e)];exact h3 j hj
end
theorem fu {w w' : World} {b : Nat} {F : Nat -> Prop} (h : w.mapTurned w' b) (hF : F b) : Only F w w' := by
 have hg := h.grown;obtain ⟨es, c, es', c', hb, e⟩ := h;exact Only.grown (Only.refl _ _) hg fun j hj => by injection hj with hj; subst hj; exact .inl hF
def shC (N T : Nat) (r : Int) (lp mp : Nat) : List Value := [.int .i64 (N : Int), .int .i64 (T : Int), .int .i64 r, ptB lp, .map (some mp)]
def tx (w : World) : Option Nat -> Option LnS -> Prop
 |none, none => True
 |some b, some x => LnA w b (lf x) /\ dO x
 |_, _ => False
def mLn (m : Nat -> Option Nat) (k : Int) : Option Nat := if 0 <= k then m k.toNat else none
structure PRu (w : World) (t lp mp : Nat) (FL : Nat -> Prop) (L : List Ky) (c : Nat) (m : Nat -> Option Nat) (ln : Nat -> Option LnS) (N T room : Nat) (r : Int) : Prop where
 at_ : w.heap[t]? = some (.cells (shC N T r lp mp).toArray 55 (0, 0))
 li : PLF w FL lp room L
 map : dB w mp c (mLn m)
 ln : ∀ n, tx w (m n) (ln n)
 inj : ∀ i j b, m i = some b -> m j = some b -> i = j
 ap : ¬ FL t /\ ¬ FL mp /\ ∀ n b, m n = some b -> ¬ FL b
 lt : ∀ b, FL b -> b < w.heap.size
 may : dA (gx N T r) = true
def pV (t mp : Nat) (FL : Nat -> Prop) (m : Nat -> Option Nat) (b : Nat) : Prop := b = t \/ b = mp \/ FL b \/ ∃ n, m n = some b
def PSh (w : World) (S : Nat -> Prop) (t K : Nat) (s : ShS) : Prop := ∃ lp mp FL m r, PRu w t lp mp FL (kyL s.dty s.o) s.o.length m s.ln s.N s.T s.room r /\ bX s /\ S = pV t mp FL m
section
variable {w w' : World} {G FL : Nat -> Prop} {a : Option Nat} {x : Option LnS}
theorem tx.only (h : tx w a x) (hk : Only G w w') (hG : ∀ b, a = some b -> ¬ G b) : tx w' a x := by
 cases a <;> cases x
 ·exact h
 ·exact h
 ·exact h
 ·exact ⟨Only.keep hk h.1 (hG _ rfl), h.2⟩
theorem tx.some_ {y : LnS} (h : tx w a (some y)) : ∃ b, a = some b /\ LnA w b (lf y) /\ dO y := by
 cases a
 ·exact h.elim
 ·exact ⟨_, rfl, h.1, h.2⟩
theorem tx.none_ (h : tx w a none) : a = none := by
 cases a
 ·rfl
 ·exact h.elim
end
section
variable {w w' : World} {t lp mp c N T room n b : Nat} {FL G FL' : Nat -> Prop} {L L' : List Ky} {m : Nat -> Option Nat} {ln : Nat -> Option LnS} {r : Int}
theorem PRu.rng (h : PRu w t lp mp FL L c m ln N T room r) : w.rangeAt t 0 (shC N T r lp mp) := aP h.at_
theorem PRu.c0 (h : PRu w t lp mp FL L c m ln N T room r) : w.cell? ⟨t, 0, none⟩ = some (.int .i64 (N : Int)) := h.rng 0 _ rfl
theorem PRu.c3 (h : PRu w t lp mp FL L c m ln N T room r) : w.cell? ⟨t, 3, none⟩ = some (ptB lp) := h.rng 3 _ rfl
theorem PRu.c4 (h : PRu w t lp mp FL L c m ln N T room r) : w.cell? ⟨t, 4, none⟩ = some (.map (some mp)) := h.rng 4 _ rfl
theorem PRu.geo (h : PRu w t lp mp FL L c m ln N T room r) : w.rangeAt t 0 [.int .i64 (N : Int), .int .i64 (T : Int), .int .i64 r] := eS (k := 0) (ds := []) (es := [.int .i64 (N : Int), .int .i64 (T : Int), .int .i64 r]) (fs := [ptB lp, .map (some mp)]) h.rng rfl rfl
theorem PRu.af9 (h : PRu w t lp mp FL L c m ln N T room r) : ∃ es q, w.heap[mp]? = some (.map es q) := h.map.obj
theorem PRu.lnb (h : PRu w t lp mp FL L c m ln N T room r) (hn : m n = some b) : ∃ y, ln n = some y /\ LnA w b (lf y) /\ dO y := by
 have := h.ln n;rw [hn] at this;cases e : ln n with
 |none => rw [e] at this; exact this.elim
 |some y => rw [e] at this; exact ⟨y, rfl, this.1, this.2⟩
theorem PRu.ne (h : PRu w t lp mp FL L c m ln N T room r) : t ≠ mp /\ ∀ n b, m n = some b -> b ≠ t /\ b ≠ mp := by
 obtain ⟨es, q, hm⟩ := h.af9;refine ⟨fun e => ?_, fun n b hn => ⟨fun e => ?_, fun e => ?_⟩⟩
 ·have ha := h.at_;rw [e, hm] at ha;cases ha
 ·obtain ⟨y, _, hy, _⟩ := h.lnb hn;have ha := h.at_;unfold LnA at hy;rw [e, ha] at hy;injection hy with hy;injection hy with _ hy;exact absurd hy (by decide)
 ·obtain ⟨y, _, hy, _⟩ := h.lnb hn;unfold LnA at hy;rw [e, hm] at hy;cases hy
theorem PRu.size (h : PRu w t lp mp FL L c m ln N T room r) : ∀ b, pV t mp FL m b -> b < w.heap.size := by
 intro b hb;rcases hb with rfl | rfl | hb | ⟨n, hb⟩
 ·exact aT h.at_
 ·exact h.map.lt
 ·exact h.lt b hb
 ·obtain ⟨y, _, hy, _⟩ := h.lnb hb; exact hy.lt
theorem PRu.only (h : PRu w t lp mp FL L c m ln N T room r) (hk : Only G w w') (hG : ∀ b, pV t mp FL m b -> ¬ G b) : PRu w' t lp mp FL L c m ln N T room r :=
 ⟨Only.keep hk h.at_ (hG t (.inl rfl)), h.li.only hk fun b hb => hG b (.inr (.inr (.inl hb))), h.map.kept fun es q hb => Only.keep hk hb (hG mp (.inr (.inl rfl))), fun n => (h.ln n).only hk fun b hb => hG b (.inr (.inr (.inr ⟨n, hb⟩))), h.inj, h.ap, fun b hb => ar (h.lt b hb) hk.size, h.may⟩
theorem PRu.below (h : PRu w t lp mp FL L c m ln N T room r) (hb : Below w.heap.size w w') : PRu w' t lp mp FL L c m ln N T room r := h.only (Only.of_below (fun _ => False) hb) fun _ _ e => e
theorem PRu.list (h : PRu w t lp mp FL L c m ln N T room r) (hk : Only FL w w') (hl : PLF w' FL' lp room L') (hF : ∀ b, FL' b -> FL b \/ w.heap.size <= b) (ht : ∀ b, FL' b -> b < w'.heap.size) : PRu w' t lp mp FL' L' c m ln N T room r := by
 have hs := h.size;have no : ∀ b, pV t mp FL m b -> ¬ FL b -> ¬ FL' b := fun b hb hn hb' => by
  rcases hF b hb' with e | e
  ·exact hn e
  ·have := hs b hb; omega
 exact ⟨Only.keep hk h.at_ h.ap.1, hl, h.map.kept fun es q hb => Only.keep hk hb h.ap.2.1, fun n => (h.ln n).only hk fun b hb => h.ap.2.2 n b hb, h.inj, ⟨no t (.inl rfl) h.ap.1, no mp (.inr (.inl rfl)) h.ap.2.1, fun n b hb => no b (.inr (.inr (.inr ⟨n, hb⟩))) (h.ap.2.2 n b hb)⟩, ht, h.may⟩
theorem PRu.line {y : LnS} (h : PRu w t lp mp FL L c m ln N T room r) (hn : m n = some b) (hk : Only (fun j => j = b) w w') (hl : LnA w' b (lf y)) (hy : dO y) : PRu w' t lp mp FL L c m (fun j => if j = n then some y else ln j) N T room r := by
 obtain ⟨h1, h2⟩ := h.ne;obtain ⟨n1, n2⟩ := h2 n b hn;refine ⟨Only.keep hk h.at_ fun e => n1 e.symm, h.li.only hk fun j hj e => h.ap.2.2 n b hn (by rw [<- e]; exact hj), h.map.kept fun es q hb => Only.keep hk hb fun e => n2 e.symm, fun j => ?_, h.inj, h.ap, fun j hj => ar (h.lt j hj) hk.size, h.may⟩
 try dsimp only
 by_cases e : j = n
 ·subst e; rw [if_pos rfl, hn]; exact ⟨hl, hy⟩
 ·rw [if_neg e]; exact (h.ln j).only hk fun b' hb' e2 => e (h.inj j n b (by rw [<- e2]; exact hb') hn)
theorem PRu.del (h : PRu w t lp mp FL L (c + 1) m ln N T room r) (hk : w.mapTurned w' mp) (hm : dB w' mp c (fun j => if j = (n : Int) then none else mLn m j)) : PRu w' t lp mp FL L c (fun j => if j = n then none else m j) (fun j => if j = n then none else ln j) N T room r := by
 obtain ⟨h1, h2⟩ := h.ne;have ho := fu (F := fun j => j = mp) hk rfl;have e : (fun j => if j = (n : Int) then none else mLn m j) = mLn (fun j => if j = n then none else m j) := funext fun j => by
  unfold mLn;by_cases h0 : 0 <= j
  ·rw [if_pos h0, if_pos h0]
   try dsimp only
   by_cases e : j = (n : Int)
   ·rw [if_pos e, if_pos (by omega)]
   ·rw [if_neg e, if_neg (by omega)]
  ·rw [if_neg h0, if_neg h0, if_neg (by omega)]
 refine ⟨Only.keep ho h.at_ h1, h.li.only ho fun j hj e => h.ap.2.1 (by rw [<- e]; exact hj), by rw [<- e]; exact hm, fun j => ?_, fun i j b hi hj => ?_, ⟨h.ap.1, h.ap.2.1, fun j b hj => ?_⟩, fun j hj => ar (h.lt j hj) ho.size, h.may⟩
 ·try dsimp only
  by_cases e : j = n
  ·rw [if_pos e, if_pos e]; trivial
  ·rw [if_neg e, if_neg e]; exact (h.ln j).only ho fun b hb e2 => (h2 j b hb).2 e2
 ·try dsimp only at hi hj
  by_cases e : i = n
  ·rw [if_pos e] at hi; cases hi
  ·by_cases e' : j = n
   ·rw [if_pos e'] at hj; cases hj
   ·rw [if_neg e] at hi; rw [if_neg e'] at hj; exact h.inj i j b hi hj
 ·try dsimp only at hj
  by_cases e : j = n
  ·rw [if_pos e] at hj; cases hj
  ·rw [if_neg e] at hj; exact h.ap.2.2 j b hj
theorem PRu.add {y : LnS} (h : PRu w t lp mp FL L c m ln N T room r) (hn : m n = none) (hb : LnA w b (lf y)) (hy : dO y) (hF : ¬ FL b) (hmb : ∀ j, m j ≠ some b) (hk : w.mapTurned w' mp) (hm : dB w' mp (c + 1) (fun j => if j = (n : Int) then some b else mLn m j)) : PRu w' t lp mp FL L (c + 1) (fun j => if j = n then some b else m j) (fun j => if j = n then some y else ln j) N T room r := by
 obtain ⟨h1, h2⟩ := h.ne;have ho := fu (F := fun j => j = mp) hk rfl;have e : (fun j => if j = (n : Int) then some b else mLn m j) = mLn (fun j => if j = n then some b else m j) := funext fun j => by
  unfold mLn;by_cases h0 : 0 <= j
  ·rw [if_pos h0, if_pos h0]
   try dsimp only
   by_cases e : j = (n : Int)
   ·rw [if_pos e, if_pos (by omega)]
   ·rw [if_neg e, if_neg (by omega)]
  ·rw [if_neg h0, if_neg h0, if_neg (by omega)]
 have hbm : b ≠ mp := fun e => by
  obtain ⟨es, q, hq⟩ := h.af9;unfold LnA at hb;rw [e, hq] at hb;cases hb
 refine ⟨Only.keep ho h.at_ h1, h.li.only ho fun j hj e => h.ap.2.1 (by rw [<- e]; exact hj), by rw [<- e]; exact hm, fun j => ?_, fun i j b' hi hj => ?_, ⟨h.ap.1, h.ap.2.1, fun j b' hj => ?_⟩, fun j hj => ar (h.lt j hj) ho.size, h.may⟩
 ·try dsimp only
  by_cases e : j = n
  ·rw [if_pos e, if_pos e]; exact ⟨Only.keep ho hb hbm, hy⟩
  ·rw [if_neg e, if_neg e]; exact (h.ln j).only ho fun b hb e2 => (h2 j b hb).2 e2
 ·try dsimp only at hi hj
  by_cases e : i = n
  ·rw [if_pos e] at hi;by_cases e' : j = n
   ·omega
   ·rw [if_neg e'] at hj; cases hi; exact absurd hj (hmb j)
  ·rw [if_neg e] at hi;by_cases e' : j = n
   ·rw [if_pos e'] at hj; cases hj; exact absurd hi (hmb i)
   ·rw [if_neg e'] at hj; exact h.inj i j b' hi hj
 ·try dsimp only at hj
  by_cases e : j = n
  ·rw [if_pos e] at hj; cases hj; exact hF
  ·rw [if_neg e] at hj; exact h.ap.2.2 j b' hj
end
section
variable {b : Nat} {w : World}
theorem ya : (Instr.fieldAt 55 (.pointer (some ⟨b, 0, none⟩)) 0).run prog w = .ok (.pointer (some ⟨b, 0, none⟩)) w := by kernel_rfl
theorem kO : (Instr.fieldAt 55 (.pointer (some ⟨b, 0, none⟩)) 1).run prog w = .ok (.pointer (some ⟨b, 3, none⟩)) w := by kernel_rfl
theorem iZ : (Instr.fieldAt 55 (.pointer (some ⟨b, 0, none⟩)) 2).run prog w = .ok (.pointer (some ⟨b, 4, none⟩)) w := by kernel_rfl
theorem pZ {ad : Addr} {a : Option Addr} (h : w.cell? ad = some (.pointer a)) : (Instr.loadAt 52 (.pointer (some ad))).run prog w = .ok (.pointer a) w := by simp [go_sem, h]
theorem mh {ad : Addr} {a : Option Nat} (h : w.cell? ad = some (.map a)) : (Instr.loadAt 53 (.pointer (some ad))).run prog w = .ok (.map a) w := by simp [go_sem, h]
end
section
variable {ρ : Operand -> Value} {o : Oper} {x y : Operand} {w : World} {t rr : TypeId}
theorem py {k1 v1 : TypeId} {m : Option Nat} (c : Bool) (hp : prog.underlying t = some (.map k1 v1)) (ho : o.op = .binOp .neq t x y rr) (hx : ρ x = .map m) (hy : ρ y = .map none) (h : (!decide (m = none)) = c) : (execOp ρ o).run prog w = .ok (.value (.bool c)) w := by
 have hg : (eqGuard .neq t x y (.map m) (.map none)).run prog w = .ok () w := by simp [eqGuard]
 have hb := run_neq_map_nil w t k1 v1 m hp;unfold execOp;simp only [ho, hx, hy, Sem.run_bind, hg, hb, Result.andThen_ok, Sem.run_pure];rw [<- h];cases m <;> rfl
theorem qW (n : Int) (ho : o.op = .build 42 #[(0, x)]) (hx : ρ x = .int .i64 n) : (execOp ρ o).run prog w = .ok (.value (.agg #[.int .i64 n, .int .i64 0])) w :=
 je ho hx (by kernel_rfl)
end
theorem xf {N T : Nat} {r : Int} (h : dA (gx N T r) = true) : may (N : Int) (T : Int) r = true := by
 obtain ⟨k1, k2, k3, k4, k5, k6⟩ := ed h;exact im.2 ⟨k1, k2, k3, k4, k5, k6⟩
theorem afR {N T : Nat} {r : Int} (h : dA (gx N T r) = true) : 3 <= N /\ N <= 16 /\ 1 <= T /\ T <= 64 /\ 40 <= r /\ r <= 256 := by
 obtain ⟨k1, k2, k3, k4, k5, k6⟩ := im.1 (xf h);exact ⟨by omega, by omega, by omega, by omega, k5, k6⟩
theorem agx {N T : Nat} {r n m : Int} (h : dA (gx N T r) = true) : (blE (N : Int) (T : Int) r n m != 12) = decide (0 <= n /\ n < (T : Int) /\ 0 <= m /\ m < (N : Int)) := by
 unfold blE;rw [if_pos (xf h)];cases hi : inP (N : Int) (T : Int) n m
 ·rw [am (xP.1 hi)]
  rfl
 ·rw [ao (nI.1 hi), if_pos rfl]
  split <;> rfl
theorem ai3 (M S T : Nat) (r : Int) (w : World) (h : may M S r = true) (h' : has S T = true) : Calls prog 88 #[ik M S r, .int .i64 T] w fun e w' => e = .returned (.tuple #[.int .i64 (par M T), .int .i64 0]) /\ Below w.heap.size w w' := by
 have hm := im.1 h;have ht := fW.1 h';have hf := aen T (par M T);have H := ae h;have H' := ae h';clear h h';unfold ik;go_enter func88, ntmps88;go_wp2_with fail;refine (i9 M S r _).mono ?_;rintro e w1 ⟨rfl, hb1⟩;obtain ⟨K0, HB⟩ := acL hb1 (ly ..);obtain ⟨c0, c1, c2⟩ := cells3 K0;rw [H.out];clear hb1;go_wp2_with fail;refine (j5 M S r T _).mono ?_;rintro e w2 ⟨rfl, hb2⟩;obtain ⟨d0, d1, d2⟩ := cells3 (aB K0 hb2);rw [H'.out];go_wp2_with fail;refine (n6 M T S r _ (by omega) (by omega) (by omega)).mono ?_;rintro e w3 ⟨rfl, hb3⟩;unfold eE;go_wp2;go_ret2;exact ⟨rfl, (HB.out.trans (hb2.mono HB.out.size)).trans (hb3.mono (by have := HB.out.size; have := hb2.size; omega))⟩
section
variable {w : World} {t lp mp cn N T room K : Nat} {FL : Nat -> Prop} {L : List Ky} {m : Nat -> Option Nat} {ln : Nat -> Option LnS} {r : Int} {s : ShS}
theorem nL (h : PRu w t lp mp FL L cn m ln N T room r) : Calls prog 50 #[.pointer (some ⟨t, 0, none⟩)] w fun e w' => e = .returned (.bool true) /\ w = w' := by
 have HH := ae h;clear h;go_enter func50, ntmps50;go_upto_region 1 with fail;refine aH 1 ?_;refine ajB (cY true underlying23 rfl ajL evk rfl) ?_;refine runs 3 ?_;refine ajI (ax rfl ajL iZ) ?_;refine ajI (aC rfl ajL (mh (PRu.c4 HH))) ?_;refine ajI (py true underlying53 rfl ajL evk rfl) ?_;refine aF 2 ?_;go_wp2_with fail;go_ret;exact ⟨rfl, rfl⟩
theorem ip (n m' : Int) (h : PRu w t lp mp FL L cn m ln N T room r) : Calls prog 51 #[.pointer (some ⟨t, 0, none⟩), .agg #[.int .i64 n, .int .i64 m']] w fun e w' => e = .returned (.bool (decide (0 <= n /\ n < (T : Int) /\ 0 <= m' /\ m' < (N : Int)))) /\ Below w.heap.size w w' := by
 have HE := ae (agx (n := n) (m := m') h.may);obtain ⟨pb, hpb⟩ : ∃ pb, decide (0 <= n /\ n < (T : Int) /\ 0 <= m' /\ m' < (N : Int)) = pb := ⟨_, rfl⟩;rw [hpb] at HE ⊢;clear hpb;have hbx := (Below.refl w.heap.size w).alloc aj (.cells ([.int .i64 n, .int .i64 m'] : List Value).toArray 42);have HP := ae (heap_alloc_new w (.cells ([.int .i64 n, .int .i64 m'] : List Value).toArray 42));have HH := ae (h.below hbx);have HB := ae hbx;clear h hbx;go_enter func51, ntmps51;go_upto_region 0 with fail;refine af ?_;refine ajB (cw (cs := [.int .i64 n, .int .i64 m']) rfl ajL) ?_;refine aF 1 ?_;generalize w.alloc (.cells ([.int .i64 n, .int .i64 m'] : List Value).toArray 42) = w1 at *;go_upto_region 1 with fail;refine aR (B := w1.heap.size) (by kernel_rfl) ?_;refine cy 2 ?_;refine ajJ (fun _ hw => ax rfl ajL ya) ?_;refine ajJ (fun _ hw => cj (cs := ([.int .i64 (N : Int), .int .i64 (T : Int), .int .i64 r] : List Value)) underlying51 rfl (by kernel_rfl) rfl ajL (PRu.geo (HH.out.below hw))) ?_;refine ajJ (fun _ hw => cj (cs := [.int .i64 n, .int .i64 m']) underlying42 rfl (by kernel_rfl) rfl ajL (aP (aB HP hw))) ?_;refine bO rfl (fun _ => aA call83 rfl (evc ajL (evc ajL evn))) (bw aj fun _ hw => oC (N : Int) (T : Int) r n m' _) ?_;simp only [aa];refine cy 3 ?_;refine cy 2 ?_;refine wpQuiet_nil ?_;intro w2 hw;have HW := ae (HB.out.trans (hw.mono HB.out.size));clear hw;go_upto_region 2 with fail;refine aH 1 ?_;refine ajB (aJ pb rfl ajL evk HE) ?_;refine aF 1 ?_;go_wp2_with fail;go_ret;exact ⟨rfl, HW⟩
theorem qw {n : Nat} (hn : n < T) (h : PRu w t lp mp FL L cn m ln N T room r) : Calls prog 56 #[.pointer (some ⟨t, 0, none⟩), .int .i64 (n : Int)] w fun e w' => e = .returned (.int .i64 ((N - 1 - n % N : Nat) : Int)) /\ Below w.heap.size w w' := by
 have HM := ae (xf h.may);have HS : Hid (has (T : Int) (n : Int) = true) := ae (fW.2 ⟨by omega, by omega⟩);have HH := ae h;clear h hn;go_enter func56, ntmps56;go_upto_region 1 with fail;refine aH 2 ?_;refine ajB (ax rfl ajL ya) ?_;refine ajB (cj (cs := ([.int .i64 (N : Int), .int .i64 (T : Int), .int .i64 r] : List Value)) underlying51 rfl (by kernel_rfl) rfl ajL (PRu.geo HH)) ?_;refine runs 1 ?_;refine aw rfl (aA call88 rfl (evc ajL (evc ajL evn))) ?_;refine (ai3 N T n r w HM HS).mono ?_;rintro e w1 ⟨rfl, b1⟩;have HB := ae b1;clear b1;refine aQ ?_;refine runs 3 ?_;refine aF 2 ?_;go_upto_region 2 with fail;refine bU 2 ?_;go_wp2_with fail;go_ret;exact ⟨rfl, HB⟩
def zA (T : Nat) (n : Int) : Int := if decide (0 <= n /\ n < (T : Int)) = true then 0 else 2
theorem xk (n : Int) (h : PRu w t lp mp FL L cn m ln N T room r) : Calls prog 30 #[.pointer (some ⟨t, 0, none⟩), .int .i64 n] w fun e w' => e = .returned (.int .i64 (zA T n)) /\ Below w.heap.size w w' := by
 have hg := afR h.may;have HE : Hid (decide (0 <= n /\ n < (T : Int) /\ 0 <= (0 : Int) /\ (0 : Int) < (N : Int)) = decide (0 <= n /\ n < (T : Int))) := ae (by
  rw [Bool.eq_iff_iff, decide_eq_true_iff, decide_eq_true_iff]; omega)
 have HH := ae h;clear h hg;go_enter func30, ntmps30;go_upto_region 1 with fail;refine aH 1 ?_;refine aw rfl (aA call50 rfl (evc ajL evn)) ?_;refine (nL HH).mono ?_;rintro e w' ⟨rfl, rfl⟩;refine aQ ?_;refine aF 2 ?_;cases hd : decide (0 <= n /\ n < (T : Int))
 ·have HD := ae hd;clear hd;go_upto_region 3 with fail;refine aH 2 ?_;refine ajB (qW n rfl ajL) ?_;refine aw rfl (aA call51 rfl (evc ajL (evc ajL evn))) ?_;refine (ip n 0 HH).mono ?_;rintro e w1 ⟨rfl, b1⟩;rw [HE.out];rw [HD.out];have HB := ae b1;clear b1;refine aQ ?_;refine aF 2 ?_;go_wp2_with fail;go_ret;exact ⟨by unfold zA; rw [HD.out]; rfl, HB⟩
 ·have HD := ae hd;clear hd;go_upto_region 3 with fail;refine aH 2 ?_;refine ajB (qW n rfl ajL) ?_;refine aw rfl (aA call51 rfl (evc ajL (evc ajL evn))) ?_;refine (ip n 0 HH).mono ?_;rintro e w1 ⟨rfl, b1⟩;rw [HE.out];rw [HD.out];have HB := ae b1;clear b1;refine aQ ?_;refine aF 2 ?_;go_wp2_with fail;go_ret;exact ⟨by unfold zA; rw [HD.out]; rfl, HB⟩
theorem oM (h : PRu w t lp mp FL L cn m ln N T room r) : Calls prog 24 #[.pointer (some ⟨t, 0, none⟩)] w fun e w' => ∃ v, e = .returned v /\ aO bN w' w.heap.size v (fk L) /\ Below w.heap.size w w' := by
 have HH := ae h;clear h;go_enter func24, ntmps24;go_upto_region 1 with fail;refine aH 1 ?_;refine aw rfl (aA call50 rfl (evc ajL evn)) ?_;refine (nL HH).mono ?_;rintro e w' ⟨rfl, rfl⟩;refine aQ ?_;refine aF 1 ?_;go_upto_region 3 with fail;refine aH 2 ?_;refine ajB (ax rfl ajL kO) ?_;refine ajB (aC rfl ajL (pZ (PRu.c3 HH))) ?_;refine aw rfl (aA call58 rfl (evc ajL evn)) ?_;refine (abx w HH.out.li).mono ?_;rintro e w1 ⟨v, rfl, m1, b1⟩;have HM := ae m1;have HB := ae b1;clear m1 b1;refine aQ ?_;refine aF 1 ?_;go_wp2_with fail;go_ret;exact ⟨v, rfl, HM, HB⟩
end
open Go.RowKit Go.Shelf
def aiQ : Ren := { f := fun x => match x with | 189 => 26 | 125 => 61 | 257 => 60 | 128 => 99 | 129 => 100 | 294 => 90 | 295 => 91 | 296 => 92 | 297 => 93 | 298 => 94 | 299 => 95 | 216 => 96 | 300 => 97 | 301 => 98 | 328 => 127 | 329 => 128 | 330 => 129 | 331 => 130 | 332 => 131 | 215 => 132 | 343 => 138 | n => n, t := fun x => match x with | 28 => 35 | 3 => 3 | 46 => 126 | 0 => 0 | 51 => 168 | 53 => 34 | 4 => 4 | 183 => 160 | 182 => 159 | 131 => 165 | 5 => 5 | 9 => 9 | 218 => 181 | 222 => 184 | 228 => 193 | 229 => 194 | n => n, g := fun x => x }
theorem afT : Lays.n189 prog aiQ := {
 mixed := (by kernel_rfl),
 f125 := func61.trans (congrArg some (by kernel_rfl)),
 f128 := func99.trans (congrArg some (by kernel_rfl)),
 f129 := func100.trans (congrArg some (by kernel_rfl)),
 f189 := func26.trans (congrArg some (by kernel_rfl)),
 f215 := func132.trans (congrArg some (by kernel_rfl)),
 f216 := func96.trans (congrArg some (by kernel_rfl)),
 f257 := func60.trans (congrArg some (by kernel_rfl)),
 f294 := func90.trans (congrArg some (by kernel_rfl)),
 f295 := func91.trans (congrArg some (by kernel_rfl)),
 f296 := func92.trans (congrArg some (by kernel_rfl)),
 f297 := func93.trans (congrArg some (by kernel_rfl)),
 f298 := func94.trans (congrArg some (by kernel_rfl)),
 f299 := func95.trans (congrArg some (by kernel_rfl)),
 f300 := func97.trans (congrArg some (by kernel_rfl)),
 f301 := func98.trans (congrArg some (by kernel_rfl)),
 f328 := func127.trans (congrArg some (by kernel_rfl)),
 f329 := func128.trans (congrArg some (by kernel_rfl)),
 f330 := func129.trans (congrArg some (by kernel_rfl)),
 f331 := func130.trans (congrArg some (by kernel_rfl)),
 f332 := func131.trans (congrArg some (by kernel_rfl)),
 f343 := func138.trans (congrArg some (by kernel_rfl)),
 t0 := underlying0,
 a0 := Tryz.isAgg0,
 z0 := Tryz.sizeOf0,
 v0 := Tryz.zeroValue0,
 t3 := underlying3,
 a3 := Tryz.isAgg3,
 z3 := Tryz.sizeOf3,
 v3 := Tryz.zeroValue3,
 t4 := underlying4,
 a4 := Tryz.isAgg4,
 z4 := Tryz.sizeOf4,
 v4 := Tryz.zeroValue4,
 t5 := underlying5,
 a5 := Tryz.isAgg5,
 z5 := Tryz.sizeOf5,
 v5 := Tryz.zeroValue5,
 t9 := underlying9,
 a9 := Tryz.isAgg9,
 z9 := Tryz.sizeOf9,
 v9 := Tryz.zeroValue9,
 t28 := underlying35,
 a28 := Tryz.isAgg35,
 z28 := Tryz.sizeOf35,
 v28 := Tryz.zeroValue35,
 t46 := underlying126,
 a46 := Tryz.isAgg126,
 z46 := Tryz.sizeOf126,
 v46 := Tryz.zeroValue126,
 t51 := underlying168,
 a51 := Tryz.isAgg168,
 z51 := Tryz.sizeOf168,
 v51 := Tryz.zeroValue168,
 t53 := underlying34,
 a53 := Tryz.isAgg34,
 z53 := Tryz.sizeOf34,
 v53 := Tryz.zeroValue34,
 t131 := underlying165,
 a131 := Tryz.isAgg165,
 z131 := Tryz.sizeOf165,
 v131 := Tryz.zeroValue165,
 t182 := underlying159,
 a182 := Tryz.isAgg159,
 z182 := Tryz.sizeOf159,
 v182 := Tryz.zeroValue159,
 t183 := underlying160,
 a183 := Tryz.isAgg160,
 z183 := Tryz.sizeOf160,
 v183 := Tryz.zeroValue160,
 t218 := underlying181,
 a218 := Tryz.isAgg181,
 z218 := Tryz.sizeOf181,
 v218 := Tryz.zeroValue181,
 t222 := underlying184,
 a222 := Tryz.isAgg184,
 z222 := Tryz.sizeOf184,
 v222 := Tryz.zeroValue184,
 t228 := underlying193,
 a228 := Tryz.isAgg193,
 z228 := Tryz.sizeOf193,
 v228 := Tryz.zeroValue193,
 t229 := underlying194,
 a229 := Tryz.isAgg194,
 z229 := Tryz.sizeOf194,
 v229 := Tryz.zeroValue194 }
section
variable {w : World} {g c n B : Nat} {os : Array Obj} {l ts : List Int}
theorem ve (d : Array Int) : w.grownBy (Go.Sort.grow (Go.Sort.putRow (Value.int .i64) (Go.Sort.ahead w n) g 0 d) os) (some g) := by
 refine ⟨rfl, rfl, rfl, by simp, fun k hk hne => ?_⟩;rw [Go.Sort.heap_grow_old _ _ (by simpa using hk)];have : g ≠ k := fun e => hne (by rw [e])
 simp [Go.Sort.putRow, Go.Sort.mapBlock, Go.Sort.ahead, Array.getElem?_modify, this]
theorem aae (h : aO bN w B (.slice (some ⟨g, 0, none⟩) l.length c) l) (hl : ts.length = l.length) : aO bN (Go.Sort.grow (Go.Sort.putRow (Value.int .i64) (Go.Sort.ahead w n) g 0 ts.toArray) os) B (.slice (some ⟨g, 0, none⟩) l.length c) ts := by
 rcases h.2 with ⟨h0, _⟩ | ⟨g', cap, cur, hv, hB, hg, h1, h2, h3, h4⟩
 ·cases h0
 ·injection hv with hv _ hc;injection hv with hv;injection hv with hv;subst hv hc;have hgl : g < w.heap.size := (Array.getElem?_eq_some_iff.1 hg).1;have e3 : cur.size = c := by rw [h3]; show c * 1 = c; omega
  refine ⟨by simp [ch], .inr ⟨g, c, Go.Sort.putCells (Value.int .i64) 0 ts.toArray cur, by rw [hl], hB, ?_, by omega, h2, by simp [Go.Sort.putCells, h3], ?_⟩⟩
  ·rw [Go.Sort.heap_grow_old _ _ (by simpa using hgl)];simp [Go.Sort.putRow, Go.Sort.mapBlock, Go.Sort.ahead, Array.getElem?_modify, hg, Go.Sort.onCells]
  ·rw [ra, show ts.length * bN.n = ts.length from Nat.mul_one _];apply List.ext_getElem?;intro j;by_cases hj : j < ts.length
   ·rw [List.getElem?_take_of_lt hj, Array.getElem?_toList];simp [Go.Sort.putCells, hj, show j < cur.size by omega]
   ·rw [List.getElem?_take_eq_none (by omega), List.getElem?_eq_none (by simp; omega)]
end
theorem tY {w : World} {B : Nat} {v : Value} {l : List Int} (h : aO bN w B v l) (hB : B <= w.heap.size) (hl : l.length < 4611686018427387904) :
  Calls prog 26 #[v] w fun e w' => e = .returned (.tuple #[]) /\ aO bN w' B v (l.mergeSort fun x y => decide (x <= y)) /\ Below B w w' := by
 rcases h.2 with ⟨hv, h0⟩ | ⟨g, cap, cur, hv, hg0, hg, h1, h2, h3, h4⟩
 ·have hl0 : l = [] := List.eq_nil_of_length_eq_zero h0;subst hl0 hv;exact (Any.slices_Sort_int_none afT none 0 w).mono fun e w' ⟨h1, h2⟩ => ⟨h1, by subst h2; rw [List.mergeSort_nil]; exact h, by subst h2; exact ak⟩
 ·subst hv;have hH : Go.Sort.Holds (Value.int .i64) w g 0 l.toArray := fun j hj => by
   have hj' : j < l.length := by simpa using hj
   refine ⟨?_, by simp [World.frozen?, hg]⟩;rw [ra, show l.length * bN.n = l.length from Nat.mul_one _] at h4;have e1 : (cur.toList.take l.length)[j]? = (l.map fun x => Value.int .i64 x)[j]? := by rw [h4]
   rw [List.getElem?_take_of_lt hj'] at e1;simp only [World.cell?, hg, Nat.zero_add];simp only [Option.isSome_none, Bool.false_eq_true, if_false];rw [<- Array.getElem?_toList, e1];simp [hj']
  refine (Any.slices_Sort_int afT g 0 cap l w hH (Array.getElem?_eq_some_iff.1 hg).1 hl).mono ?_;rintro e w' ⟨k1, n, os, rfl⟩;exact ⟨k1, aae h (by rw [List.length_mergeSort]), (Below.refl B w).grown (ve _) hB fun k hk => by injection hk with hk; subst hk; exact hg0⟩
section
variable {w : World} {t lp mp K : Nat} {FL : Nat -> Prop} {m : Nat -> Option Nat} {r : Int} {s : ShS}
theorem jD {n : Nat} (h : n < 64) : (Lit.int .i64 (n : Int)).wf = true := by
 have h1 : (-9223372036854775808 : Int) <= (n : Int) := by omega
 have h2 : (n : Int) <= 9223372036854775807 := by omega
 have e1 : IntKind.i64.min = -9223372036854775808 := by decide
 have e2 : IntKind.i64.max = 9223372036854775807 := by decide
 show (decide (IntKind.i64.min <= (n : Int)) && decide ((n : Int) <= IntKind.i64.max)) = true
 rw [e1, e2, ao h1, ao h2]
 rfl
theorem tG (h : PRu w t lp mp FL (kyL s.dty s.o) s.o.length m s.ln s.N s.T s.room r) (hok : bX s) : Calls prog 7 #[.pointer (some ⟨t, 0, none⟩)] w fun e w' => ∃ v, e = .returned v /\ aO bN w' w.heap.size v s.da /\ Below w.heap.size w w' := by
 have HH := ae h;have HSD : Hid ((jK s.dty s.o).mergeSort (fun x y => decide (x <= y)) = s.da) := ae (oT hok);have HPN : Hid (∀ n : Nat, qc (n : Int) (kyL s.dty s.o) = s.dty n) := ae (ad5 hok);have H64 : Hid (s.o.length <= 64) := ae (by have := hok.len; have := hok.r64; omega);have HLT : Hid (∀ n ∈ s.o, n < 64) := ae fun n hn => by have := hok.lt n hn; have := hok.t64; omega
 clear h hok;go_enter func7, ntmps7;go_upto_region 2 with fail;refine aH 1 ?_;refine aw rfl (aA call24 rfl (evc ajL evn)) ?_;refine (oM HH).mono ?_;rintro e w1 ⟨v1, rfl, m1, b1⟩;rw [rN] at m1;obtain ⟨A1, c1, rfl, m1r, _, _⟩ := m1.open_ (n := s.o.length) (List.length_map _);have HM1 := ae m1;have HB1 := ae b1;have HH1 := ae (HH.out.below b1);clear m1 b1 m1r;refine aQ ?_;refine ajB (et bN rfl ajL) ?_;refine aF 1 ?_;go_wp2_with fail
 go_loopw [3, 5, 9] (fun z u c wr => ∃ i : Nat, c = .int .i64 i /\ i <= s.o.length /\ aO bN wr w1.heap.size z (jK s.dty (s.o.take i)) /\ Below w1.heap.size w1 wr) (fun _ _ c _ => s.o.length - (intOf c).toNat)
 case atStart => exact ⟨0, by go_num, Nat.zero_le _, aO.nil _ _, ak⟩
 case round =>
  obtain ⟨i, rfl, hi, hm, hb⟩ := hrel;have HM := ae hm;have HW := ae hb;have HHr := ae (HH1.out.below hb);have HRr := ae (HM1.out.below hb);clear hm hb;by_cases hlt : i < s.o.length
  ·have HI := ae hlt;have HT : Hid (decide ((i : Int) < (s.o.length : Int)) = true) := ae (ao (by omega));have HA : Hid (IntKind.i64.wrap ((i : Int) + 1) = ((i + 1 : Nat) : Int)) := ae (by have := H64.out; rw [eW ⟨by omega, by omega⟩]; omega);have hrd := HRr.out.rd;obtain ⟨b, off, hAe, _, hc⟩ := hrd.int hlt;subst hAe;rw [getD_map (fun n : Nat => (n : Int)) s.o 0 0 hlt] at hc;obtain ⟨n, hn⟩ : ∃ n, s.o.getD i 0 = n := ⟨_, rfl⟩;have hmem : n ∈ s.o := by rw [<- hn]; exact cz hlt
   rw [hn] at hc;have HC := ae hc;have HNI := ae hn;have HWF := ae (jD (HLT.out n hmem));clear hi hlt hrd hc hn hmem;go_upto_region 3 with fail;refine af ?_;refine ajB (aZ true rfl ajL ajL HT) ?_;refine ah ?_;go_upto_region 4 with fail;refine af ?_;refine ajB (cM (E := bN) rfl ajL ajL HI) ?_;refine ajB (aC rfl ajL (bY (by rw [show i * bN.n = i from Nat.mul_one i]; exact HC.out))) ?_;refine aF 1 ?_;cases hd : s.dty n
   ·have HD := ae hd;have HST : Hid (jK s.dty (s.o.take (i + 1)) = jK s.dty (s.o.take i)) := ae (by rw [re (b := false) HI.out (by rw [HNI.out]; exact hd)]; simp);clear hd;go_upto_region 5 with fail;refine aH 2 ?_;refine ajB (ax rfl ajL kO) ?_;refine ajB (aC rfl ajL (pZ (PRu.c3 HHr))) ?_;refine runs 1 ?_;refine aw rfl (aA call25 rfl (evc ajL (evc ajL evn))) ?_;refine (nS wr HHr.out.li HWF).mono ?_;rintro e w5 ⟨rfl, rfl⟩;rw [HPN.out, HD.out];refine aQ ?_;refine ah ?_;go_upto_region 7 with fail;refine af ?_;refine ajB (bL rfl ajL evk HA) ?_;refine aF 1 ?_;go_wp2_with fail;go_roundw
    case rel => exact ⟨i + 1, by go_num, HI, by rw [HST.out]; exact HM, HW⟩
    case measure => have := HI.out; simp [intOf]; omega
   have HD := ae hd;have HST : Hid (jK s.dty (s.o.take (i + 1)) = jK s.dty (s.o.take i) ++ [(n : Int)]) := ae (by rw [re (b := true) HI.out (by rw [HNI.out]; exact hd), HNI.out]; rfl);clear hd;go_upto_region 5 with fail;refine aH 2 ?_;refine ajB (ax rfl ajL kO) ?_;refine ajB (aC rfl ajL (pZ (PRu.c3 HHr))) ?_;refine runs 1 ?_;refine aw rfl (aA call25 rfl (evc ajL (evc ajL evn))) ?_;refine (nS wr HHr.out.li HWF).mono ?_;rintro e w5 ⟨rfl, rfl⟩;rw [HPN.out, HD.out];refine aQ ?_;refine ah ?_;have HBS : Hid (w1.heap.size <= wr.heap.size) := ae HW.out.size;have hsz : (wr.alloc (.cells #[.int .i64 (n : Int)] 3)).heap.size = wr.heap.size + 1 := al;obtain ⟨v2, w2, hrun, hm2, hg2⟩ := ge bN (wr.alloc (.cells #[.int .i64 (n : Int)] 3)) 35 w1.heap.size (wr.heap.size + 1) 1 1 u3 (jK s.dty (s.o.take i)) [(n : Int)] (some ⟨wr.heap.size, 0, none⟩) (aO.below HM (ak.alloc aj _)) (fI (E := bN) (l := [(n : Int)]) wr #[.int .i64 (n : Int)] 3 rfl) (by have := HBS.out; omega) (by have := pG s.dty (s.o.take i); rw [List.length_take] at this; have := H64.out; simp; omega);have HRUN := ae hrun;have HM2 : Hid (aO bN w2 w1.heap.size v2 (jK s.dty (s.o.take (i + 1)))) := ae (by rw [HST.out]; exact hm2);have HW2 : Hid (Below w1.heap.size w1 w2) := ae ((HW.out.trans (ak.alloc HBS _)).grown hg2 (by have := HBS.out; omega) (fun j' hj' => HM.out.gW j' hj'));clear hsz hrun hm2 hg2;go_upto_region 6 with fail;refine aH 2 ?_;refine ajB (el (E := bN) (a := (n : Int)) rfl ajL rfl (by decide)) ?_;refine ajB (gI (E := bN) rfl ajL ajL HRUN) ?_;refine aF 1 ?_;go_upto_region 7 with fail;refine af ?_;refine ajB (bL rfl ajL evk HA) ?_;refine aF 1 ?_;go_wp2_with fail;go_roundw
   case rel => exact ⟨i + 1, by go_num, HI, HM2, HW2⟩
   case measure => have := HI.out; simp [intOf]; omega
  have hin : i = s.o.length := by omega
  have HT : Hid (decide ((i : Int) < (s.o.length : Int)) = false) := ae (am (by omega));have HIN := ae hin;have HMF : Hid (aO bN wr w1.heap.size u3 (jK s.dty s.o)) := ae (by have := HM.out; rw [hin, List.take_length] at this; exact this);have HL4 : Hid ((jK s.dty s.o).length < 4611686018427387904) := ae (by have := pG s.dty s.o; have := H64.out; omega);clear hlt hi hin;go_upto_region 3 with fail;refine af ?_;refine ajB (aZ false rfl ajL ajL HT) ?_;refine ah ?_;go_upto_region 8 with fail;refine aH 1 ?_;refine aw rfl (aA call26 rfl (evc ajL evn)) ?_;refine (tY HMF HW.out.size HL4).mono ?_;rintro e w2 ⟨rfl, m2, b2⟩;rw [HSD.out] at m2;have HM2 := ae (m2.base HB1.out.size);have HB2 := ae ((HB1.out.trans ((HW.out.trans b2).mono HB1.out.size)));clear m2 b2;refine aQ ?_;refine ah ?_;go_upto_region 9 with fail;refine bU 2 ?_;go_wp2_with fail;go_ret;exact ⟨_, rfl, HM2, HB2⟩
end
structure PSt (w0 : World) (S0 : Nat -> Prop) (w : World) (t lp mp : Nat) (FL : Nat -> Prop) (L : List Ky) (c : Nat) (m : Nat -> Option Nat) (ln : Nat -> Option LnS) (N T room : Nat) (r : Int) : Prop where
 u : PRu w t lp mp FL L c m ln N T room r
 on : Only S0 w0 w
 gr : Grow w0 S0 (pV t mp FL m)
section
variable {w0 w w' : World} {S0 : Nat -> Prop} {t lp mp c N T room n b : Nat} {FL FL' : Nat -> Prop} {L L' : List Ky} {m : Nat -> Option Nat} {ln : Nat -> Option LnS} {r : Int}
theorem PSt.start (h : PRu w t lp mp FL L c m ln N T room r) : PSt w (pV t mp FL m) w t lp mp FL L c m ln N T room r := ⟨h, Only.refl _ _, Grow.same _ _⟩
theorem PSt.below (h : PSt w0 S0 w t lp mp FL L c m ln N T room r) (hb : Below w.heap.size w w') : PSt w0 S0 w' t lp mp FL L c m ln N T room r := ⟨h.u.below hb, h.on.jn hb, h.gr⟩
theorem PSt.step {F : Nat -> Prop} (h : PSt w0 S0 w t lp mp FL L c m ln N T room r) (hk : Only F w w') (hF : ∀ b, F b -> pV t mp FL m b) : Only S0 w0 w' :=
 h.on.trans hk fun b hb => h.gr b (hF b hb)
theorem PSt.list {B : Nat -> Prop} (h : PSt w0 S0 w t lp mp FL L c m ln N T room r) (hB : B = fun b => FL b \/ w.heap.size <= b) (hl : PLF w' B lp room L') (hk : iJ B w w') : ∃ FL', PSt w0 S0 w' t lp mp FL' L' c m ln N T room r := by
 subst hB;have hs := hk.size;have ho : Only FL w w' := ⟨hk.only.os, hk.only.tape, hk.only.output, hk.only.size, fun b hb hn => hk.only.block b hb fun e => e.elim hn fun e2 => by omega⟩;refine ⟨fun b => (FL b \/ w.heap.size <= b) /\ b < w'.heap.size, h.u.list ho (hl.mono fun b h1 h2 => ⟨h1, h2⟩) (fun b hb => hb.1) fun b hb => hb.2, h.step ho fun b hb => .inr (.inr (.inl hb)), fun b hb => ?_⟩;have hsz := h.on.size;rcases hb with e | e | e | e
 ·exact h.gr b (.inl e)
 ·exact h.gr b (.inr (.inl e))
 ·rcases e.1 with e | e
  ·exact h.gr b (.inr (.inr (.inl e)))
  ·exact .inr (by omega)
 ·exact h.gr b (.inr (.inr (.inr e)))
theorem PSt.line {y : LnS} (h : PSt w0 S0 w t lp mp FL L c m ln N T room r) (hn : m n = some b) (hk : bS ml (fun j => j = b) w w') (hl : qj w' (fun j => j = b) b y) : PSt w0 S0 w' t lp mp FL L c m (fun j => if j = n then some y else ln j) N T room r :=
 ⟨h.u.line hn hk.only hl.1 hl.2.2, h.step hk.only fun j hj => .inr (.inr (.inr ⟨n, by rw [hj]; exact hn⟩)), h.gr⟩
theorem PSt.del (h : PSt w0 S0 w t lp mp FL L (c + 1) m ln N T room r) (hk : w.mapTurned w' mp) (hm : dB w' mp c (fun j => if j = (n : Int) then none else mLn m j)) : PSt w0 S0 w' t lp mp FL L c (fun j => if j = n then none else m j) (fun j => if j = n then none else ln j) N T room r := by
 refine ⟨h.u.del hk hm, h.step (fu (F := fun j => j = mp) hk rfl) fun j hj => .inr (.inl hj), fun b hb => ?_⟩;rcases hb with e | e | e | ⟨j, e⟩
 ·exact h.gr b (.inl e)
 ·exact h.gr b (.inr (.inl e))
 ·exact h.gr b (.inr (.inr (.inl e)))
 ·try dsimp only at e
  by_cases ej : j = n
  ·rw [if_pos ej] at e; cases e
  ·rw [if_neg ej] at e; exact h.gr b (.inr (.inr (.inr ⟨j, e⟩)))
theorem PSt.add {y : LnS} {w1 : World} (h : PSt w0 S0 w t lp mp FL L c m ln N T room r) (hn : m n = none) (hw1 : Below w.heap.size w w1) (hb : LnA w1 b (lf y)) (hbw : w.heap.size <= b) (hy : dO y) (hk : w1.mapTurned w' mp) (hm : dB w' mp (c + 1) (fun j => if j = (n : Int) then some b else mLn m j)) : PSt w0 S0 w' t lp mp FL L (c + 1) (fun j => if j = n then some b else m j) (fun j => if j = n then some y else ln j) N T room r := by
 have h1 := h.below hw1;have hs := h.u.size;refine ⟨h1.u.add hn hb hy (fun e => by have := h.u.lt b e; omega) (fun j e => by have := hs b (.inr (.inr (.inr ⟨j, e⟩))); omega) hk hm, h1.step (fu (F := fun j => j = mp) hk rfl) fun j hj => .inr (.inl hj), fun q hq => ?_⟩;have hsz := h.on.size;rcases hq with e | e | e | ⟨j, e⟩
 ·exact h.gr q (.inl e)
 ·exact h.gr q (.inr (.inl e))
 ·exact h.gr q (.inr (.inr (.inl e)))
 ·try dsimp only at e
  by_cases ej : j = n
  ·rw [if_pos ej] at e; cases e; exact .inr (by omega)
  ·rw [if_neg ej] at e; exact h.gr q (.inr (.inr (.inr ⟨j, e⟩)))
end
theorem uQ {ops : Array Oper} {rest : List Oper} {o : Oper} {a : Act} {w : World} {M : Int -> Option Nat} {k : Int} {Q : Exit -> Act -> World -> Prop} {x y : Operand} {N b : Nat} (hg : o.guard = none) (ho : o.op = .call { callee := .builtin .delete, args := #[x, y], argTypes := #[53, 3] })
  (hx : a.eval x = .map (some b)) (hy : a.eval y = .int .i64 k) (h : dB w b (N + 1) M) (hw : (Lit.int .i64 k).wf = true) (hn : (M k).isSome = true)
  (hk : ∀ w', dB w' b N (fun j => if j = k then none else M j) -> w.mapTurned w' b -> wpList prog ops Q rest (a.put o.dst (.tuple #[])) w') : wpList prog ops Q (o :: rest) a w := by
 obtain ⟨w', h1, h2, h3⟩ := h.ajj hw hn o.type;exact av hg (tk ho hx hy h1) (hk w' h2 h3)
def PSx (w0 : World) (S0 : Nat -> Prop) (w : World) (t : Nat) (s : ShS) : Prop := ∃ lp mp FL m r, PSt w0 S0 w t lp mp FL (kyL s.dty s.o) s.o.length m s.ln s.N s.T s.room r /\ bX s
section
variable {w0 w w' : World} {S0 S : Nat -> Prop} {t K : Nat} {s : ShS}
theorem PSh.x (h : PSh w S t K s) : PSx w S w t s := by
 obtain ⟨lp, mp, FL, m, r, h1, h2, rfl⟩ := h;exact ⟨lp, mp, FL, m, r, PSt.start h1, h2⟩
theorem PSx.res (h : PSx w0 S0 w t s) (K : Nat) : ∃ S', PSh w S' t K s /\ Only S0 w0 w /\ Grow w0 S0 S' := by
 obtain ⟨lp, mp, FL, m, r, h1, h2⟩ := h;exact ⟨_, ⟨lp, mp, FL, m, r, h1.u, h2, rfl⟩, h1.on, h1.gr⟩
theorem PSx.below (h : PSx w0 S0 w t s) (hb : Below w.heap.size w w') : PSx w0 S0 w' t s := by
 obtain ⟨lp, mp, FL, m, r, h1, h2⟩ := h;exact ⟨lp, mp, FL, m, r, h1.below hb, h2⟩
theorem PSx.ok (h : PSx w0 S0 w t s) : bX s := by obtain ⟨lp, mp, FL, m, r, h1, h2⟩ := h; exact h2
theorem PSx.only (h : PSx w0 S0 w t s) : Only S0 w0 w := by obtain ⟨lp, mp, FL, m, r, h1, h2⟩ := h; exact h1.on
end
theorem qP {o : List Nat} {n : Nat} (hd : o.Nodup) (h : n ∈ o) : (eG o n).length + 1 = o.length := by
 have hl := dj (d := fun _ => false) (o := o).2 h;have hl' : plc (n : Int) (kyL (fun _ => false) o) < o.length := by rw [cI] at hl; exact hl
 have := nT (L := o) hl';rwa [rx hd hl', nr h] at this
theorem abb {s : ShS} (h : bX s) (n : Nat) : (s.tch n).dty = s.dty := funext fun j => h.x7 n j
theorem oy (s : ShS) (n : Nat) (h : s.eY n = true) : (s.tch n).ln = fun j => if j = n then some (s.cf n) else (s.cut n).ln j := by unfold ShS.tch; rw [if_pos h]; rfl
theorem ahq (s : ShS) (n : Nat) (h : s.eY n = false) : s.tch n = s := by unfold ShS.tch; rw [if_neg (by rw [h]; decide)]
def tcE (s : ShS) (n : Nat) : Int := if s.eY n = true then 0 else 10
theorem ack {w0 w : World} {S0 : Nat -> Prop} {t n : Nat} {s : ShS} (h : PSx w0 S0 w t s) (hn : n < s.T) : Calls prog 53 #[.pointer (some ⟨t, 0, none⟩), .int .i64 (n : Int)] w fun e w' => e = .returned (.int .i64 (tcE s n)) /\ PSx w0 S0 w' t (s.tch n) := by
 obtain ⟨lp, mp, FL, m, r, h, hok⟩ := h;have hn64 : n < 64 := by have := hok.t64; omega
 have HW := ae (jD hn64);have HOK := ae hok;have HOK2 := ae (hok.tch hn);have HS := ae h;have HL : Hid (PLF w (fun b => FL b \/ w.heap.size <= b) lp s.room (kyL s.dty s.o)) := ae (h.u.li.mono fun b h1 _ => .inl h1);have HN1 : Hid (1 <= s.N) := ae (by have := hok.n3; omega);have HN2 : Hid (s.N <= 16) := ae hok.n16;have HEQ := ae (adn hok n);have HWQ := ae (acQ hok n);have HSQ : Hid (uR s.room (n : Int) (kyL s.dty s.o) = kyL (s.tch n).dty (s.tch n).o) := ae (by rw [abN hok n, abb hok n]);have HNQ := ae (s.oW n);have HM64 : Hid (s.o.length <= 64) := ae (by have := hok.len; have := hok.r64; omega);obtain ⟨g0, hg0⟩ : ∃ g0, tK s.room (n : Int) (kyL s.dty s.o) = g0 := ⟨_, rfl⟩;have HG0 := ae hg0;have htc := iT hok n;clear hg0 h hn hn64;go_enter func53, ntmps53;rcases htc with ⟨c1, c2, c3, c4⟩ | ⟨c1, cl, c2, c3, c4⟩ | ⟨c1, cl, c0, c2, c3⟩ | ⟨c1, cl, c0, c2, c3, c4⟩
 ·have HTB := ae c3;have HTE : Hid ((if s.eY n = true then (0 : Int) else 10) = 0) := ae (if_pos c3);have HTW : Hid ((s.goes n && s.eY n) = false) := ae (by rw [c2]; rfl);obtain ⟨x, hx⟩ := Option.isSome_iff_exists.1 ((hok.mem n).1 c1);have hl := HS.out.u.ln n;rw [hx] at hl;obtain ⟨a, ha, _, _⟩ := hl.some_;have HA := ae ha;have HF : Hid ((s.tch n).o.length = s.o.length /\ (s.tch n).ln = s.ln) := ae (by
   refine ⟨by rw [uq, if_pos c3, c4, List.length_cons, qP hok.nd c1], ?_⟩;rw [oy s n c3, c4]
   funext j
   by_cases e : j = n
   ·subst e; rw [if_pos rfl, eu hx, hx]
   ·rw [if_neg e])
  clear c1 c2 c3 c4 hok hx hl ha;go_upto_region 1 with fail;refine aH 2 ?_;refine ajB (ax rfl ajL kO) ?_;refine ajB (aC rfl ajL (pZ (PRu.c3 HS.out.u))) ?_;refine runs 1 ?_;refine aw rfl (aA call85 rfl (evc ajL (evc ajL evn))) ?_;refine (kr w (fun b hb => .inr hb) HL HW).mono ?_;rintro e w1 ⟨rfl, l1, t1⟩;rw [HSQ.out] at l1;obtain ⟨FL1, hs1⟩ := HS.out.list rfl l1 t1;have HS1 := ae hs1;rw [HEQ.out, HWQ.out, HG0.out, HTE.out, HTW.out];clear l1 t1 hs1;refine aQ ?_;refine runs 3 ?_;refine runs 3 ?_;refine aF 1 ?_;go_upto_region 2 with fail;refine aH 1 ?_;refine ajB (aJ false rfl ajL evk rfl) ?_;refine ah ?_;have HK : Hid ((Instr.lookup 53 (.map (some mp)) (.int .i64 (n : Int)) false).run prog w1 = .ok (.pointer (some ⟨a, 0, none⟩)) w1) := ae (by
   have := HS1.out.u.map.m9 HW;rwa [show mLn m (n : Int) = some a from by unfold mLn; rw [if_pos (by omega), Int.toNat_natCast, HA.out]] at this)
  have HSF : Hid (PSt w0 S0 w1 t lp mp FL1 (kyL (s.tch n).dty (s.tch n).o) (s.tch n).o.length m (s.tch n).ln (s.tch n).N (s.tch n).T (s.tch n).room r) := ae (by rw [HF.out.1, HF.out.2, HNQ.out.1, HNQ.out.2.1, HNQ.out.2.2]; exact HS1);go_upto_region 4 with fail;refine bU 1 ?_;go_upto_region 6 with fail;refine aH 2 ?_;refine ajB (ax rfl ajL iZ) ?_;refine ajB (aC rfl ajL (mh (PRu.c4 HS1.out.u))) ?_;refine runs 1 ?_;refine ajB (dl rfl ajL ajL HK) ?_;refine ajB (dc false underlying87 rfl ajL evk rfl) ?_;refine ah ?_;go_upto_region 8 with fail;refine bU 2 ?_;go_wp2_with fail;go_ret;exact ⟨by unfold tcE; rw [HTB.out]; rfl, lp, mp, _, _, r, HSF, HOK2⟩
 ·have HTB := ae c3;have HTE : Hid ((if s.eY n = true then (0 : Int) else 10) = 0) := ae (if_pos c3);have HTW : Hid ((s.goes n && s.eY n) = false) := ae (by rw [c2]; rfl);have hx : s.ln n = none := by
   have := (hok.lx n).2 c1;cases e : s.ln n with
   |none => rfl
   |some y => rw [e] at this; cases this
  have hl := HS.out.u.ln n;rw [hx] at hl;have HMJ := ae hl.none_;have HMN : Hid (mLn m (n : Int) = none) := ae (by unfold mLn; rw [if_pos (by omega), Int.toNat_natCast, hl.none_]);have HCN := HM64;have HF : Hid ((s.tch n).o.length = s.o.length + 1 /\ (s.tch n).ln = fun j => if j = n then some (dS s.N) else s.ln j) := ae (by
   refine ⟨by rw [uq, if_pos c3, c4, List.length_cons, lO c1], ?_⟩;rw [oy s n c3, c4, iO hx])
  clear c1 cl c2 c3 c4 hok hx hl;go_upto_region 1 with fail;refine aH 2 ?_;refine ajB (ax rfl ajL kO) ?_;refine ajB (aC rfl ajL (pZ (PRu.c3 HS.out.u))) ?_;refine runs 1 ?_;refine aw rfl (aA call85 rfl (evc ajL (evc ajL evn))) ?_;refine (kr w (fun b hb => .inr hb) HL HW).mono ?_;rintro e w1 ⟨rfl, l1, t1⟩;rw [HSQ.out] at l1;obtain ⟨FL1, hs1⟩ := HS.out.list rfl l1 t1;have HS1 := ae hs1;rw [HEQ.out, HWQ.out, HG0.out, HTE.out, HTW.out];clear l1 t1 hs1;refine aQ ?_;refine runs 3 ?_;refine runs 3 ?_;refine aF 1 ?_;go_upto_region 2 with fail;refine aH 1 ?_;refine ajB (aJ false rfl ajL evk rfl) ?_;refine ah ?_;have HK : Hid ((Instr.lookup 53 (.map (some mp)) (.int .i64 (n : Int)) false).run prog w1 = .ok (.pointer none) w1) := ae (by
   have := HS1.out.u.map.m9 HW;rwa [HMN.out] at this)
  go_upto_region 4 with fail;refine bU 1 ?_;go_upto_region 6 with fail;refine aH 2 ?_;refine ajB (ax rfl ajL iZ) ?_;refine ajB (aC rfl ajL (mh (PRu.c4 HS1.out.u))) ?_;refine runs 1 ?_;refine ajB (dl rfl ajL ajL HK) ?_;refine ajB (dc true underlying87 rfl ajL evk rfl) ?_;refine ah ?_;go_upto_region 7 with fail;refine wp_region_held (S := fun w' => w'.cell? ⟨t, 0, none⟩ = some (.int .i64 (s.N : Int)) /\ w'.cell? ⟨t, 4, none⟩ = some (.map (some mp))) (by kernel_rfl) ?_;change wpAnyH _ _ _ _ _ 16 _ _ w1.drew;refine ajY 0 rfl ⟨HS1.out.u.c0, HS1.out.u.c4⟩ ?_;refine aj0 1 rfl ⟨HS1.out.u.c0, HS1.out.u.c4⟩ ?_;refine ajE 2 rfl (fun _ hw => ax rfl ajL iZ) ⟨HS1.out.u.c0, HS1.out.u.c4⟩ ?_;refine ajE 3 rfl (fun _ hw => aC rfl ajL (mh hw.2)) ⟨HS1.out.u.c0, HS1.out.u.c4⟩ ?_;refine ajY 4 rfl ⟨HS1.out.u.c0, HS1.out.u.c4⟩ ?_;refine ajY 5 rfl ⟨HS1.out.u.c0, HS1.out.u.c4⟩ ?_;refine aj0 6 rfl ⟨HS1.out.u.c0, HS1.out.u.c4⟩ ?_;refine ajE 7 rfl (fun _ hw => ax rfl ajL ya) ⟨HS1.out.u.c0, HS1.out.u.c4⟩ ?_;refine ajE 8 rfl (fun _ hw => ax rfl ajL afE) ⟨HS1.out.u.c0, HS1.out.u.c4⟩ ?_;refine ajE 9 rfl (fun _ hw => aC rfl ajL (bY hw.1)) ⟨HS1.out.u.c0, HS1.out.u.c4⟩ ?_;refine eN 10 rfl (by kernel_rfl) rfl (aA call86 rfl (evc ajL evn)) ?_;refine (xI s.N _ HN1 HN2).mono ?_;rintro e wA ⟨q, rfl, ⟨hq1, hq2⟩, bA⟩;have bA' : Below w1.heap.size w1 wA := ((Below.refl _ w1).drew).trans bA;have hsA := HS1.out.below bA';obtain ⟨wB, hrB, hmB, htB⟩ := hsA.u.map.aaJ HW HMN (by unfold maxLen; have := HCN.out; omega) q;have HRB := ae hrB;have HSB := ae (HS1.out.add HMJ bA' hq1 hq2 (dO.new HN1 HN2) htB hmB);have HSA : Hid (wA.cell? ⟨t, 0, none⟩ = some (.int .i64 (s.N : Int)) /\ wA.cell? ⟨t, 4, none⟩ = some (.map (some mp))) := ae ⟨hsA.u.c0, hsA.u.c4⟩;have HSC : Hid (wB.cell? ⟨t, 0, none⟩ = some (.int .i64 (s.N : Int)) /\ wB.cell? ⟨t, 4, none⟩ = some (.map (some mp))) := ae ⟨HSB.out.u.c0, HSB.out.u.c4⟩;clear hq1 hq2 bA bA' hsA hrB hmB htB;refine ⟨_, rfl, HSA, ?_⟩;simp only [aa];refine ajY 11 rfl HSA ?_;refine aj1 12 rfl HSA ?_;refine aj1 13 rfl HSA ?_;refine dU 14 rfl (by kernel_rfl) rfl (iW rfl (ev rfl) (ev rfl) (ev rfl) HRB.out) HSC.out ?_;simp only [Act.put];refine ajZ 15 rfl HSC ?_;refine wpAnyH_done (by kernel_rfl) ?_ _;have HSF : Hid (PSt w0 S0 wB t lp mp FL1 (kyL (s.tch n).dty (s.tch n).o) (s.tch n).o.length (fun j => if j = n then some q else m j) (s.tch n).ln (s.tch n).N (s.tch n).T (s.tch n).room r) := ae (by rw [HF.out.1, HF.out.2, HNQ.out.1, HNQ.out.2.1, HNQ.out.2.2]; exact HSB);go_upto_region 8 with fail;refine bU 2 ?_;go_wp2_with fail;go_ret;exact ⟨by unfold tcE; rw [HTB.out]; rfl, lp, mp, _, _, r, HSF, HOK2⟩
 ·have HTB := ae c3;have HTE : Hid ((if s.eY n = true then (0 : Int) else 10) = 10) := ae (if_neg (by rw [c3]; decide));have HTW : Hid ((s.goes n && s.eY n) = false) := ae (by rw [c3, Bool.and_false]);have HF := ae (ahq s n c3);clear c1 cl c0 c2 c3 hok;go_upto_region 1 with fail;refine aH 2 ?_;refine ajB (ax rfl ajL kO) ?_;refine ajB (aC rfl ajL (pZ (PRu.c3 HS.out.u))) ?_;refine runs 1 ?_;refine aw rfl (aA call85 rfl (evc ajL (evc ajL evn))) ?_;refine (kr w (fun b hb => .inr hb) HL HW).mono ?_;rintro e w1 ⟨rfl, l1, t1⟩;rw [HSQ.out] at l1;obtain ⟨FL1, hs1⟩ := HS.out.list rfl l1 t1;have HS1 := ae hs1;rw [HEQ.out, HWQ.out, HG0.out, HTE.out, HTW.out];clear l1 t1 hs1;refine aQ ?_;refine runs 3 ?_;refine runs 3 ?_;refine aF 1 ?_;go_upto_region 2 with fail;refine aH 1 ?_;refine ajB (aJ true rfl ajL evk rfl) ?_;refine ah ?_;go_upto_region 3 with fail;refine bU 2 ?_;go_wp2_with fail;go_ret;exact ⟨by unfold tcE; rw [HTB.out]; rfl, lp, mp, _, _, r, by have := HS1.out; rw [HF.out] at this ⊢; exact this, HOK2⟩
 ·have HTB := ae c3;have HTE : Hid ((if s.eY n = true then (0 : Int) else 10) = 0) := ae (if_pos c3);have HTW : Hid ((s.goes n && s.eY n) = true) := ae (by rw [c2, c3]; rfl);have HGQ : Hid (g0 = (s.gone : Int)) := ae (by rw [<- HG0.out]; exact acK hok n c2 c3);obtain ⟨hgm, _⟩ := hok.gone c0;have hgT := hok.lt _ hgm;have hx : s.ln n = none := by
   have := (hok.lx n).2 c1;cases e : s.ln n with
   |none => rfl
   |some y => rw [e] at this; cases this
  have hl := HS.out.u.ln n;rw [hx] at hl;obtain ⟨xg, hxg⟩ := Option.isSome_iff_exists.1 ((hok.mem s.gone).1 hgm);have hlg := HS.out.u.ln s.gone;rw [hxg] at hlg;obtain ⟨ag, hag, _, _⟩ := hlg.some_;have hne : n ≠ s.gone := fun e => c1 (by rw [e]; exact hgm)
  obtain ⟨gn, hgn⟩ : ∃ gn, s.gone = gn := ⟨_, rfl⟩;obtain ⟨cn, hcn⟩ : ∃ cn, s.o.length = cn + 1 := ⟨s.o.length - 1, by have := List.length_pos_of_mem hgm; omega⟩;have HCN : Hid (cn <= 64) := ae (by have := HM64.out; omega);have HMJ : Hid ((fun j => if j = gn then none else m j) n = none) := ae (by dsimp only; rw [if_neg (by rw [<- hgn]; exact hne)]; exact hl.none_);have HMN : Hid (mLn (fun j => if j = gn then none else m j) (n : Int) = none) := ae (by unfold mLn; rw [if_pos (by omega), Int.toNat_natCast]; exact HMJ);have HMG : Hid ((mLn m (gn : Int)).isSome = true) := ae (by unfold mLn; rw [if_pos (by omega), Int.toNat_natCast, <- hgn, hag]; rfl);have HWG := ae (jD (n := gn) (by rw [<- hgn]; have := hok.t64; omega));have HF : Hid ((s.tch n).o.length = cn + 1 /\ (s.tch n).ln = fun j => if j = n then some (dS s.N) else (if j = gn then none else s.ln j)) := ae (by
   refine ⟨?_, ?_⟩
   ·rw [uq, if_pos c3, c4, List.length_cons]
    show (eG (eG s.o s.gone) n).length + 1 = _
    rw [lO (n := n) (o := eG s.o s.gone) fun e => c1 (ie.1 e).1, qP hok.nd hgm, hcn]
   ·rw [oy s n c3, c4, iO hx, <- hgn]
    rfl)
  rw [hgn] at HGQ;have HCQ := ae hcn;clear c1 cl c0 c2 c3 c4 hok hx hl hgm hgT hxg hlg hag hne hgn hcn;go_upto_region 1 with fail;refine aH 2 ?_;refine ajB (ax rfl ajL kO) ?_;refine ajB (aC rfl ajL (pZ (PRu.c3 HS.out.u))) ?_;refine runs 1 ?_;refine aw rfl (aA call85 rfl (evc ajL (evc ajL evn))) ?_;refine (kr w (fun b hb => .inr hb) HL HW).mono ?_;rintro e w1 ⟨rfl, l1, t1⟩;rw [HSQ.out] at l1;obtain ⟨FL1, hs1⟩ := HS.out.list rfl l1 t1;have HS1 := ae hs1;rw [HEQ.out, HWQ.out, HG0.out, HTE.out, HTW.out];clear l1 t1 hs1;refine aQ ?_;refine runs 3 ?_;refine runs 3 ?_;refine aF 1 ?_;go_upto_region 2 with fail;refine aH 1 ?_;refine ajB (aJ false rfl ajL evk rfl) ?_;refine ah ?_;have HS1' : Hid (PSt w0 S0 w1 t lp mp FL1 (kyL (s.tch n).dty (s.tch n).o) (cn + 1) m s.ln s.N s.T s.room r) := ae (by have := HS1.out; rwa [HCQ.out] at this);rw [HGQ.out];go_upto_region 4 with fail;refine bU 1 ?_;go_upto_region 5 with fail;refine aH 2 ?_;refine ajB (ax rfl ajL iZ) ?_;refine ajB (aC rfl ajL (mh (PRu.c4 HS1.out.u))) ?_;refine runs 1 ?_;refine uQ rfl rfl ajL ajL HS1'.out.u.map HWG HMG ?_;intro w2 hm2 ht2;simp only [aa];refine ah ?_;have HS2 := ae (HS1'.out.del ht2 hm2);clear hm2 ht2;have HK : Hid ((Instr.lookup 53 (.map (some mp)) (.int .i64 (n : Int)) false).run prog w2 = .ok (.pointer none) w2) := ae (by
   have := HS2.out.u.map.m9 HW;rwa [HMN.out] at this)
  go_upto_region 6 with fail;refine aH 2 ?_;refine ajB (ax rfl ajL iZ) ?_;refine ajB (aC rfl ajL (mh (PRu.c4 HS2.out.u))) ?_;refine runs 1 ?_;refine ajB (dl rfl ajL ajL HK) ?_;refine ajB (dc true underlying87 rfl ajL evk rfl) ?_;refine ah ?_;go_upto_region 7 with fail;refine wp_region_held (S := fun w' => w'.cell? ⟨t, 0, none⟩ = some (.int .i64 (s.N : Int)) /\ w'.cell? ⟨t, 4, none⟩ = some (.map (some mp))) (by kernel_rfl) ?_;change wpAnyH _ _ _ _ _ 16 _ _ w2.drew;refine ajY 0 rfl ⟨HS2.out.u.c0, HS2.out.u.c4⟩ ?_;refine aj0 1 rfl ⟨HS2.out.u.c0, HS2.out.u.c4⟩ ?_;refine ajE 2 rfl (fun _ hw => ax rfl ajL iZ) ⟨HS2.out.u.c0, HS2.out.u.c4⟩ ?_;refine ajE 3 rfl (fun _ hw => aC rfl ajL (mh hw.2)) ⟨HS2.out.u.c0, HS2.out.u.c4⟩ ?_;refine ajY 4 rfl ⟨HS2.out.u.c0, HS2.out.u.c4⟩ ?_;refine ajY 5 rfl ⟨HS2.out.u.c0, HS2.out.u.c4⟩ ?_;refine aj0 6 rfl ⟨HS2.out.u.c0, HS2.out.u.c4⟩ ?_;refine ajE 7 rfl (fun _ hw => ax rfl ajL ya) ⟨HS2.out.u.c0, HS2.out.u.c4⟩ ?_;refine ajE 8 rfl (fun _ hw => ax rfl ajL afE) ⟨HS2.out.u.c0, HS2.out.u.c4⟩ ?_;refine ajE 9 rfl (fun _ hw => aC rfl ajL (bY hw.1)) ⟨HS2.out.u.c0, HS2.out.u.c4⟩ ?_;refine eN 10 rfl (by kernel_rfl) rfl (aA call86 rfl (evc ajL evn)) ?_;refine (xI s.N _ HN1 HN2).mono ?_;rintro e wA ⟨q, rfl, ⟨hq1, hq2⟩, bA⟩;have bA' : Below w2.heap.size w2 wA := ((Below.refl _ w2).drew).trans bA;have hsA := HS2.out.below bA';obtain ⟨wB, hrB, hmB, htB⟩ := hsA.u.map.aaJ HW HMN (by unfold maxLen; have := HCN.out; omega) q;have HRB := ae hrB;have HSB := ae (HS2.out.add HMJ bA' hq1 hq2 (dO.new HN1 HN2) htB hmB);have HSA : Hid (wA.cell? ⟨t, 0, none⟩ = some (.int .i64 (s.N : Int)) /\ wA.cell? ⟨t, 4, none⟩ = some (.map (some mp))) := ae ⟨hsA.u.c0, hsA.u.c4⟩;have HSC : Hid (wB.cell? ⟨t, 0, none⟩ = some (.int .i64 (s.N : Int)) /\ wB.cell? ⟨t, 4, none⟩ = some (.map (some mp))) := ae ⟨HSB.out.u.c0, HSB.out.u.c4⟩;clear hq1 hq2 bA bA' hsA hrB hmB htB;refine ⟨_, rfl, HSA, ?_⟩;simp only [aa];refine ajY 11 rfl HSA ?_;refine aj1 12 rfl HSA ?_;refine aj1 13 rfl HSA ?_;refine dU 14 rfl (by kernel_rfl) rfl (iW rfl (ev rfl) (ev rfl) (ev rfl) HRB.out) HSC.out ?_;simp only [Act.put];refine ajZ 15 rfl HSC ?_;refine wpAnyH_done (by kernel_rfl) ?_ _;have HSF : Hid (PSt w0 S0 wB t lp mp FL1 (kyL (s.tch n).dty (s.tch n).o) (s.tch n).o.length (fun j => if j = n then some q else (fun j => if j = gn then none else m j) j) (s.tch n).ln (s.tch n).N (s.tch n).T (s.tch n).room r) := ae (by rw [HF.out.1, HF.out.2, HNQ.out.1, HNQ.out.2.1, HNQ.out.2.2]; exact HSB);go_upto_region 8 with fail;refine bU 2 ?_;go_wp2_with fail;go_ret;exact ⟨by unfold tcE; rw [HTB.out]; rfl, lp, mp, _, _, r, HSF, HOK2⟩
end Go.Proofs.YtlmdklakcmnaiaaGreatDoor
