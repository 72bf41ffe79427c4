import Derived.Test.YtdmhelalbemlcaaGreatDoorSlai
import Derived.Shelf.Sort.Plain
import Derived.Shelf.Slices.In.SortNone
namespace Go.Proofs.YtdmhelalbemlcaaGreatDoor
set_option maxHeartbeats 8000000
open Go.Proofs.Tryz
open Go.RowKit
set_option linter.unusedVariables false
set_option linter.unusedSimpArgs false
set_option maxRecDepth 100000
theorem aip : (prog.info? 165).map (fun i => i.zero) = some (some (.agg (ip (lf0 0)).toArray)) := by kernel_rfl
theorem zf : (prog.info? 162).map (·.size) = some 16 := by kernel_rfl
section
variable {ρ : Operand -> Value} {o : Oper} {x y z : Operand} {w : World} {b off p j : Nat} {c : Blk}
theorem ada : (Instr.fieldAt 165 (.pointer (some ⟨b, 0, none⟩)) 0).run prog w = .ok (.pointer (some ⟨b, 0, none⟩)) w := by kernel_rfl
theorem oX : (Instr.fieldAt 165 (.pointer (some ⟨b, 0, none⟩)) 1).run prog w = .ok (.pointer (some ⟨b, 1, none⟩)) w := by kernel_rfl
theorem pU : (Instr.fieldAt 165 (.pointer (some ⟨b, 0, none⟩)) 2).run prog w = .ok (.pointer (some ⟨b, 17, none⟩)) w := by kernel_rfl
theorem xc : (Instr.fieldAt 165 (.pointer (some ⟨b, 0, none⟩)) 3).run prog w = .ok (.pointer (some ⟨b, 33, none⟩)) w := by kernel_rfl
theorem mB : (Instr.fieldAt 165 (.pointer (some ⟨b, 0, none⟩)) 4).run prog w = .ok (.pointer (some ⟨b, 1057, none⟩)) w := by kernel_rfl
theorem rU (hj : j < 16) : (Instr.indexAt 162 (.pointer (some ⟨b, off, none⟩)) (.int .i64 (j : Int))).run prog w = .ok (.pointer (some ⟨b, off + j, none⟩)) w := by
 have e : (0 <= (j : Int) /\ (j : Int) < 16) := by omega
 simp [Instr.indexAt, Instr.sureAddr, asIntOf, run_underlying underlying162, Tryz.sizeOf4, Addr.add_mid, e, hj]
theorem ahf (hj : j < 16) : (Instr.indexAt 163 (.pointer (some ⟨b, off, none⟩)) (.int .i64 (j : Int))).run prog w = .ok (.pointer (some ⟨b, off + j * 64, none⟩)) w := by
 have e : (0 <= (j : Int) /\ (j : Int) < 16) := by omega
 simp [Instr.indexAt, Instr.sureAddr, asIntOf, run_underlying underlying163, Tryz.sizeOf45, Addr.add_mid, e, hj]
theorem xH {ad : Addr} {u : Value} {n : Int} (h : w.cell? ad = some u) (hf : w.frozen? ad = false) : (Instr.storeAt 46 (.pointer (some ad)) (.int .u64 n)).run prog w = .ok () (w.setCell ad (.int .u64 n)) := by simp [go_sem, h, hf]
theorem qZ (n : Int) : ip (lf0 n) = .int .i64 n :: (ip (lf0 0)).tail := by
 refine List.ext_getElem? fun i => ?_
 cases i with
 |zero => rw [jt _ (by omega)]; rfl
 |succ i =>
  rw [List.getElem?_cons_succ, List.getElem?_tail];by_cases hi : i + 1 < 1058
  ·rw [jt _ hi, jt _ hi]; unfold fQ; rw [if_neg (show ¬ i + 1 = 0 by omega)]; rfl
  ·rw [List.getElem?_eq_none (by rw [ik]; omega), List.getElem?_eq_none (by rw [ik]; omega)]
theorem xx (n : Int) : (Instr.build 165 #[(0, .int .i64 n)]).run prog w = .ok (.agg (ip (lf0 n)).toArray) w := by
 have hz := f4 aip w;have h1 := da (place := fun i => (#[(0, 1), (1, 16), (17, 16), (33, 1024), (1057, 1)] : Array (Nat × Nat))[i]?) (i := 0) (off := 0) (size := 1) (v := .int .i64 n) (pre := []) (mid := [.int .i64 0]) (post := (ip (lf0 0)).tail) (vs := [.int .i64 n]) (rest := []) rfl rfl rfl rfl rfl;simp only [List.nil_append, List.append_nil, List.cons_append] at h1;rw [<- qZ n, <- qZ 0] at h1;have hc : (Value.agg (ip (lf0 0)).toArray).cells = (ip (lf0 0)).toArray := rfl;simp only [Instr.build, Sem.run_bind, hz, run_underlying underlying165, Result.andThen_ok, hc];refine Eq.trans (congrArg (fun r => Result.andThen r _) (?h : _ = Result.ok #[(0, 1), (1, 16), (17, 16), (33, 1024), (1057, 1)] w)) ?_
 case h => kernel_rfl
 simp only [Result.andThen_ok];have h4 : Instr.fill (fun i => (#[(0, 1), (1, 16), (17, 16), (33, 1024), (1057, 1)] : Array (Nat × Nat))[i]?) (ip (lf0 n)).toArray [] = some (ip (lf0 n)).toArray := by rw [Instr.fill]
 rw [h1.trans h4]
 rfl
theorem abS : (Instr.build 162 #[]).run prog w = .ok (.agg qv.toArray) w := by kernel_rfl
theorem wY (ho : o.op = .store 162 x y) (hx : ρ x = .pointer (some ⟨b, off, none⟩)) (hy : ρ y = .agg qv.toArray) (ht : w.there b off 16) : (execOp ρ o).run prog w = .ok .skip (w.setCells b off qv) :=
 hJ zf (fun v hv => by simp [qv] at hv; subst hv; rfl) ho hx hy ht
end
def lU : Obj -> Prop
 |.cells _ t _ => t = 165
 |_ => False
section
variable {w w' : World} {p B : Nat} {x : LnF} {s : LnS}
theorem LnA.below (h : LnA w p x) (hb : Below w.heap.size w w') : LnA w' p x := aB h hb
theorem LnA.drew (h : LnA w p x) : LnA w.drew p x := h
end
theorem jD (w : World) {p : Nat} {x : LnF} (h : LnA w p x) : Calls prog 125 #[.pointer (some ⟨p, 0, none⟩)] w fun e w' => e = .returned (.int .i64 x.n) /\ w = w' := by
 have HL := ae h;clear h;go_enter func125, ntmps125;go_upto_region 1 with fail;refine aI 1 ?_;refine aku (cI false underlying109 rfl akE evk rfl) ?_;refine ah ?_;go_upto_region 3 with fail;refine aI 2 ?_;refine aku (ax rfl akE ada) ?_;refine aku (aC rfl akE (bS HL.out.cN)) ?_;refine aH 1 ?_;go_wp2_with fail;go_ret;exact ⟨rfl, rfl⟩
theorem sW (w : World) : Calls prog 125 #[.pointer none] w fun e w' => e = .returned (.int .i64 0) /\ w = w' := by
 go_enter func125, ntmps125;go_upto_region 1 with fail;refine aI 1 ?_;refine aku (cI true underlying109 rfl akE evk rfl) ?_;refine ah ?_;go_wp2_with fail;go_ret;exact ⟨rfl, rfl⟩
def NoL (w : World) (v : Value) : Prop := v = .pointer none \/ ∃ p, v = .pointer (some ⟨p, 0, none⟩) /\ LnA w p (lf0 0)
theorem NoL.below {w w' : World} {v : Value} (h : NoL w v) (hb : Below w.heap.size w w') : NoL w' v := by
 rcases h with h | ⟨p, h, h1⟩
 ·exact .inl h
 ·exact .inr ⟨p, h, h1.below hb⟩
theorem lr (w : World) {v : Value} (h : NoL w v) : Calls prog 125 #[v] w fun e w' => e = .returned (.int .i64 0) /\ w = w' := by
 rcases h with rfl | ⟨p, rfl, h⟩
 ·exact sW w
 ·exact jD w h
theorem rH (w : World) {v : Value} {n : Int} (t : Bool) (h : Calls prog 125 #[v] w fun e w' => e = .returned (.int .i64 n) /\ w = w') (ht : decide (0 < n) = t) : Calls prog 123 #[v] w fun e w' => e = .returned (.bool t) /\ w = w' := by
 have HC := ae h;have HT := ae ht;clear h ht;go_enter func123, ntmps123;go_upto_region 1 with fail;refine aI 1 ?_;refine aw rfl (aA call125 rfl (evc akE evn)) ?_;refine (HC.out).mono ?_;rintro e w' ⟨rfl, rfl⟩;refine aO ?_;refine aku (dX t rfl akE evk HT) ?_;refine aH 1 ?_;go_wp2_with fail;go_ret;exact ⟨rfl, rfl⟩
theorem aaP (w : World) (v : Value) (m : Int) (h : NoL w v) : Calls prog 111 #[v, .int .i64 m] w fun e w' => e = .returned (.int .i64 1) /\ w = w' := by
 have HC := ae (rH w false (lr w h) (by decide));clear h;go_enter func111, ntmps111;go_upto_region 1 with fail;refine aI 1 ?_;refine aw rfl (aA call123 rfl (evc akE evn)) ?_;refine (HC.out).mono ?_;rintro e w' ⟨rfl, rfl⟩;refine aO ?_;refine aH 2 ?_;go_wp2_with fail;go_ret;exact ⟨rfl, rfl⟩
theorem ain (w : World) (m : Int) {p : Nat} {s : LnS} (h : LnA w p (lf s)) (hs : dI s) : Calls prog 111 #[.pointer (some ⟨p, 0, none⟩), .int .i64 m] w fun e w' => e = .returned (.int .i64 (lnE s m)) /\ w = w' := by
 have HC := ae (rH w true (jD w h) (ao (by have := hs.lo; show (0 : Int) < (s.l.length : Int); omega)));have HL := ae h;clear h hs;go_enter func111, ntmps111;go_upto_region 1 with fail;refine aI 1 ?_;refine aw rfl (aA call123 rfl (evc akE evn)) ?_;refine (HC.out).mono ?_;rintro e w' ⟨rfl, rfl⟩;refine aO ?_;refine aH 2 ?_;go_upto_region 3 with fail;refine aI 1 ?_;by_cases h0 : m < 0
 ·have H0 : Hid (decide (m < 0) = true) := ae (ao h0);have HE : Hid (lnE s m = 2) := ae (mV (by unfold lnR; rw [am (by omega)]; rfl));clear h0;refine aku (aZ true rfl akE evk H0) ?_;refine bj 6 rfl (aM rfl akE) (by kernel_rfl) ?_;simp only [bQ, ac, aa];refine aH 2 ?_;go_wp2_with fail;go_ret;exact ⟨by rw [HE.out]; rfl, rfl⟩
 have H0 : Hid (decide (m < 0) = false) := ae (am h0);refine aku (aZ false rfl akE evk H0) ?_;refine runs 3 ?_;refine runs 1 ?_;refine akB (ax rfl akE ada) ?_;refine akB (aC rfl akE (bS HL.out.cN)) ?_;by_cases h1 : (s.l.length : Int) <= m
 ·have H1 : Hid (decide ((s.l.length : Int) <= m) = true) := ae (ao h1);have HE : Hid (lnE s m = 2) := ae (mV (by unfold lnR; rw [am (p := m < (s.l.length : Int)) (by omega), Bool.and_false]));clear h0 h1;refine akB (dC true rfl akE akE H1) ?_;refine aH 2 ?_;go_wp2_with fail;go_ret;exact ⟨by rw [HE.out]; rfl, rfl⟩
 have H1 : Hid (decide ((s.l.length : Int) <= m) = false) := ae (am h1);have HE : Hid (lnE s m = 0) := ae (by unfold lnE lnR; rw [ao (p := 0 <= m) (by omega), ao (p := m < (s.l.length : Int)) (by omega)]; rfl);clear h0 h1;refine akB (dC false rfl akE akE H1) ?_;refine aH 2 ?_;go_wp2_with fail;go_ret;exact ⟨by rw [HE.out]; rfl, rfl⟩
theorem gy (w : World) {m e : Int} {p : Nat} {s : LnS} (h : LnA w p (lf s)) (hs : dI s) (he : lnE s m = e) : Calls prog 111 #[.pointer (some ⟨p, 0, none⟩), .int .i64 m] w fun a w' => a = .returned (.int .i64 e) /\ w = w' := by
 subst he; exact ain w m h hs
theorem x9 (N : Nat) (w : World) (h1 : 1 <= N) (h2 : N <= 16) : Calls prog 113 #[.int .i64 (N : Int)] w fun e w' => ∃ p, e = .returned (.tuple #[.pointer (some ⟨p, 0, none⟩), .int .i64 0]) /\ (LnA w' p (lf (dQ N)) /\ w.heap.size <= p) /\ Below w.heap.size w w' := by
 have H0 : Hid (decide ((N : Int) < 1) = false) := ae (am (by omega));have H1 : Hid (decide ((16 : Int) < (N : Int)) = false) := ae (am (by omega));clear h1 h2;go_enter func113, ntmps113;go_upto_region 1 with fail;refine aI 1 ?_;refine aku (aZ false rfl akE evk H0) ?_;refine runs 2 ?_;refine akB (dX false rfl akE evk H1) ?_;refine aH 1 ?_;go_upto_region 3 with fail;refine aI 1 ?_;refine aku (rv rfl akE (xx _)) ?_;refine aku (ch (cs := ip (lf0 (N : Int))) rfl akE) ?_;refine aH 2 ?_;go_wp2_with fail;go_ret2;refine ⟨_, rfl, ⟨?_, aj⟩, ak.alloc aj _⟩;rw [ahe];exact heap_alloc_new w _
def PLn (w : World) (B p : Nat) (s : LnS) : Prop := LnA w p (lf s) /\ B <= p /\ dI s
theorem agI {s : LnS} {k : Nat} (b : Blk) (hs : dI s) (hk : k < s.l.length) (hn : (dd s k).kn = false) : lf (fq s (k : Int) b) = { lf s with kn := fO (lf s).kn k true, bl := fO (lf s).bl k b } := by
 have hd : (lf s).dt k = false := by show (dd s k).dt = false; rw [hs.no k hk hn]; rfl
 rw [qL hk hn, xp hk];exact congrArg (fun d => (⟨(s.l.length : Int), fO (lf s).kn k true, d, fO (lf s).bl k b, (s.f : Int)⟩ : LnF)) (zv hd)
theorem xi {s : LnS} {k Q : Nat} (b : Blk) (hk : k < s.l.length) (hq : Q ≠ 0) : lf (eJ s (k : Int) b Q) = { lf s with kn := fO (lf s).kn k true, bl := fO (lf s).bl k b, dt := fO (lf s).dt k true, f := (nD s.f Q : Nat) } := by
 rw [pZ hk hq, xp hk]; rfl
theorem ahi {s : LnS} {k : Nat} (hk : k < s.l.length) : lf (fX s (k : Int)) = { lf s with kn := fO (lf s).kn k false, dt := fO (lf s).dt k false, bl := fO (lf s).bl k aD } := by
 rw [acG hk, xp hk]; rfl
theorem agX (w : World) (m : Int) {B p : Nat} {s : LnS} (h : PLn w B p s) : Calls prog 58 #[.pointer (some ⟨p, 0, none⟩), .int .i64 m] w fun e w' => e = .returned (.tuple #[blk (lnG s m).b, .bool (lnG s m).kn]) /\ Below w.heap.size w w' := by
 obtain ⟨h, hB, hs⟩ := h;have HB1 : Hid (Below w.heap.size w (w.alloc (.cells (cel aD).toArray 45))) := ae (ak.alloc aj _);have HL : Hid (LnA (w.alloc (.cells (cel aD).toArray 45)) p (lf s)) := ae (h.below HB1);have HT := ae (dS w aD 45);have HNE : Hid (p ≠ w.heap.size) := ae (by have := h.lt; omega);have HS := ae hs;clear h hB hs;go_enter func58, ntmps58;go_upto_region 0 with fail;refine af ?_;refine aku (aU rfl) ?_;refine aH 1 ?_;generalize w.alloc (.cells (cel aD).toArray 45) = w1 at *;cases hr : lnR s m
 ·have HE := ae (mV hr);have HR := ae hr;clear hr;go_upto_region 1 with fail;refine aI 2 ?_;refine aw rfl (aA call111 rfl (evc akE (evc akE evn))) ?_;refine (gy _ HL HS HE).mono ?_;rintro e w' ⟨rfl, rfl⟩;refine aO ?_;refine aku (aL true rfl akE evk rfl) ?_;refine ah ?_;go_upto_region 2 with fail;refine af ?_;refine aku (cC (c := aD) (parts := []) rfl rfl) ?_;refine aG rfl (aS rfl (ev rfl) (ev rfl) HT.out) ?_;simp only [aa];refine aH 1 ?_;go_wp2_with fail;exact bodyPost_ret (bZ rfl _ _ _ rfl (World.rangeAt_setCells_same _ _ _ _ (by rw [aJ]; exact HT))) rfl ⟨by rw [ag4 HR.out]; rfl, below_setCells HB1 aj _⟩
 obtain ⟨k, rfl, hk⟩ := jy hr;have HE := ae (sI hk);have HKL := ae hk;have HK : Hid (k < 16) := ae (ar hk HS.out.hi);clear hr hk;go_upto_region 1 with fail;refine aI 2 ?_;refine aw rfl (aA call111 rfl (evc akE (evc akE evn))) ?_;refine (gy _ HL HS HE).mono ?_;rintro e w' ⟨rfl, rfl⟩;refine aO ?_;refine aku (aL false rfl akE evk rfl) ?_;refine ah ?_;have HS1 : Hid (LnA (World.drew w1) p (lf s) /\ (World.drew w1).there w.heap.size 0 64) := ae ⟨HL.out.drew, there_drew HT⟩;have HW2 : Hid (LnA ((World.drew w1).setCells w.heap.size 0 (cel (dd s k).b)) p (lf s)) := ae (by
  show _ = _
  rw [fa w.heap.size _ _ _ p HNE.out];exact HL.out.drew)
 have HT2 : Hid (((World.drew w1).setCells w.heap.size 0 (cel (dd s k).b)).there w.heap.size 0 64) := ae (aaB (there_drew HT));have HR2 : Hid (((World.drew w1).setCells w.heap.size 0 (cel (dd s k).b)).rangeAt w.heap.size 0 (cel (dd s k).b)) := ae (World.rangeAt_setCells_same _ _ _ _ (by rw [aJ]; exact there_drew HT));have HB2 : Hid (Below w.heap.size w ((World.drew w1).setCells w.heap.size 0 (cel (dd s k).b))) := ae (below_setCells HB1.out.drew aj _);go_upto_region 3 with fail;refine wp_region_held (S := fun w' => LnA w' p (lf s) /\ w'.there w.heap.size 0 64) (by kernel_rfl) ?_;change wpAnyH _ _ _ _ _ 14 _ _ w1.drew;refine akR 0 rfl HS1 ?_;refine akR 1 rfl HS1 ?_;refine akT 2 rfl HS1 ?_;refine akx 3 rfl (fun _ hw => ax rfl akE xc) HS1 ?_;refine akx 4 rfl (fun _ hw => cH rfl akE akE (ahf HK)) HS1 ?_;refine akx 5 rfl (fun _ hw => aW (c := (dd s k).b) rfl akE (hw.1.cB HK)) HS1 ?_;refine akR 6 rfl HS1 ?_;refine akR 7 rfl HS1 ?_;refine akT 8 rfl HS1 ?_;refine akx 9 rfl (fun _ hw => ax rfl akE oX) HS1 ?_;refine akx 10 rfl (fun _ hw => cH rfl akE akE (rU HK)) HS1 ?_;refine akx 11 rfl (fun _ hw => aC rfl akE (vi (hw.1.cK HK))) HS1 ?_;refine dr 12 rfl (by kernel_rfl) rfl (aS rfl (ev rfl) (ev rfl) (there_drew HT.out)) ⟨HW2.out, HT2.out⟩ ?_;simp only [Act.put];generalize (World.drew w1).setCells w.heap.size 0 (cel (dd s k).b) = w2 at *;refine akS 13 rfl ⟨HW2, HT2⟩ ?_;refine wpAnyH_done (by kernel_rfl) ?_ _;go_wp2_with fail;exact bodyPost_ret (bZ rfl _ _ _ rfl HR2) rfl ⟨by rw [aih HKL.out]; rfl, HB2⟩
theorem aci (w : World) {B p : Nat} {s : LnS} (h : PLn w B p s) : Calls prog 69 #[.pointer (some ⟨p, 0, none⟩)] w fun e w' => ∃ v, e = .returned v /\ aP bY w' w.heap.size v (lnD s) /\ Below w.heap.size w w' := by
 obtain ⟨h, hB, hs⟩ := h;have HH := ae h;have HN : Hid (s.l.length <= 16) := ae hs.hi;have HC := ae (jD w h);clear h hB hs;go_enter func69, ntmps69;go_upto_region 2 with fail;refine aI 1 ?_;refine aw rfl (aA call125 rfl (evc akE evn)) ?_;refine (HC.out).mono ?_;rintro e w' ⟨rfl, rfl⟩;refine aO ?_;refine aH 1 ?_;go_wp2_with fail
 go_loopw [3, 7] (fun z c wr => ∃ i : Nat, c = .int .i64 i /\ i <= s.l.length /\ aP bY wr w.heap.size z (fU s.l i) /\ Below w.heap.size w wr) (fun _ c _ => s.l.length - (intOf c).toNat)
 case atStart => exact ⟨0, by go_num, Nat.zero_le _, aP.nil _ _, ak⟩
 case round =>
  obtain ⟨i, rfl, hi, hm, hb⟩ := hrel;have HM := ae hm;have HW := ae hb;have HL := ae (HH.out.below hb);have HBS : Hid (w.heap.size <= wr.heap.size) := ae hb.size;by_cases hlt : i < s.l.length
  ·have HI := ae hlt;have HK : Hid (i < 16) := ae (by have := HN.out; omega);have HT : Hid (decide ((i : Int) < (s.l.length : Int)) = true) := ae (ao (by omega));have HA : Hid (IntKind.i64.wrap ((i : Int) + 1) = ((i + 1 : Nat) : Int)) := ae (by have := HN.out; rw [ajG ⟨by omega, by omega⟩]; omega);clear hm hb hi hlt;go_upto_region 3 with fail;refine af ?_;refine aku (aZ true rfl akE akE HT) ?_;refine ah ?_;go_upto_region 4 with fail;refine co 2 ?_;cases hd : (dd s i).dt
   ·have HD := ae hd;have HST : Hid (fU s.l (i + 1) = fU s.l i) := ae (by rw [fU, show (s.l.getD i lc0).dt = false from HD.out]; simp);clear hd;go_upto_region 5 with fail;refine aI 3 ?_;refine aku (ax rfl akE pU) ?_;refine aku (cH rfl akE akE (rU HK)) ?_;refine aku (aC rfl akE (vi ((HL.out.cD HK.out).trans (congrArg (fun t => some (Value.bool t)) HD)))) ?_;refine ah ?_;go_upto_region 7 with fail;refine af ?_;refine aku (bJ rfl akE evk HA) ?_;refine aH 1 ?_;go_wp2_with fail;go_roundw
    case rel => exact ⟨i + 1, by go_num, HI, by rw [HST.out]; exact HM, HW⟩
    case measure => have := HI.out; simp [intOf]; omega
   have HD := ae hd;have HST : Hid (fU s.l (i + 1) = fU s.l i ++ [(i : Int)]) := ae (by rw [fU, show (s.l.getD i lc0).dt = true from HD.out]; rfl);have hsz : (wr.alloc (.cells #[.int .i64 (i : Int)] 3)).heap.size = wr.heap.size + 1 := al;obtain ⟨v2, w2, hrun, hm2, hg2⟩ := gB bY (wr.alloc (.cells #[.int .i64 (i : Int)] 3)) 48 w.heap.size (wr.heap.size + 1) 1 1 u3 (fU s.l i) [(i : Int)] (some ⟨wr.heap.size, 0, none⟩) (aP.below HM (ak.alloc aj _)) (fg (E := bY) (l := [(i : Int)]) wr #[.int .i64 (i : Int)] 3 rfl) (by have := HBS.out; omega) (by have := yA s.l i; have := HI.out; have := HN.out; simp; omega);have HRUN := ae hrun;have HM2 : Hid (aP bY w2 w.heap.size v2 (fU s.l (i + 1))) := ae (by rw [HST.out]; exact hm2);have HW2 : Hid (Below w.heap.size w w2) := ae ((HW.out.trans (ak.alloc HBS _)).grown hg2 (by have := HBS.out; omega) (fun j' hj' => HM.out.gH j' hj'));clear hd hsz hrun hm2 hg2;go_upto_region 5 with fail;refine aI 3 ?_;refine aku (ax rfl akE pU) ?_;refine aku (cH rfl akE akE (rU HK)) ?_;refine aku (aC rfl akE (vi ((HL.out.cD HK.out).trans (congrArg (fun t => some (Value.bool t)) HD)))) ?_;refine ah ?_;go_upto_region 6 with fail;refine aI 2 ?_;refine aku (du (E := bY) (a := (i : Int)) rfl akE rfl (by decide)) ?_;refine aku (fN (E := bY) rfl akE akE HRUN) ?_;refine aH 1 ?_;go_upto_region 7 with fail;refine af ?_;refine aku (bJ rfl akE evk HA) ?_;refine aH 1 ?_;go_wp2_with fail;go_roundw
   case rel => exact ⟨i + 1, by go_num, HI, HM2, HW2⟩
   case measure => have := HI.out; simp [intOf]; omega
  have hin : i = s.l.length := by omega
  subst hin;have HT : Hid (decide ((s.l.length : Int) < (s.l.length : Int)) = false) := ae (am (by omega));clear hlt hi hm hb;go_upto_region 3 with fail;refine af ?_;refine aku (aZ false rfl akE akE HT) ?_;refine ah ?_;go_wp2_with fail;go_ret;exact ⟨_, rfl, HM, HW⟩
theorem acQ (w : World) {p : Nat} {x : LnF} (h : LnA w p x) : Calls prog 70 #[.pointer (some ⟨p, 0, none⟩)] w fun e w' => e = .returned (.int .u64 x.f) /\ w = w' := by
 have HL := ae h;clear h;go_enter func70, ntmps70;go_upto_region 1 with fail;refine aI 1 ?_;refine aku (cI false underlying109 rfl akE evk rfl) ?_;refine ah ?_;go_upto_region 3 with fail;refine aI 2 ?_;refine aku (ax rfl akE mB) ?_;refine aku (aC rfl akE (kK HL.out.cF)) ?_;refine aH 1 ?_;go_wp2_with fail;go_ret;exact ⟨rfl, rfl⟩
theorem ahY (w : World) (v : Value) (m : Int) (h : NoL w v) : Calls prog 58 #[v, .int .i64 m] w fun e w' => e = .returned (.tuple #[blk aD, .bool false]) /\ Below w.heap.size w w' := by
 have HB1 : Hid (Below w.heap.size w (w.alloc (.cells (cel aD).toArray 45))) := ae (ak.alloc aj _);have HN := ae (h.below HB1);have HT := ae (dS w aD 45);clear h;go_enter func58, ntmps58;go_upto_region 0 with fail;refine af ?_;refine aku (aU rfl) ?_;refine aH 1 ?_;generalize w.alloc (.cells (cel aD).toArray 45) = w1 at *;go_upto_region 1 with fail;refine aI 2 ?_;refine aw rfl (aA call111 rfl (evc akE (evc akE evn))) ?_;refine (aaP _ _ m HN).mono ?_;rintro e w' ⟨rfl, rfl⟩;refine aO ?_;refine aku (aL true rfl akE evk rfl) ?_;refine ah ?_;go_upto_region 2 with fail;refine af ?_;refine aku (cC (c := aD) (parts := []) rfl rfl) ?_;refine aG rfl (aS rfl (ev rfl) (ev rfl) HT.out) ?_;simp only [aa];refine aH 1 ?_;go_wp2_with fail;exact bodyPost_ret (bZ rfl _ _ _ rfl (World.rangeAt_setCells_same _ _ _ _ (by rw [aJ]; exact HT))) rfl ⟨rfl, below_setCells HB1 aj _⟩
theorem aaX (w : World) (v : Value) (h : NoL w v) : Calls prog 69 #[v] w fun e w' => e = .returned (.slice none 0 0) /\ Below w.heap.size w w' := by
 have HC := ae (lr w h);clear h;go_enter func69, ntmps69;go_upto_region 2 with fail;refine aI 1 ?_;refine aw rfl (aA call125 rfl (evc akE evn)) ?_;refine (HC.out).mono ?_;rintro e w' ⟨rfl, rfl⟩;refine aO ?_;refine aH 1 ?_;go_wp2_with fail
 go_loopw [3, 7] (fun z c wr => c = .int .i64 0 /\ z = .slice none 0 0 /\ w = wr) (fun _ c _ => 0)
 case atStart => exact ⟨by first | rfl | trivial, by first | rfl | trivial, by first | rfl | trivial⟩
 case round =>
  obtain ⟨rfl, rfl, rfl⟩ := hrel;go_upto_region 3 with fail;refine af ?_;refine aku (aZ false rfl akE akE rfl) ?_;refine ah ?_;go_wp2_with fail;go_ret;exact ⟨rfl, ak⟩
theorem bU.setCells {I : Obj -> Prop} {F : Nat -> Prop} {w w1 : World} {p : Nat} {ob : Obj} (h : bU I F w w1) (hF : F p) (ho : w1.heap[p]? = some ob) (hI : ∀ cs t fr, ob = .cells cs t fr -> I ob) (hc : I ob) (o : Nat) (vs : List Value) : bU I F w (w1.setCells p o vs) :=
 h.trans (Only.setCells (Only.refl _ _) (.inl ⟨hF, fun o2 ho2 => by rw [ho] at ho2; cases ho2; exact hc⟩) vs o)
def mR (w : World) (B : Nat -> Prop) (p : Nat) (s : LnS) : Prop := LnA w p (lf s) /\ B p /\ dI s
section
variable {B : Nat -> Prop} {w : World} {p : Nat} {x : LnF}
theorem LnA.t1F {w0 : World} (h : LnA w p x) (ht : bU lU B w0 w) (hB : B p) (j : Nat) (u : Value) : bU lU B w0 (w.setCell ⟨p, j, none⟩ u) := ht.setCell (p := ⟨p, j, none⟩) hB h rfl u
theorem LnA.tnF {w0 : World} (h : LnA w p x) (ht : bU lU B w0 w) (hB : B p) (o : Nat) (vs : List Value) : bU lU B w0 (w.setCells p o vs) := ht.setCells hB h (fun _ _ _ _ => rfl) rfl o vs
end
theorem tj (w : World) (k : Nat) (b : Blk) {B : Nat -> Prop} {p : Nat} {x : LnF} (h : LnA w p x) (hk : k < 16) (hB : B p) : Calls prog 118 #[.pointer (some ⟨p, 0, none⟩), .int .i64 (k : Int), blk b] w fun e w' => e = .returned (.tuple #[]) /\ LnA w' p { x with kn := fO x.kn k true, bl := fO x.bl k b } /\ bU lU B w w' := by
 have HK := ae hk;have hne : w.heap.size ≠ p := by have := h.lt; omega
 have HB1 : Hid (Below w.heap.size w (w.alloc (.cells (cel b).toArray 45))) := ae (ak.alloc aj _);have HL : Hid (LnA (w.alloc (.cells (cel b).toArray 45)) p x) := ae (h.below HB1);have HX : Hid ((w.alloc (.cells (cel b).toArray 45)).rangeAt w.heap.size 0 (cel b)) := ae (cP w (cel b) _);have HNE := ae hne;have HBp := ae hB;clear h hk hne hB;go_enter func118, ntmps118;go_upto_region 0 with fail;refine af ?_;refine aku (cd rfl akE) ?_;refine ah ?_;generalize w.alloc (.cells (cel b).toArray 45) = w1 at *;have HXd : Hid ((World.drew w1).rangeAt w.heap.size 0 (cel b)) := ae HX;have HX2 : Hid (((World.drew w1).setCell ⟨p, 1 + k, none⟩ (.bool true)).rangeAt w.heap.size 0 (cel b)) := ae (World.rangeAt_setCells_apart HXd p (1 + k) [.bool true] (.inl HNE));have HL2 : Hid (LnA ((World.drew w1).setCell ⟨p, 1 + k, none⟩ (.bool true)) p { x with kn := fO x.kn k true }) := ae (HL.out.drew.sK HK true);have HT2 : Hid (bU lU B w ((World.drew w1).setCell ⟨p, 1 + k, none⟩ (.bool true))) := ae (HL.out.drew.t1F (bU.of_below HB1).drew HBp _ _);have HC2 := ae (HL.out.drew.cK HK);have HF2 := ae (HL.out.drew.fz (1 + k));go_upto_region 1 with fail;refine wp_region_held (S := fun w' => w'.rangeAt w.heap.size 0 (cel b)) (by kernel_rfl) ?_;change wpAnyH _ _ _ _ _ 13 _ _ w1.drew;refine akR 0 rfl HXd ?_;refine akR 1 rfl HXd ?_;refine akR 2 rfl HXd ?_;refine akR 3 rfl HXd ?_;refine akx 4 rfl (fun _ hw => aW rfl akE hw) HXd ?_;refine akT 5 rfl HXd ?_;refine akx 6 rfl (fun _ hw => ax rfl akE oX) HXd ?_;refine akx 7 rfl (fun _ hw => cH rfl akE akE (rU HK)) HXd ?_;refine akT 9 rfl HXd ?_;refine akx 10 rfl (fun _ hw => ax rfl akE xc) HXd ?_;refine dr 8 rfl (by kernel_rfl) rfl (cZ rfl (ev rfl) evk (xW HC2.out HF2.out)) HX2.out ?_;simp only [Act.put];generalize (World.drew w1).setCell ⟨p, 1 + k, none⟩ (.bool true) = w2 at *;have HTH := ae (HL2.out.there (o := 33 + k * 64) (m := 64) (by have := HK.out; omega));have HX3 : Hid ((w2.setCells p (33 + k * 64) (cel b)).rangeAt w.heap.size 0 (cel b)) := ae (World.rangeAt_setCells_apart HX2 p _ _ (.inl HNE));have HL3 : Hid (LnA (w2.setCells p (33 + k * 64) (cel b)) p { x with kn := fO x.kn k true, bl := fO x.bl k b }) := ae (HL2.out.sB HK b);have HT3 : Hid (bU lU B w (w2.setCells p (33 + k * 64) (cel b))) := ae (HL2.out.tnF HT2 HBp _ _);refine akx 11 rfl (fun _ hw => cH rfl akE akE (ahf HK)) HX2 ?_;refine dr 12 rfl (by kernel_rfl) rfl (aS rfl (ev rfl) (ev rfl) HTH.out) HX3.out ?_;simp only [Act.put];generalize w2.setCells p (33 + k * 64) (cel b) = w3 at *;refine wpAnyH_done (by kernel_rfl) ?_ _;go_wp2_with fail;exact bodyPost_end (results_none rfl _ _ _) rfl ⟨rfl, HL3, HT3⟩
theorem y5 (w : World) (m : Int) (b : Blk) {B : Nat -> Prop} {p : Nat} {s : LnS} (h : mR w B p s) : Calls prog 61 #[.pointer (some ⟨p, 0, none⟩), .int .i64 m, blk b] w fun e w' => e = .returned (.int .i64 (lnE s m)) /\ mR w' B p (fq s m b) /\ bU lU B w w' := by
 obtain ⟨h, hB, hs⟩ := h;have HB1 : Hid (Below w.heap.size w (w.alloc (.cells (cel b).toArray 45))) := ae (ak.alloc aj _);have HL : Hid (LnA (w.alloc (.cells (cel b).toArray 45)) p (lf s)) := ae (h.below HB1);have HX : Hid ((w.alloc (.cells (cel b).toArray 45)).rangeAt w.heap.size 0 (cel b)) := ae (cP w (cel b) _);have HBp := ae hB;have HS := ae hs;clear h hB hs;go_enter func61, ntmps61;go_upto_region 0 with fail;refine af ?_;refine aku (cd rfl akE) ?_;refine aH 1 ?_;generalize w.alloc (.cells (cel b).toArray 45) = w1 at *;cases hr : lnR s m
 ·have HE := ae (mV hr);have HR := ae hr;clear hr;go_upto_region 1 with fail;refine aI 2 ?_;refine aw rfl (aA call111 rfl (evc akE (evc akE evn))) ?_;refine (gy _ HL HS HE).mono ?_;rintro e w' ⟨rfl, rfl⟩;refine aO ?_;refine aH 1 ?_;go_upto_region 2 with fail;refine aI 1 ?_;refine aku (aL true rfl akE evk rfl) ?_;refine ah ?_;go_wp2_with fail;go_ret;exact ⟨by rw [HE.out]; rfl, by rw [ady HR.out]; exact ⟨HL, HBp, HS⟩, bU.of_below HB1⟩
 obtain ⟨k, rfl, hk⟩ := jy hr;have HE := ae (sI hk);have HKL := ae hk;have HK : Hid (k < 16) := ae (ar hk HS.out.hi);clear hr hk;go_upto_region 1 with fail;refine aI 2 ?_;refine aw rfl (aA call111 rfl (evc akE (evc akE evn))) ?_;refine (gy _ HL HS HE).mono ?_;rintro e w' ⟨rfl, rfl⟩;refine aO ?_;refine aH 1 ?_;go_upto_region 2 with fail;refine aI 1 ?_;refine aku (aL false rfl akE evk rfl) ?_;refine ah ?_;cases hkn : (dd s k).kn;rotate_left 1
 ·have HKN := ae hkn;clear hkn;go_upto_region 4 with fail;refine aI 3 ?_;refine aku (ax rfl akE oX) ?_;refine aku (cH rfl akE akE (rU HK)) ?_;refine aku (aC rfl akE (vi ((HL.out.cK HK.out).trans (congrArg (fun t => some (Value.bool t)) HKN)))) ?_;refine aH 1 ?_;go_wp2_with fail;go_ret;exact ⟨by rw [HE.out]; rfl, by rw [aay HKL.out HKN.out]; exact ⟨HL, HBp, HS⟩, bU.of_below HB1⟩
 have HKN := ae hkn;clear hkn;go_upto_region 4 with fail;refine aI 3 ?_;refine aku (ax rfl akE oX) ?_;refine aku (cH rfl akE akE (rU HK)) ?_;refine aku (aC rfl akE (vi ((HL.out.cK HK.out).trans (congrArg (fun t => some (Value.bool t)) HKN)))) ?_;refine aH 1 ?_;go_upto_region 5 with fail;refine aI 2 ?_;refine aku (aW rfl akE HX) ?_;refine aw rfl (aA call118 rfl (evc akE (evc akE (evc akE evn)))) ?_;refine (tj _ k b HL HK HBp).mono ?_;rintro e w2 ⟨rfl, h2, t2⟩;have HL2 := ae h2;have HT2 := ae ((bU.of_below HB1).trans t2);clear h2 t2;refine aO ?_;refine ah ?_;go_wp2_with fail;go_ret;exact ⟨by rw [HE.out]; rfl, ⟨by rw [agI b HS.out HKL.out HKN.out]; exact HL2, HBp, HS.out.lrn _ _⟩, HT2⟩
theorem afn (w : World) (m : Int) (b : Blk) (Q : Nat) {B : Nat -> Prop} {p : Nat} {s : LnS} (h : mR w B p s) (hQ : Q < 18446744073709551616) : Calls prog 105 #[.pointer (some ⟨p, 0, none⟩), .int .i64 m, blk b, .int .u64 (Q : Int)] w fun e w' => e = .returned (.int .i64 (qu s m Q)) /\ mR w' B p (eJ s m b Q) /\ bU lU B w w' := by
 obtain ⟨h, hB, hs⟩ := h;have HQ := ae hQ;clear hQ;have HB1 : Hid (Below w.heap.size w (w.alloc (.cells (cel b).toArray 45))) := ae (ak.alloc aj _);have HL : Hid (LnA (w.alloc (.cells (cel b).toArray 45)) p (lf s)) := ae (h.below HB1);have HX : Hid ((w.alloc (.cells (cel b).toArray 45)).rangeAt w.heap.size 0 (cel b)) := ae (cP w (cel b) _);have HBp := ae hB;have HS := ae hs;clear h hB hs;go_enter func105, ntmps105;go_upto_region 0 with fail;refine af ?_;refine aku (cd rfl akE) ?_;refine aH 1 ?_;generalize w.alloc (.cells (cel b).toArray 45) = w1 at *;cases hr : lnR s m
 ·have HE := ae (mV hr);have HR := ae hr;clear hr;go_upto_region 1 with fail;refine aI 2 ?_;refine aw rfl (aA call111 rfl (evc akE (evc akE evn))) ?_;refine (gy _ HL HS HE).mono ?_;rintro e w' ⟨rfl, rfl⟩;refine aO ?_;refine aH 1 ?_;go_upto_region 2 with fail;refine aI 1 ?_;refine aku (aL true rfl akE evk rfl) ?_;refine ah ?_;go_wp2_with fail;go_ret;exact ⟨by rw [afT HR.out]; rfl, by rw [abE HR.out]; exact ⟨HL, HBp, HS⟩, bU.of_below HB1⟩
 obtain ⟨k, rfl, hk⟩ := jy hr;have HE := ae (sI hk);have HKL := ae hk;have HK : Hid (k < 16) := ae (ar hk HS.out.hi);clear hr hk;go_upto_region 1 with fail;refine aI 2 ?_;refine aw rfl (aA call111 rfl (evc akE (evc akE evn))) ?_;refine (gy _ HL HS HE).mono ?_;rintro e w' ⟨rfl, rfl⟩;refine aO ?_;refine aH 1 ?_;go_upto_region 2 with fail;refine aI 1 ?_;refine aku (aL false rfl akE evk rfl) ?_;refine ah ?_;by_cases hq0 : Q = 0
 ·subst hq0;have HZ : Hid ((((0 : Nat) : Int) == 0) = true) := ae rfl;go_upto_region 4 with fail;refine aI 1 ?_;refine aku (aF true rfl akE evk HZ) ?_;refine ah ?_;go_wp2_with fail;go_ret;exact ⟨by rw [ahJ]; rfl, by rw [ae8]; exact ⟨HL, HBp, HS⟩, bU.of_below HB1⟩
 have HZ : Hid (((Q : Int) == 0) = false) := ae (au (by omega));have HQ0 := ae hq0;clear hq0;go_upto_region 4 with fail;refine aI 1 ?_;refine aku (aF false rfl akE evk HZ) ?_;refine ah ?_;go_upto_region 6 with fail;refine aI 2 ?_;refine aku (aW rfl akE HX) ?_;refine aw rfl (aA call118 rfl (evc akE (evc akE (evc akE evn)))) ?_;refine (tj _ k b HL HK HBp).mono ?_;rintro e w2 ⟨rfl, h2, t2⟩;have HL2 := ae h2;have HT2 := ae ((bU.of_below HB1).trans t2);clear h2 t2;refine aO ?_;refine ah ?_;have HC2 := ae (HL2.out.cD HK);have HF2 := ae (HL2.out.fz (17 + k));have HL3 := ae (HL2.out.sD HK true);have HT3 := ae (HL2.out.t1F HT2 HBp (17 + k) (.bool true));go_upto_region 7 with fail;refine aI 3 ?_;refine aku (ax rfl akE pU) ?_;refine aku (cH rfl akE akE (rU HK)) ?_;refine aG rfl (cZ rfl (ev rfl) evk (xW HC2.out HF2.out)) ?_;simp only [aa];generalize w2.setCell ⟨p, 17 + k, none⟩ (.bool true) = w3 at *;refine ah ?_;have HC3 : Hid (w3.cell? ⟨p, 1057, none⟩ = some (.int .u64 (s.f : Int))) := ae HL3.out.cF;have HF3 := ae (HL3.out.fz 1057);have HL4 := ae (HL3.out.sF (Q : Int));have HT4 := ae (HL3.out.t1F HT3 HBp 1057 (.int .u64 (Q : Int)));have HSE : Hid (qu s (k : Int) Q = 0) := ae (ym HKL HQ0);have HOK : Hid (dI (eJ s (k : Int) b Q)) := ae (HS.out.set _ _ HQ);go_upto_region 8 with fail;refine aI 2 ?_;refine aku (ax rfl akE mB) ?_;refine aku (aC rfl akE (kK HC3)) ?_;by_cases hf : s.f = 0
 ·have HZf : Hid (((s.f : Int) == 0) = true) := ae (beq_iff_eq.2 (by omega));have HM : Hid (nD s.f Q = Q) := ae (if_pos (.inl hf));clear hf;refine aku (aF true rfl akE evk HZf) ?_;refine bj 6 rfl (aM rfl akE) (by kernel_rfl) ?_;simp only [bQ, ac, aa];refine aH 1 ?_;go_upto_region 9 with fail;refine aI 3 ?_;refine aku (ax rfl akE mB) ?_;refine aG rfl (cZ rfl (ev rfl) (ev rfl) (xH HC3.out HF3.out)) ?_;simp only [aa];generalize w3.setCell ⟨p, 1057, none⟩ (.int .u64 (Q : Int)) = w4 at *;refine ah ?_;go_wp2_with fail;go_ret;exact ⟨by rw [HSE.out]; rfl, ⟨by rw [xi b HKL.out HQ0.out, HM.out]; exact HL4, HBp, HOK⟩, HT4⟩
 have HZf : Hid (((s.f : Int) == 0) = false) := ae (au (by omega));refine aku (aF false rfl akE evk HZf) ?_;refine runs 3 ?_;refine runs 1 ?_;refine akB (ax rfl akE mB) ?_;refine akB (aC rfl akE (kK HC3)) ?_;by_cases hl : Q < s.f
 ·have HLS : Hid (decide ((Q : Int) < (s.f : Int)) = true) := ae (ao (by omega));have HM : Hid (nD s.f Q = Q) := ae (if_pos (.inr hl));clear hf hl;refine akB (aZ true rfl akE akE HLS) ?_;refine aH 1 ?_;go_upto_region 9 with fail;refine aI 3 ?_;refine aku (ax rfl akE mB) ?_;refine aG rfl (cZ rfl (ev rfl) (ev rfl) (xH HC3.out HF3.out)) ?_;simp only [aa];generalize w3.setCell ⟨p, 1057, none⟩ (.int .u64 (Q : Int)) = w4 at *;refine ah ?_;go_wp2_with fail;go_ret;exact ⟨by rw [HSE.out]; rfl, ⟨by rw [xi b HKL.out HQ0.out, HM.out]; exact HL4, HBp, HOK⟩, HT4⟩
 have HLS : Hid (decide ((Q : Int) < (s.f : Int)) = false) := ae (am (by omega));have HM : Hid (nD s.f Q = s.f) := ae (if_neg (by omega));clear hf hl;refine akB (aZ false rfl akE akE HLS) ?_;refine aH 1 ?_;go_wp2_with fail;go_ret;exact ⟨by rw [HSE.out]; rfl, ⟨by rw [xi b HKL.out HQ0.out, HM.out]; exact HL3, HBp, HOK⟩, HT3⟩
theorem xt (w : World) (m : Int) {B : Nat -> Prop} {p : Nat} {s : LnS} (h : mR w B p s) : Calls prog 107 #[.pointer (some ⟨p, 0, none⟩), .int .i64 m] w fun e w' => e = .returned (.int .i64 (lnE s m)) /\ mR w' B p (fX s m) /\ bU lU B w w' := by
 obtain ⟨h, hB, hs⟩ := h;have HL := ae h;have HBp := ae hB;have HS := ae hs;clear h hB hs;go_enter func107, ntmps107;cases hr : lnR s m
 ·have HE := ae (mV hr);have HR := ae hr;clear hr;go_upto_region 1 with fail;refine aI 2 ?_;refine aw rfl (aA call111 rfl (evc akE (evc akE evn))) ?_;refine (gy _ HL HS HE).mono ?_;rintro e w' ⟨rfl, rfl⟩;refine aO ?_;refine aH 1 ?_;go_upto_region 2 with fail;refine aI 1 ?_;refine aku (aL true rfl akE evk rfl) ?_;refine ah ?_;go_wp2_with fail;go_ret;exact ⟨by rw [HE.out]; rfl, by rw [acN HR.out]; exact ⟨HL, HBp, HS⟩, bU.refl _ _ _⟩
 obtain ⟨k, rfl, hk⟩ := jy hr;have HE := ae (sI hk);have HKL := ae hk;have HK : Hid (k < 16) := ae (ar hk HS.out.hi);clear hr hk;go_upto_region 1 with fail;refine aI 2 ?_;refine aw rfl (aA call111 rfl (evc akE (evc akE evn))) ?_;refine (gy _ HL HS HE).mono ?_;rintro e w' ⟨rfl, rfl⟩;refine aO ?_;refine aH 1 ?_;go_upto_region 2 with fail;refine aI 1 ?_;refine aku (aL false rfl akE evk rfl) ?_;refine ah ?_;have HC0 := ae (HL.out.drew.cK HK);have HF0 := ae (HL.out.drew.fz (1 + k));have HL1 := ae (HL.out.drew.sK HK false);have HT1 := ae (HL.out.drew.t1F (bU.refl lU B w).drew HBp (1 + k) (.bool false));go_upto_region 4 with fail;refine wp_region_held (S := fun _ => True) (by kernel_rfl) ?_;change wpAnyH _ _ _ _ _ 19 _ _ w.drew;refine akR 0 rfl trivial ?_;refine akR 1 rfl trivial ?_;refine akR 2 rfl trivial ?_;refine akR 3 rfl trivial ?_;refine akR 4 rfl trivial ?_;refine akR 5 rfl trivial ?_;refine akx 6 rfl (fun _ hw => cC (c := aD) (parts := []) rfl rfl) trivial ?_;refine akT 7 rfl trivial ?_;refine akx 8 rfl (fun _ hw => ax rfl akE oX) trivial ?_;refine akT 11 rfl trivial ?_;refine akx 12 rfl (fun _ hw => ax rfl akE pU) trivial ?_;refine akT 15 rfl trivial ?_;refine akx 16 rfl (fun _ hw => ax rfl akE xc) trivial ?_;refine akx 9 rfl (fun _ hw => cH rfl akE akE (rU HK)) trivial ?_;refine dr 10 rfl (by kernel_rfl) rfl (cZ rfl (ev rfl) evk (xW HC0.out HF0.out)) trivial ?_;simp only [Act.put];generalize (World.drew w).setCell ⟨p, 1 + k, none⟩ (.bool false) = w1 at *;have HC1 := ae (HL1.out.cD HK);have HF1 := ae (HL1.out.fz (17 + k));have HL2 := ae (HL1.out.sD HK false);have HT2 := ae (HL1.out.t1F HT1 HBp (17 + k) (.bool false));refine akx 13 rfl (fun _ hw => cH rfl akE akE (rU HK)) trivial ?_;refine dr 14 rfl (by kernel_rfl) rfl (cZ rfl (ev rfl) evk (xW HC1.out HF1.out)) trivial ?_;simp only [Act.put];generalize w1.setCell ⟨p, 17 + k, none⟩ (.bool false) = w2 at *;have HTH := ae (HL2.out.there (o := 33 + k * 64) (m := 64) (by have := HK.out; omega));have HL3 := ae (HL2.out.sB HK aD);have HT3 := ae (HL2.out.tnF HT2 HBp (33 + k * 64) (cel aD));refine akx 17 rfl (fun _ hw => cH rfl akE akE (ahf HK)) trivial ?_;refine dr 18 rfl (by kernel_rfl) rfl (aS rfl (ev rfl) (ev rfl) HTH.out) trivial ?_;simp only [Act.put];generalize w2.setCells p (33 + k * 64) (cel aD) = w3 at *;refine wpAnyH_done (by kernel_rfl) ?_ _;go_wp2_with fail;go_ret;exact ⟨by rw [HE.out]; rfl, ⟨by rw [ahi HKL.out]; exact HL3, HBp, HS.out.frg _⟩, HT3⟩
theorem zk (w : World) {B : Nat -> Prop} {p : Nat} {s : LnS} (h : mR w B p s) : Calls prog 66 #[.pointer (some ⟨p, 0, none⟩)] w fun e w' => e = .returned (.int .i64 0) /\ mR w' B p (gu s) /\ bU lU B w w' := by
 obtain ⟨h, hB, hs⟩ := h;have HC := ae (rH w true (jD w h) (ao (by have := hs.lo; show (0 : Int) < (s.l.length : Int); omega)));have HL := ae h;have HBp := ae hB;have HS := ae hs;have HTH := ae (h.there (o := 17) (m := 16) (by omega));have HL1 := ae h.sD0;have HT1 := ae (h.tnF (bU.refl lU B w) hB 17 qv);clear h hB hs;go_enter func66, ntmps66;go_upto_region 1 with fail;refine aI 1 ?_;refine aw rfl (aA call123 rfl (evc akE evn)) ?_;refine (HC.out).mono ?_;rintro e w' ⟨rfl, rfl⟩;refine aO ?_;refine aH 1 ?_;go_upto_region 3 with fail;refine aI 2 ?_;refine aku (jb rfl abS) ?_;refine runs 1 ?_;refine aku (ax rfl akE pU) ?_;refine aG rfl (wY rfl (ev rfl) (ev rfl) HTH.out) ?_;simp only [aa];generalize w.setCells p 17 qv = w1 at *;have HC1 := ae HL1.out.cF;have HF1 := ae (HL1.out.fz 1057);have HL2 := ae (HL1.out.sF 0);have HT2 := ae (HL1.out.t1F HT1 HBp 1057 (.int .u64 0));refine runs 1 ?_;refine aku (ax rfl akE mB) ?_;refine aG rfl (cZ rfl (ev rfl) evk (xH HC1.out HF1.out)) ?_;simp only [aa];generalize w1.setCell ⟨p, 1057, none⟩ (.int .u64 0) = w2 at *;refine ah ?_;go_wp2_with fail;go_ret;exact ⟨rfl, ⟨by rw [ah2]; exact HL2, HBp, HS.out.cln⟩, HT2⟩
open Go.Maps (Keyed)
theorem aix (w : World) : (zeroValue 109).run prog w = .ok (.pointer none) w := by kernel_rfl
section
variable {w w' : World} {b N : Nat} {M : Int -> Option Nat} {k : Int}
theorem dG.jT (h : dG w b N M) (hw : (Lit.int .i64 k).wf = true) : (Instr.lookup 64 (.map (some b)) (.int .i64 k) false).run prog w = .ok (ptO (M k)) w := by
 obtain ⟨D, h1, _, h3⟩ := h;obtain ⟨v, ps, hr, hv⟩ := h1.lookup fB underlying64 (aix w) (zd := .nil) (zp := []) rfl (qq hw);rw [(h3 k hw).1] at hv;rw [hr, yK hv]
theorem dG.abe (h : dG w b N M) (hw : (Lit.int .i64 k).wf = true) (hn : M k = none) (hN : N < maxLen) (q : Nat) :
  ∃ w', (Instr.mapUpdate 64 (.map (some b)) (.int .i64 k) (.pointer (some ⟨q, 0, none⟩))).run prog w = .ok () w' /\ dG w' b (N + 1) (fun j => if j = k then some q else M j) /\ w.mapTurned w' b := by
 obtain ⟨D, h1, h2, h3⟩ := h;obtain ⟨w', hr, ho, ht⟩ := h1.store fB underlying64 hN (qq hw) (adv (some q));have hT := h1.tidy fB;have hk : WideAt.IsKeyLit (Lit.int .i64 k) := fB.key (qq hw);have hs : Maps.size (D.put (.int .i64 k) (ptD (some q))) = N + 1 := by
  rw [Maps.size_put hT, (h3 k hw).2, hn, h2]; rfl
 refine ⟨w', hr, ⟨_, by rw [<- hs]; exact lT ho, hs, fun j hj => ?_⟩, ht⟩;by_cases e : j = k
 ·subst e;dsimp only;rw [if_pos rfl, Maps.atKey_put_same hT.isMap hk, Maps.has_put_same hT.isMap hk];exact ⟨rfl, rfl⟩
 ·dsimp only;rw [if_neg e, Maps.atKey_put_other (jC e), Maps.has_put_other (jC e)];exact h3 j hj
theorem dG.aj9 (h : dG w b (N + 1) M) (hw : (Lit.int .i64 k).wf = true) (hn : (M k).isSome = true) (ty : TypeId) :
  ∃ w', (Builtin.delete_ #[64, 3] ty #[.map (some b), .int .i64 k]).run prog w = .ok (.tuple #[]) w' /\ dG w' b N (fun j => if j = k then none else M j) /\ w.mapTurned w' b := by
 obtain ⟨D, h1, h2, h3⟩ := h;obtain ⟨w', hr, ho, ht⟩ := h1.drop fB underlying64 (qq hw) ty;have hT := h1.tidy fB;have hs : Maps.size (D.del (.int .i64 k)) = N := by
  have := Maps.size_del (k := .int .i64 k) hT;rw [(h3 k hw).2, hn, h2] at this
  simpa using this
 refine ⟨w', hr, ⟨_, by rw [<- hs]; exact lT ho, hs, fun j hj => ?_⟩, ht⟩;by_cases e : j = k
 ·subst e;dsimp only;rw [if_pos rfl, Maps.atKey_del_same, Maps.has_del_same];exact ⟨rfl, rfl⟩
 ·dsimp only;rw [if_neg e, Maps.atKey_del_other (jC e), Maps.has_del_other (jC e)];exact h3 j hj
end
theorem fC {w w' : World} {b : Nat} {F : Nat -> Prop} (h : w.mapTurned w' b) (hF : F b) : Only F w w' := by
 have hg := h.grown;obtain ⟨es, c, es', c', hb, e⟩ := h;exact Only.grown (Only.refl _ _) hg fun j hj => by injection hj with hj; subst hj; exact .inl hF
def shC (N T : Nat) (r : Int) (lp mp : Nat) : List Value := [.int .i64 (N : Int), .int .i64 (T : Int), .int .i64 r, ptB lp, .map (some mp)]
def tK (w : World) : Option Nat -> Option LnS -> Prop
 |none, none => True
 |some b, some x => LnA w b (lf x) /\ dI x
 |_, _ => False
def mLn (m : Nat -> Option Nat) (k : Int) : Option Nat := if 0 <= k then m k.toNat else none
structure PRu (w : World) (t lp mp : Nat) (FL : Nat -> Prop) (L : List Ky) (c : Nat) (m : Nat -> Option Nat) (ln : Nat -> Option LnS) (N T room : Nat) (r : Int) : Prop where
 at_ : w.heap[t]? = some (.cells (shC N T r lp mp).toArray 66 (0, 0))
 li : PLF w FL lp room L
 map : dG w mp c (mLn m)
 ln : ∀ n, tK w (m n) (ln n)
 inj : ∀ i j b, m i = some b -> m j = some b -> i = j
 ap : ¬ FL t /\ ¬ FL mp /\ ∀ n b, m n = some b -> ¬ FL b
 lt : ∀ b, FL b -> b < w.heap.size
 may : dO (gx N T r) = true
def qi (t mp : Nat) (FL : Nat -> Prop) (m : Nat -> Option Nat) (b : Nat) : Prop := b = t \/ b = mp \/ FL b \/ ∃ n, m n = some b
def PSh (w : World) (S : Nat -> Prop) (t K : Nat) (s : ShS) : Prop := ∃ lp mp FL m r, PRu w t lp mp FL (kyL s.dty s.o) s.o.length m s.ln s.N s.T s.room r /\ cf s /\ S = qi t mp FL m
section
variable {w w' : World} {G FL : Nat -> Prop} {a : Option Nat} {x : Option LnS}
theorem tK.only (h : tK w a x) (hk : Only G w w') (hG : ∀ b, a = some b -> ¬ G b) : tK w' a x := by
 cases a <;> cases x
 ·exact h
 ·exact h
 ·exact h
 ·exact ⟨Only.keep hk h.1 (hG _ rfl), h.2⟩
theorem tK.some_ {y : LnS} (h : tK w a (some y)) : ∃ b, a = some b /\ LnA w b (lf y) /\ dI y := by
 cases a
 ·exact h.elim
 ·exact ⟨_, rfl, h.1, h.2⟩
theorem tK.none_ (h : tK w a none) : a = none := by
 cases a
 ·rfl
 ·exact h.elim
end
section
variable {w w' : World} {t lp mp c N T room n b : Nat} {FL G FL' : Nat -> Prop} {L L' : List Ky} {m : Nat -> Option Nat} {ln : Nat -> Option LnS} {r : Int}
theorem PRu.rng (h : PRu w t lp mp FL L c m ln N T room r) : w.rangeAt t 0 (shC N T r lp mp) := aQ h.at_
theorem PRu.c0 (h : PRu w t lp mp FL L c m ln N T room r) : w.cell? ⟨t, 0, none⟩ = some (.int .i64 (N : Int)) := h.rng 0 _ rfl
theorem PRu.c3 (h : PRu w t lp mp FL L c m ln N T room r) : w.cell? ⟨t, 3, none⟩ = some (ptB lp) := h.rng 3 _ rfl
theorem PRu.c4 (h : PRu w t lp mp FL L c m ln N T room r) : w.cell? ⟨t, 4, none⟩ = some (.map (some mp)) := h.rng 4 _ rfl
theorem PRu.geo (h : PRu w t lp mp FL L c m ln N T room r) : w.rangeAt t 0 [.int .i64 (N : Int), .int .i64 (T : Int), .int .i64 r] := fd (k := 0) (ds := []) (es := [.int .i64 (N : Int), .int .i64 (T : Int), .int .i64 r]) (fs := [ptB lp, .map (some mp)]) h.rng rfl rfl
theorem PRu.agT (h : PRu w t lp mp FL L c m ln N T room r) : ∃ es q, w.heap[mp]? = some (.map es q) := h.map.obj
theorem PRu.lnb (h : PRu w t lp mp FL L c m ln N T room r) (hn : m n = some b) : ∃ y, ln n = some y /\ LnA w b (lf y) /\ dI y := by
 have := h.ln n;rw [hn] at this;cases e : ln n with
 |none => rw [e] at this; exact this.elim
 |some y => rw [e] at this; exact ⟨y, rfl, this.1, this.2⟩
theorem PRu.ne (h : PRu w t lp mp FL L c m ln N T room r) : t ≠ mp /\ ∀ n b, m n = some b -> b ≠ t /\ b ≠ mp := by
 obtain ⟨es, q, hm⟩ := h.agT;refine ⟨fun e => ?_, fun n b hn => ⟨fun e => ?_, fun e => ?_⟩⟩
 ·have ha := h.at_;rw [e, hm] at ha;cases ha
 ·obtain ⟨y, _, hy, _⟩ := h.lnb hn;have ha := h.at_;unfold LnA at hy;rw [e, ha] at hy;injection hy with hy;injection hy with _ hy;exact absurd hy (by decide)
 ·obtain ⟨y, _, hy, _⟩ := h.lnb hn;unfold LnA at hy;rw [e, hm] at hy;cases hy
theorem PRu.size (h : PRu w t lp mp FL L c m ln N T room r) : ∀ b, qi t mp FL m b -> b < w.heap.size := by
 intro b hb;rcases hb with rfl | rfl | hb | ⟨n, hb⟩
 ·exact aV h.at_
 ·exact h.map.lt
 ·exact h.lt b hb
 ·obtain ⟨y, _, hy, _⟩ := h.lnb hb; exact hy.lt
theorem PRu.only (h : PRu w t lp mp FL L c m ln N T room r) (hk : Only G w w') (hG : ∀ b, qi t mp FL m b -> ¬ G b) : PRu w' t lp mp FL L c m ln N T room r :=
 ⟨Only.keep hk h.at_ (hG t (.inl rfl)), h.li.only hk fun b hb => hG b (.inr (.inr (.inl hb))), h.map.kept fun es q hb => Only.keep hk hb (hG mp (.inr (.inl rfl))), fun n => (h.ln n).only hk fun b hb => hG b (.inr (.inr (.inr ⟨n, hb⟩))), h.inj, h.ap, fun b hb => ar (h.lt b hb) hk.size, h.may⟩
theorem PRu.below (h : PRu w t lp mp FL L c m ln N T room r) (hb : Below w.heap.size w w') : PRu w' t lp mp FL L c m ln N T room r := h.only (Only.of_below (fun _ => False) hb) fun _ _ e => e
theorem PRu.list (h : PRu w t lp mp FL L c m ln N T room r) (hk : Only FL w w') (hl : PLF w' FL' lp room L') (hF : ∀ b, FL' b -> FL b \/ w.heap.size <= b) (ht : ∀ b, FL' b -> b < w'.heap.size) : PRu w' t lp mp FL' L' c m ln N T room r := by
 have hs := h.size;have no : ∀ b, qi t mp FL m b -> ¬ FL b -> ¬ FL' b := fun b hb hn hb' => by
  rcases hF b hb' with e | e
  ·exact hn e
  ·have := hs b hb; omega
 exact ⟨Only.keep hk h.at_ h.ap.1, hl, h.map.kept fun es q hb => Only.keep hk hb h.ap.2.1, fun n => (h.ln n).only hk fun b hb => h.ap.2.2 n b hb, h.inj, ⟨no t (.inl rfl) h.ap.1, no mp (.inr (.inl rfl)) h.ap.2.1, fun n b hb => no b (.inr (.inr (.inr ⟨n, hb⟩))) (h.ap.2.2 n b hb)⟩, ht, h.may⟩
theorem PRu.line {y : LnS} (h : PRu w t lp mp FL L c m ln N T room r) (hn : m n = some b) (hk : Only (fun j => j = b) w w') (hl : LnA w' b (lf y)) (hy : dI y) : PRu w' t lp mp FL L c m (fun j => if j = n then some y else ln j) N T room r := by
 obtain ⟨h1, h2⟩ := h.ne;obtain ⟨n1, n2⟩ := h2 n b hn;refine ⟨Only.keep hk h.at_ fun e => n1 e.symm, h.li.only hk fun j hj e => h.ap.2.2 n b hn (by rw [<- e]; exact hj), h.map.kept fun es q hb => Only.keep hk hb fun e => n2 e.symm, fun j => ?_, h.inj, h.ap, fun j hj => ar (h.lt j hj) hk.size, h.may⟩
 try dsimp only
 by_cases e : j = n
 ·subst e; rw [if_pos rfl, hn]; exact ⟨hl, hy⟩
 ·rw [if_neg e]; exact (h.ln j).only hk fun b' hb' e2 => e (h.inj j n b (by rw [<- e2]; exact hb') hn)
theorem PRu.del (h : PRu w t lp mp FL L (c + 1) m ln N T room r) (hk : w.mapTurned w' mp) (hm : dG w' mp c (fun j => if j = (n : Int) then none else mLn m j)) : PRu w' t lp mp FL L c (fun j => if j = n then none else m j) (fun j => if j = n then none else ln j) N T room r := by
 obtain ⟨h1, h2⟩ := h.ne;have ho := fC (F := fun j => j = mp) hk rfl;have e : (fun j => if j = (n : Int) then none else mLn m j) = mLn (fun j => if j = n then none else m j) := funext fun j => by
  unfold mLn;by_cases h0 : 0 <= j
  ·rw [if_pos h0, if_pos h0]
   try dsimp only
   by_cases e : j = (n : Int)
   ·rw [if_pos e, if_pos (by omega)]
   ·rw [if_neg e, if_neg (by omega)]
  ·rw [if_neg h0, if_neg h0, if_neg (by omega)]
 refine ⟨Only.keep ho h.at_ h1, h.li.only ho fun j hj e => h.ap.2.1 (by rw [<- e]; exact hj), by rw [<- e]; exact hm, fun j => ?_, fun i j b hi hj => ?_, ⟨h.ap.1, h.ap.2.1, fun j b hj => ?_⟩, fun j hj => ar (h.lt j hj) ho.size, h.may⟩
 ·try dsimp only
  by_cases e : j = n
  ·rw [if_pos e, if_pos e]; trivial
  ·rw [if_neg e, if_neg e]; exact (h.ln j).only ho fun b hb e2 => (h2 j b hb).2 e2
 ·try dsimp only at hi hj
  by_cases e : i = n
  ·rw [if_pos e] at hi; cases hi
  ·by_cases e' : j = n
   ·rw [if_pos e'] at hj; cases hj
   ·rw [if_neg e] at hi; rw [if_neg e'] at hj; exact h.inj i j b hi hj
 ·try dsimp only at hj
  by_cases e : j = n
  ·rw [if_pos e] at hj; cases hj
  ·rw [if_neg e] at hj; exact h.ap.2.2 j b hj
theorem PRu.add {y : LnS} (h : PRu w t lp mp FL L c m ln N T room r) (hn : m n = none) (hb : LnA w b (lf y)) (hy : dI y) (hF : ¬ FL b) (hmb : ∀ j, m j ≠ some b) (hk : w.mapTurned w' mp) (hm : dG w' mp (c + 1) (fun j => if j = (n : Int) then some b else mLn m j)) : PRu w' t lp mp FL L (c + 1) (fun j => if j = n then some b else m j) (fun j => if j = n then some y else ln j) N T room r := by
 obtain ⟨h1, h2⟩ := h.ne;have ho := fC (F := fun j => j = mp) hk rfl;have e : (fun j => if j = (n : Int) then some b else mLn m j) = mLn (fun j => if j = n then some b else m j) := funext fun j => by
  unfold mLn;by_cases h0 : 0 <= j
  ·rw [if_pos h0, if_pos h0]
   try dsimp only
   by_cases e : j = (n : Int)
   ·rw [if_pos e, if_pos (by omega)]
   ·rw [if_neg e, if_neg (by omega)]
  ·rw [if_neg h0, if_neg h0, if_neg (by omega)]
 have hbm : b ≠ mp := fun e => by
  obtain ⟨es, q, hq⟩ := h.agT;unfold LnA at hb;rw [e, hq] at hb;cases hb
 refine ⟨Only.keep ho h.at_ h1, h.li.only ho fun j hj e => h.ap.2.1 (by rw [<- e]; exact hj), by rw [<- e]; exact hm, fun j => ?_, fun i j b' hi hj => ?_, ⟨h.ap.1, h.ap.2.1, fun j b' hj => ?_⟩, fun j hj => ar (h.lt j hj) ho.size, h.may⟩
 ·try dsimp only
  by_cases e : j = n
  ·rw [if_pos e, if_pos e]; exact ⟨Only.keep ho hb hbm, hy⟩
  ·rw [if_neg e, if_neg e]; exact (h.ln j).only ho fun b hb e2 => (h2 j b hb).2 e2
 ·try dsimp only at hi hj
  by_cases e : i = n
  ·rw [if_pos e] at hi;by_cases e' : j = n
   ·omega
   ·rw [if_neg e'] at hj; cases hi; exact absurd hj (hmb j)
  ·rw [if_neg e] at hi;by_cases e' : j = n
   ·rw [if_pos e'] at hj; cases hj; exact absurd hi (hmb i)
   ·rw [if_neg e'] at hj; exact h.inj i j b' hi hj
 ·try dsimp only at hj
  by_cases e : j = n
  ·rw [if_pos e] at hj; cases hj; exact hF
  ·rw [if_neg e] at hj; exact h.ap.2.2 j b' hj
end
def iD (m s r : Int) : Value := .agg #[.int .i64 m, .int .i64 s, .int .i64 r]
def eQ (s m : Int) : Value := .agg #[.int .i64 s, .int .i64 m]
def may (m s r : Int) : Bool := decide (3 <= m /\ m <= 16 /\ 1 <= s /\ s <= 64 /\ 40 <= r /\ r <= 256)
theorem iG {m s r : Int} : may m s r = true ↔ (3 <= m /\ m <= 16 /\ 1 <= s /\ s <= 64 /\ 40 <= r /\ r <= 256) := by unfold may; rw [decide_eq_true_iff]
theorem agj {m s r : Int} : may m s r = false ↔ ¬(3 <= m /\ m <= 16 /\ 1 <= s /\ s <= 64 /\ 40 <= r /\ r <= 256) := by unfold may; rw [decide_eq_false_iff_not]
def has (s t : Int) : Bool := decide (0 <= t /\ t < s)
theorem gi {s t : Int} : has s t = true ↔ (0 <= t /\ t < s) := by unfold has; rw [decide_eq_true_iff]
theorem aer {s t : Int} : has s t = false ↔ ¬(0 <= t /\ t < s) := by unfold has; rw [decide_eq_false_iff_not]
theorem jf (m s r : Int) (w : World) : Calls prog 25 #[iD m s r] w fun e w' => e = .returned (.bool (may m s r)) /\ Below w.heap.size w w' := by
 unfold iD;go_enter func25, ntmps25;go_wp2
 all_goals
  go_ret;refine ⟨br ?_, ak.alloc aj _⟩
  first
   |(refine Eq.symm (agj.2 ?_); omega)
   |(rw [Bool.eq_iff_iff, iG, decide_eq_true_iff]; omega)
theorem kC (m s r t : Int) (w : World) : Calls prog 156 #[iD m s r, .int .i64 t] w fun e w' => e = .returned (.bool (has s t)) /\ Below w.heap.size w w' := by
 unfold iD;go_enter func156, ntmps156;go_wp2
 all_goals
  go_ret;refine ⟨br ?_, ak.alloc aj _⟩
  first
   |(refine Eq.symm (aer.2 ?_); omega)
   |(rw [Bool.eq_iff_iff, gi, decide_eq_true_iff]; omega)
theorem vr (M : Nat) (s r : Int) (w : World) (h3 : 3 <= M) (h16 : M <= 16) : Calls prog 158 #[iD M s r] w fun e w' => e = .returned (.int .i64 ((M - 1 : Nat) : Int)) /\ Below w.heap.size w w' := by
 unfold iD;go_enter func158, ntmps158;go_wp2;go_ret;exact ⟨cg (by omega), ak.alloc aj _⟩
def par (M T : Nat) : Nat := M - 1 - T % M
def dat (M T d : Nat) : Nat := (par M T + 1 + d) % M
section
variable {fn : Func} {p u : Tmp} {x y z : Int} {tmps : Array Value} {w : World} {b : Nat}
theorem wW (h0 : w.cell? ⟨b, 0, none⟩ = some (.int .i64 x)) (h1 : w.cell? ⟨b, 1, none⟩ = some (.int .i64 y)) : (loadVar 43 ⟨b, 0, none⟩).run prog w = .ok (eQ x y) w := by
 simp [go_sem, loadVar, h0, h1, eQ]
 done
end
section
variable {fn : Func} {p u : Tmp} {x y z : Int} {tmps : Array Value} {w : World} {b : Nat}
theorem zC (h : fn.results = #[.cell p 43]) (hp : tmps.getD p undef = .pointer (some ⟨b, 0, none⟩)) (h0 : w.cell? ⟨b, 0, none⟩ = some (.int .i64 x)) (h1 : w.cell? ⟨b, 1, none⟩ = some (.int .i64 y)) :
  (results fn tmps).run prog w = .ok (eQ x y) w := by
 have hp' : tmps[p]?.getD undef = .pointer (some ⟨b, 0, none⟩) := by simpa using hp
 simp [results, h, hp', asAddr, wW h0 h1]
end
theorem ad9 {M : Nat} (T : Nat) (h3 : 3 <= M) : (M : Int) - 1 - (T : Int) % (M : Int) = ((par M T : Nat) : Int) := by
 have hlt : T % M < M := Nat.mod_lt _ (by omega);have e : (T : Int) % (M : Int) = ((T % M : Nat) : Int) := rfl;rw [e];unfold par;omega
theorem mC {M : Nat} (T : Nat) (h3 : 3 <= M) : par M T < M := by unfold par; omega
section
variable {w : World} {a : Addr} {b : Nat} {m s r : Int}
theorem acc : (Instr.fieldAt 24 (.pointer (some ⟨b, 0, none⟩)) 0).run prog w = .ok (.pointer (some ⟨b, 0, none⟩)) w := by kernel_rfl
theorem ya : (Instr.fieldAt 43 (.pointer (some ⟨b, 0, none⟩)) 0).run prog w = .ok (.pointer (some ⟨b, 0, none⟩)) w := by kernel_rfl
theorem uC : (Instr.fieldAt 43 (.pointer (some ⟨b, 0, none⟩)) 1).run prog w = .ok (.pointer (some ⟨b, 1, none⟩)) w := by kernel_rfl
theorem aj1 {k : IntKind} {x : Int} (h : w.cell? a = some (.int k x)) : (Instr.loadAt 3 (.pointer (some a))).run prog w = .ok (.int k x) w := by
 simp [go_sem, h]
theorem akl (h0 : w.cell? ⟨b, 0, none⟩ = some (.int .i64 m)) (h1 : w.cell? ⟨b, 1, none⟩ = some (.int .i64 s)) (h2 : w.cell? ⟨b, 2, none⟩ = some (.int .i64 r)) : (Instr.loadAt 24 (.pointer (some ⟨b, 0, none⟩))).run prog w = .ok (iD m s r) w := by
 simp [go_sem, h0, h1, h2, iD]
end
theorem aeZ (x y : Int) : ∀ w : World, (Instr.field 43 (.agg #[.int .i64 x, .int .i64 y]) 1).run prog w = .ok (.int .i64 y) w := fun _ => by kernel_rfl
theorem ou (M T : Nat) (s r : Int) (w : World) (h3 : 3 <= M) (h16 : M <= 16) (ht : T <= 64) : Calls prog 157 #[iD M s r, .int .i64 T] w fun e w' => e = .returned (eQ T (par M T)) /\ Below w.heap.size w w' := by
 have hne : (M : Int) ≠ 0 := by omega
 unfold iD;go_enter func157, ntmps157;go_wp2
 go_region
 go_wp2;refine bodyPost_ret (zC (b := w.heap.size + 1) (x := T) (y := par M T) rfl rfl (by go_simp) (by go_simp; rw [ad9 T h3]; exact wT (by have := mC T h3; omega))) rfl ⟨rfl, ?_⟩;exact bd ((ak.alloc aj _).alloc (by go_simp) _)
theorem aek {M S : Nat} (h3 : 3 <= M) (h16 : M <= 16) (h64 : S <= 64) : IntKind.i64.wrap ((S : Int) * ((M - 1 : Nat) : Int)) = ((S * (M - 1) : Nat) : Int) := by
 have h := Nat.mul_le_mul h64 (show M - 1 <= 15 by omega);rw [<- Int.natCast_mul];exact IntWalk.i64_in _ (by omega)
theorem aeu {m s r : Int} (h : may m s r = true) : ∃ M S : Nat, m = M /\ s = S /\ 3 <= M /\ M <= 16 /\ 1 <= S /\ S <= 64 := by
 have := iG.1 h;exact ⟨m.toNat, s.toNat, by omega, by omega, by omega, by omega, by omega, by omega⟩
def aaQ (t : Int) : Int := if has 64 t = true then 2 + t else 0
def aal (t : Int) : Int := if has 64 t = true then 0 else 12
theorem nf (t : Int) (w : World) : Calls prog 128 #[.int .i64 t] w fun e w' => e = .returned (.tuple #[.int .i64 (aaQ t), .int .i64 (aal t)]) /\ Below w.heap.size w w' := by
 go_enter func128, ntmps128;go_wp2
 all_goals
  go_ret2;refine ⟨uQ ?_ ?_, ak⟩
  all_goals
   first
   |unfold aaQ
   |unfold aal
   first
   |rw [if_pos (gi.2 (by omega))]
   |rw [if_neg (by rw [gi]; omega)]
section
variable {M T d m : Nat}
theorem aiE {x M : Nat} (h : x < 2 * M) : x % M = if x < M then x else x - M := by
 split
 ·exact Nat.mod_eq_of_lt (by assumption)
 ·rw [Nat.mod_eq_sub_mod (by omega), Nat.mod_eq_of_lt (by omega)]
def nth (M T m : Nat) : Nat := (m + M - par M T - 1) % M
theorem aiz (h3 : 3 <= M) (hd : d < M - 1) : dat M T d = if par M T + 1 + d < M then par M T + 1 + d else par M T + 1 + d - M := aiE (by have := mC T h3; omega)
theorem acZ (h3 : 3 <= M) (hm : m < M) : nth M T m = if par M T < m then m - par M T - 1 else m + M - par M T - 1 := by
 unfold nth;have := mC T h3;rw [aiE (by omega)]
 split <;> split <;> omega
theorem aeR (h3 : 3 <= M) (hm : m < M) (hne : m ≠ par M T) : nth M T m < M - 1 /\ dat M T (nth M T m) = m := by
 have := mC T h3;have h1 : nth M T m < M - 1 := by rw [acZ h3 hm]; split <;> omega
 refine ⟨h1, ?_⟩;rw [aiz h3 h1, acZ h3 hm]
 split <;> split <;> omega
theorem afV {M : Nat} (T m : Nat) (h3 : 3 <= M) : ((m : Int) + (M : Int) - ((par M T : Nat) : Int) - 1) % (M : Int) = ((nth M T m : Nat) : Int) := by
 have := mC T h3;have e : ((m : Int) + (M : Int) - ((par M T : Nat) : Int) - 1) = ((m + M - par M T - 1 : Nat) : Int) := by omega
 rw [e]; rfl
end
def inP (m s t k : Int) : Bool := decide (0 <= t /\ t < s /\ 0 <= k /\ k < m)
theorem nY {m s t k : Int} : inP m s t k = true ↔ (0 <= t /\ t < s /\ 0 <= k /\ k < m) := by unfold inP; rw [decide_eq_true_iff]
theorem yf {m s t k : Int} : inP m s t k = false ↔ ¬(0 <= t /\ t < s /\ 0 <= k /\ k < m) := by unfold inP; rw [decide_eq_false_iff_not]
def blE (m s r t k : Int) : Int := if may m s r = true then (if inP m s t k = true then (if k.toNat = par m.toNat t.toNat then 7 else 0) else 12) else 2
def blN (m s r t k : Int) : Int := if may m s r = true then (if inP m s t k = true then (if k.toNat = par m.toNat t.toNat then 0 else ((t.toNat * (m.toNat - 1) + nth m.toNat t.toNat k.toNat : Nat) : Int)) else 0) else 0
def blV (m s r t k : Int) : Value := .tuple #[.int .i64 (blN m s r t k), .int .i64 (blE m s r t k)]
theorem agK {m s r : Int} (t k : Int) (h : may m s r = false) : blV m s r t k = .tuple #[.int .i64 0, .int .i64 2] := by simp [blV, blN, blE, h]
theorem ad1 {m s r t k : Int} (h : may m s r = true) (h' : inP m s t k = false) : blV m s r t k = .tuple #[.int .i64 0, .int .i64 12] := by simp [blV, blN, blE, h, h']
theorem afo {M S T k : Nat} {r : Int} (h : may M S r = true) (h' : inP M S T k = true) (hp : k = par M T) : blV M S r T k = .tuple #[.int .i64 0, .int .i64 7] := by
 unfold blV blN blE;simp only [h, h', if_true];rw [if_pos (show (k : Int).toNat = par (M : Int).toNat (T : Int).toNat from hp), if_pos (show (k : Int).toNat = par (M : Int).toNat (T : Int).toNat from hp)]
theorem agQ {M S T k : Nat} {r : Int} (h : may M S r = true) (h' : inP M S T k = true) (hp : k ≠ par M T) : blV M S r T k = .tuple #[.int .i64 ((T * (M - 1) + nth M T k : Nat) : Int), .int .i64 0] := by
 unfold blV blN blE;simp only [h, h', if_true];rw [if_neg (show (k : Int).toNat ≠ par (M : Int).toNat (T : Int).toNat from hp), if_neg (show (k : Int).toNat ≠ par (M : Int).toNat (T : Int).toNat from hp)]
 rfl
theorem ado (m s r t k : Int) (w : World) (h : may m s r = false) : Calls prog 110 #[iD m s r, eQ t k] w fun e w' => e = .returned (blV m s r t k) /\ Below w.heap.size w w' := by
 rw [agK t k h];have H := ae h;clear h;unfold iD eQ;go_enter func110, ntmps110;go_wp2_with fail;refine (jf m s r _).mono ?_;rintro e w1 ⟨rfl, hb1⟩;rw [H.out];obtain ⟨K0, K1, hs, HB⟩ := ji hb1 (jX ..) (abZ ..);clear hb1;go_wp2;go_ret2;exact ⟨rfl, HB⟩
theorem zQ (m s r t k : Int) (w : World) (h : may m s r = true) (h' : inP m s t k = false) : Calls prog 110 #[iD m s r, eQ t k] w fun e w' => e = .returned (blV m s r t k) /\ Below w.heap.size w w' := by
 rw [ad1 h h'];have hn := yf.1 h';have H := ae h;clear h h';have h3 : has s t = false \/ (has s t = true /\ k < 0) \/ (has s t = true /\ 0 <= k /\ m <= k) := by
  cases hh : has s t
  ·exact .inl rfl
  ·have := gi.1 hh;by_cases hk : k < 0
   ·exact .inr (.inl ⟨rfl, hk⟩)
   ·exact .inr (.inr ⟨rfl, by omega, by omega⟩)
 clear hn;have go : ∀ (b : Bool), has s t = b -> (b = true -> (k < 0 \/ (0 <= k /\ m <= k))) -> Calls prog 110 #[iD m s r, eQ t k] w fun e w' => e = .returned (.tuple #[.int .i64 0, .int .i64 12]) /\ Below w.heap.size w w' := by
  intro b hb hor;have HBo := ae hb;unfold iD eQ;cases b
  ·clear hor h3 hb;go_enter func110, ntmps110;go_wp2_with fail;refine (jf m s r _).mono ?_;rintro e w1 ⟨rfl, hb1⟩;rw [H.out];obtain ⟨K0, K1, hs, HB⟩ := ji hb1 (jX ..) (abZ ..);obtain ⟨c0, c1, c2⟩ := cells3 K0;obtain ⟨p0, p1, f0, f1⟩ := iW K1;clear hb1;go_wp2_with fail;refine (kC m s r t _).mono ?_;rintro e w2 ⟨rfl, hb2⟩;rw [HBo.out];go_wp2;go_ret2;exact ⟨rfl, HB.out.trans (hb2.mono HB.out.size)⟩
  ·have hor := hor rfl;clear h3 hb;rcases hor with hk | ⟨hk, hk'⟩
   all_goals
    go_enter func110, ntmps110;go_wp2_with fail;refine (jf m s r _).mono ?_;rintro e w1 ⟨rfl, hb1⟩;rw [H.out];obtain ⟨K0, K1, hs, HB⟩ := ji hb1 (jX ..) (abZ ..);obtain ⟨c0, c1, c2⟩ := cells3 K0;obtain ⟨p0, p1, f0, f1⟩ := iW K1;clear hb1;go_wp2_with fail;refine (kC m s r t _).mono ?_;rintro e w2 ⟨rfl, hb2⟩;rw [HBo.out];obtain ⟨d0, d1, d2⟩ := cells3 (aB K0 hb2);obtain ⟨q0, q1, g0, g1⟩ := iW (aB K1 hb2);have HB2 := ae (HB.out.trans (hb2.mono HB.out.size));clear hb2 c0 c1 c2 p0 p1 f0 f1;go_wp2;go_ret2;exact ⟨rfl, HB2⟩
 rcases h3 with hh | ⟨hh, hk⟩ | ⟨hh, hk⟩
 ·exact go false hh (fun e => by cases e)
 ·exact go true hh (fun _ => .inl hk)
 ·exact go true hh (fun _ => .inr hk)
theorem aaq (M S T k : Nat) (r : Int) (w : World) (h : may M S r = true) (h' : inP M S T k = true) (hp : k = par M T) : Calls prog 110 #[iD M S r, eQ T k] w fun e w' => e = .returned (blV M S r T k) /\ Below w.heap.size w w' := by
 rw [afo h h' hp];have hn := nY.1 h';have hm := iG.1 h;have HH := ae (show has S T = true from gi.2 (by omega));have H := ae h;clear h h';have HP := ae hp;clear hp;unfold iD eQ;go_enter func110, ntmps110;go_wp2_with fail;refine (jf M S r _).mono ?_;rintro e w1 ⟨rfl, hb1⟩;rw [H.out];obtain ⟨K0, K1, hs, HB⟩ := ji hb1 (jX ..) (abZ ..);obtain ⟨c0, c1, c2⟩ := cells3 K0;obtain ⟨p0, p1, f0, f1⟩ := iW K1;clear hb1;go_wp2_with fail;refine (kC M S r T _).mono ?_;rintro e w2 ⟨rfl, hb2⟩;rw [HH.out];have K02 := ae (aB K0 hb2);have K12 := ae (aB K1 hb2);obtain ⟨d0, d1, d2⟩ := cells3 K02;obtain ⟨q0, q1, g0, g1⟩ := iW K12;have HB2 := ae (HB.out.trans (hb2.mono HB.out.size));clear hb2 c0 c1 c2 p0 p1 f0 f1 K0 K1;go_wp2_with fail;refine (ou M T S r _ (by omega) (by omega) (by omega)).mono ?_;rintro e w3 ⟨rfl, hb3⟩;unfold eQ;rw [<- HP.out];have K03 := ae (aB K02 hb3);have K13 := ae (aB K12 hb3);obtain ⟨c0, c1, c2⟩ := cells3 K03;obtain ⟨p0, p1, f0, f1⟩ := iW K13;have hs3 : w.heap.size + 1 < w3.heap.size := aV K13;have hs4 : w.heap.size < w3.heap.size := aV K03;have HB3 := ae (HB2.out.trans (hb3.mono HB2.out.size));clear hb3 d0 d1 d2 q0 q1 g0 g1 K02 K12 hs;go_wp2;go_ret2;exact ⟨rfl, HB3.out.alloc HB3.out.size _⟩
theorem aa1 (M S T k : Nat) (r : Int) (w : World) (h : may M S r = true) (h' : inP M S T k = true) (hp : k ≠ par M T) : Calls prog 110 #[iD M S r, eQ T k] w fun e w' => e = .returned (blV M S r T k) /\ Below w.heap.size w w' := by
 rw [agQ h h' hp];have hn := nY.1 h';have hm := iG.1 h;have HH := ae (show has S T = true from gi.2 (by omega));have H := ae h;clear h h';have hpl := mC T (M := M) (by omega);have hni := afV (M := M) T k (by omega);have hnl : nth M T k < M - 1 := (aeR (T := T) (by omega) (by omega) hp).1;have HNI := ae hni;have HM := ae (aek (M := M) (S := T) (by omega) (by omega) (by omega));have HA := ae (show IntKind.i64.wrap (((T * (M - 1) : Nat) : Int) + ((nth M T k : Nat) : Int)) = ((T * (M - 1) + nth M T k : Nat) : Int) by
  have h := Nat.mul_le_mul (show T <= 64 by omega) (show M - 1 <= 15 by omega);generalize T * (M - 1) = q at *;rw [<- Int.natCast_add];exact IntWalk.i64_in _ (by omega))
 clear hni;generalize hpq : par M T = P at *;have HPQ := ae hpq;clear hpq;unfold iD eQ;go_enter func110, ntmps110;go_wp2_with fail;refine (jf M S r _).mono ?_;rintro e w1 ⟨rfl, hb1⟩;rw [H.out];obtain ⟨K0, K1, hs, HB⟩ := ji hb1 (jX ..) (abZ ..);obtain ⟨c0, c1, c2⟩ := cells3 K0;obtain ⟨p0, p1, f0, f1⟩ := iW K1;clear hb1;go_wp2_with fail;refine (kC M S r T _).mono ?_;rintro e w2 ⟨rfl, hb2⟩;rw [HH.out];have K02 := ae (aB K0 hb2);have K12 := ae (aB K1 hb2);obtain ⟨d0, d1, d2⟩ := cells3 K02;obtain ⟨q0, q1, g0, g1⟩ := iW K12;have HB2 := ae (HB.out.trans (hb2.mono HB.out.size));clear hb2 c0 c1 c2 p0 p1 f0 f1 K0 K1;go_wp2_with fail;refine (ou M T S r _ (by omega) (by omega) (by omega)).mono ?_;rintro e w3 ⟨rfl, hb3⟩;unfold eQ;rw [HPQ.out];have K03 := ae (aB K02 hb3);have K13 := ae (aB K12 hb3);obtain ⟨c0, c1, c2⟩ := cells3 K03;obtain ⟨p0, p1, f0, f1⟩ := iW K13;have hs3 : w.heap.size + 1 < w3.heap.size := aV K13;have hs4 : w.heap.size < w3.heap.size := aV K03;have HB3 := ae (HB2.out.trans (hb3.mono HB2.out.size));clear hb3 d0 d1 d2 q0 q1 g0 g1 K02 K12 hs;go_wp2;rw [HNI.out];have K04 := ae (bz K03 (.cells #[.int .i64 T, .int .i64 P] 43));have K14 := ae (bz K13 (.cells #[.int .i64 T, .int .i64 P] 43));have HB4 := ae (HB3.out.alloc HB3.out.size (.cells #[.int .i64 T, .int .i64 P] 43));clear c0 c1 c2 p0 p1 f0 f1 hs3 hs4 K03 K13 HB3;generalize w3.alloc (.cells #[.int .i64 T, .int .i64 P] 43) = w4 at *;have CC := fun (w' : World) (hw : Below w4.heap.size w4 w') => cells3 (aB K04 hw)
 have PP := fun (w' : World) (hw : Below w4.heap.size w4 w') => iW (aB K14 hw)
 refine aR (B := w4.heap.size) (by kernel_rfl) ?_;refine akC (fun _ hw => ax rfl akE ya) ?_;refine akC (fun w' hw => aC rfl akE (aj1 (PP w' hw).1)) ?_;refine akC (fun w' hw => aC rfl akE (akl (CC w' hw).1 (CC w' hw).2.1 (CC w' hw).2.2)) ?_;refine bW rfl (fun _ => aA call158 rfl (evc akE evn)) (bH aj fun w' hw => vr M S r w' (by omega) (by omega)) ?_;simp only [aa];refine akC (fun _ hw => acW rfl akE akE HM) ?_;refine cE 1 ?_;refine akC (fun _ hw => bJ rfl akE akE HA) ?_;refine cE 2 ?_;refine wpQuiet_nil ?_;intro w5 hw5;go_wp2_with fail;go_ret2;exact ⟨rfl, HB4.out.trans (hw5.mono HB4.out.size)⟩
theorem oK (m s r t k : Int) (w : World) : Calls prog 110 #[iD m s r, eQ t k] w fun e w' => e = .returned (blV m s r t k) /\ Below w.heap.size w w' := by
 cases h : may m s r
 ·exact ado m s r t k w h
 ·cases h' : inP m s t k
  ·exact zQ m s r t k w h h'
  ·obtain ⟨M, S, rfl, rfl, _⟩ := aeu h;have hn := nY.1 h';obtain ⟨T, rfl⟩ := Int.eq_ofNat_of_zero_le hn.1;obtain ⟨j, rfl⟩ := Int.eq_ofNat_of_zero_le hn.2.2.1;by_cases hp : j = par M T
   ·exact aaq M S T j r w h h' hp
   ·exact aa1 M S T j r w h h' hp
section
variable {b : Nat} {w : World}
theorem uE : (Instr.fieldAt 66 (.pointer (some ⟨b, 0, none⟩)) 0).run prog w = .ok (.pointer (some ⟨b, 0, none⟩)) w := by kernel_rfl
theorem jP : (Instr.fieldAt 66 (.pointer (some ⟨b, 0, none⟩)) 1).run prog w = .ok (.pointer (some ⟨b, 3, none⟩)) w := by kernel_rfl
theorem fV : (Instr.fieldAt 66 (.pointer (some ⟨b, 0, none⟩)) 2).run prog w = .ok (.pointer (some ⟨b, 4, none⟩)) w := by kernel_rfl
theorem nA {ad : Addr} {a : Option Addr} (h : w.cell? ad = some (.pointer a)) : (Instr.loadAt 63 (.pointer (some ad))).run prog w = .ok (.pointer a) w := by simp [go_sem, h]
theorem jW {ad : Addr} {a : Option Nat} (h : w.cell? ad = some (.map a)) : (Instr.loadAt 64 (.pointer (some ad))).run prog w = .ok (.map a) w := by simp [go_sem, h]
end
section
variable {ρ : Operand -> Value} {o : Oper} {x y : Operand} {w : World} {t rr : TypeId}
theorem pM {k1 v1 : TypeId} {m : Option Nat} (c : Bool) (hp : prog.underlying t = some (.map k1 v1)) (ho : o.op = .binOp .neq t x y rr) (hx : ρ x = .map m) (hy : ρ y = .map none) (h : (!decide (m = none)) = c) : (execOp ρ o).run prog w = .ok (.value (.bool c)) w := by
 have hg : (eqGuard .neq t x y (.map m) (.map none)).run prog w = .ok () w := by simp [eqGuard]
 have hb := run_neq_map_nil w t k1 v1 m hp;unfold execOp;simp only [ho, hx, hy, Sem.run_bind, hg, hb, Result.andThen_ok, Sem.run_pure];rw [<- h];cases m <;> rfl
theorem rk (n : Int) (ho : o.op = .build 43 #[(0, x)]) (hx : ρ x = .int .i64 n) : (execOp ρ o).run prog w = .ok (.value (.agg #[.int .i64 n, .int .i64 0])) w :=
 rv ho hx (by kernel_rfl)
end
theorem xD {N T : Nat} {r : Int} (h : dO (gx N T r) = true) : may (N : Int) (T : Int) r = true := by
 obtain ⟨k1, k2, k3, k4, k5, k6⟩ := fw h;exact iG.2 ⟨k1, k2, k3, k4, k5, k6⟩
theorem agA {N T : Nat} {r : Int} (h : dO (gx N T r) = true) : 3 <= N /\ N <= 16 /\ 1 <= T /\ T <= 64 /\ 40 <= r /\ r <= 256 := by
 obtain ⟨k1, k2, k3, k4, k5, k6⟩ := iG.1 (xD h);exact ⟨by omega, by omega, by omega, by omega, k5, k6⟩
theorem ahd {N T : Nat} {r n m : Int} (h : dO (gx N T r) = true) : (blE (N : Int) (T : Int) r n m != 12) = decide (0 <= n /\ n < (T : Int) /\ 0 <= m /\ m < (N : Int)) := by
 unfold blE;rw [if_pos (xD h)];cases hi : inP (N : Int) (T : Int) n m
 ·rw [am (yf.1 hi)]
  rfl
 ·rw [ao (nY.1 hi), if_pos rfl]
  split <;> rfl
theorem ajM (M S T : Nat) (r : Int) (w : World) (h : may M S r = true) (h' : has S T = true) : Calls prog 155 #[iD M S r, .int .i64 T] w fun e w' => e = .returned (.tuple #[.int .i64 (par M T), .int .i64 0]) /\ Below w.heap.size w w' := by
 have hm := iG.1 h;have ht := gi.1 h';have hf := aeZ T (par M T);have H := ae h;have H' := ae h';clear h h';unfold iD;go_enter func155, ntmps155;go_wp2_with fail;refine (jf M S r _).mono ?_;rintro e w1 ⟨rfl, hb1⟩;obtain ⟨K0, HB⟩ := adf hb1 (jX ..);obtain ⟨c0, c1, c2⟩ := cells3 K0;rw [H.out];clear hb1;go_wp2_with fail;refine (kC M S r T _).mono ?_;rintro e w2 ⟨rfl, hb2⟩;obtain ⟨d0, d1, d2⟩ := cells3 (aB K0 hb2);rw [H'.out];go_wp2_with fail;refine (ou M T S r _ (by omega) (by omega) (by omega)).mono ?_;rintro e w3 ⟨rfl, hb3⟩;unfold eQ;go_wp2;go_ret2;exact ⟨rfl, (HB.out.trans (hb2.mono HB.out.size)).trans (hb3.mono (by have := HB.out.size; have := hb2.size; omega))⟩
section
variable {w : World} {t lp mp cn N T room K : Nat} {FL : Nat -> Prop} {L : List Ky} {m : Nat -> Option Nat} {ln : Nat -> Option LnS} {r : Int} {s : ShS}
theorem lc (h : PRu w t lp mp FL L cn m ln N T room r) : Calls prog 55 #[.pointer (some ⟨t, 0, none⟩)] w fun e w' => e = .returned (.bool true) /\ w = w' := by
 have HH := ae h;clear h;go_enter func55, ntmps55;go_upto_region 1 with fail;refine aI 1 ?_;refine aku (dh true underlying26 rfl akE evk rfl) ?_;refine runs 3 ?_;refine akB (ax rfl akE fV) ?_;refine akB (aC rfl akE (jW (PRu.c4 HH))) ?_;refine akB (pM true underlying64 rfl akE evk rfl) ?_;refine aH 2 ?_;go_wp2_with fail;go_ret;exact ⟨rfl, rfl⟩
theorem fF (n m' : Int) (h : PRu w t lp mp FL L cn m ln N T room r) : Calls prog 57 #[.pointer (some ⟨t, 0, none⟩), .agg #[.int .i64 n, .int .i64 m']] w fun e w' => e = .returned (.bool (decide (0 <= n /\ n < (T : Int) /\ 0 <= m' /\ m' < (N : Int)))) /\ Below w.heap.size w w' := by
 have HE := ae (ahd (n := n) (m := m') h.may);obtain ⟨pb, hpb⟩ : ∃ pb, decide (0 <= n /\ n < (T : Int) /\ 0 <= m' /\ m' < (N : Int)) = pb := ⟨_, rfl⟩;rw [hpb] at HE ⊢;clear hpb;have hbx := (Below.refl w.heap.size w).alloc aj (.cells ([.int .i64 n, .int .i64 m'] : List Value).toArray 43);have HP := ae (heap_alloc_new w (.cells ([.int .i64 n, .int .i64 m'] : List Value).toArray 43));have HH := ae (h.below hbx);have HB := ae hbx;clear h hbx;go_enter func57, ntmps57;go_upto_region 0 with fail;refine af ?_;refine aku (ch (cs := [.int .i64 n, .int .i64 m']) rfl akE) ?_;refine aH 1 ?_;generalize w.alloc (.cells ([.int .i64 n, .int .i64 m'] : List Value).toArray 43) = w1 at *;go_upto_region 1 with fail;refine aR (B := w1.heap.size) (by kernel_rfl) ?_;refine cE 2 ?_;refine akC (fun _ hw => ax rfl akE uE) ?_;refine akC (fun _ hw => bL (cs := ([.int .i64 (N : Int), .int .i64 (T : Int), .int .i64 r] : List Value)) underlying24 rfl (by kernel_rfl) rfl akE (PRu.geo (HH.out.below hw))) ?_;refine akC (fun _ hw => bL (cs := [.int .i64 n, .int .i64 m']) underlying43 rfl (by kernel_rfl) rfl akE (aQ (aB HP hw))) ?_;refine bW rfl (fun _ => aA call110 rfl (evc akE (evc akE evn))) (bH aj fun _ hw => oK (N : Int) (T : Int) r n m' _) ?_;simp only [aa];refine cE 3 ?_;refine cE 2 ?_;refine wpQuiet_nil ?_;intro w2 hw;have HW := ae (HB.out.trans (hw.mono HB.out.size));clear hw;go_upto_region 2 with fail;refine aI 1 ?_;refine aku (aL pb rfl akE evk HE) ?_;refine aH 1 ?_;go_wp2_with fail;go_ret;exact ⟨rfl, HW⟩
theorem qK {n : Nat} (hn : n < T) (h : PRu w t lp mp FL L cn m ln N T room r) : Calls prog 106 #[.pointer (some ⟨t, 0, none⟩), .int .i64 (n : Int)] w fun e w' => e = .returned (.int .i64 ((N - 1 - n % N : Nat) : Int)) /\ Below w.heap.size w w' := by
 have HM := ae (xD h.may);have HS : Hid (has (T : Int) (n : Int) = true) := ae (gi.2 ⟨by omega, by omega⟩);have HH := ae h;clear h hn;go_enter func106, ntmps106;go_upto_region 1 with fail;refine aI 2 ?_;refine aku (ax rfl akE uE) ?_;refine aku (bL (cs := ([.int .i64 (N : Int), .int .i64 (T : Int), .int .i64 r] : List Value)) underlying24 rfl (by kernel_rfl) rfl akE (PRu.geo HH)) ?_;refine runs 1 ?_;refine aw rfl (aA call155 rfl (evc akE (evc akE evn))) ?_;refine (ajM N T n r w HM HS).mono ?_;rintro e w1 ⟨rfl, b1⟩;have HB := ae b1;clear b1;refine aO ?_;refine runs 3 ?_;refine aH 2 ?_;go_upto_region 2 with fail;refine co 2 ?_;go_wp2_with fail;go_ret;exact ⟨rfl, HB⟩
def ut (T : Nat) (n : Int) : Int := if decide (0 <= n /\ n < (T : Int)) = true then 0 else 2
theorem m9 (n : Int) (h : PRu w t lp mp FL L cn m ln N T room r) : Calls prog 65 #[.pointer (some ⟨t, 0, none⟩), .int .i64 n] w fun e w' => e = .returned (.int .i64 (ut T n)) /\ Below w.heap.size w w' := by
 have hg := agA h.may;have HE : Hid (decide (0 <= n /\ n < (T : Int) /\ 0 <= (0 : Int) /\ (0 : Int) < (N : Int)) = decide (0 <= n /\ n < (T : Int))) := ae (by
  rw [Bool.eq_iff_iff, decide_eq_true_iff, decide_eq_true_iff]; omega)
 have HH := ae h;clear h hg;go_enter func65, ntmps65;go_upto_region 1 with fail;refine aI 1 ?_;refine aw rfl (aA call55 rfl (evc akE evn)) ?_;refine (lc HH).mono ?_;rintro e w' ⟨rfl, rfl⟩;refine aO ?_;refine aH 2 ?_;cases hd : decide (0 <= n /\ n < (T : Int))
 ·have HD := ae hd;clear hd;go_upto_region 3 with fail;refine aI 2 ?_;refine aku (rk n rfl akE) ?_;refine aw rfl (aA call57 rfl (evc akE (evc akE evn))) ?_;refine (fF n 0 HH).mono ?_;rintro e w1 ⟨rfl, b1⟩;rw [HE.out];rw [HD.out];have HB := ae b1;clear b1;refine aO ?_;refine aH 2 ?_;go_wp2_with fail;go_ret;exact ⟨by unfold ut; rw [HD.out]; rfl, HB⟩
 ·have HD := ae hd;clear hd;go_upto_region 3 with fail;refine aI 2 ?_;refine aku (rk n rfl akE) ?_;refine aw rfl (aA call57 rfl (evc akE (evc akE evn))) ?_;refine (fF n 0 HH).mono ?_;rintro e w1 ⟨rfl, b1⟩;rw [HE.out];rw [HD.out];have HB := ae b1;clear b1;refine aO ?_;refine aH 2 ?_;go_wp2_with fail;go_ret;exact ⟨by unfold ut; rw [HD.out]; rfl, HB⟩
theorem oW (h : PRu w t lp mp FL L cn m ln N T room r) : Calls prog 18 #[.pointer (some ⟨t, 0, none⟩)] w fun e w' => ∃ v, e = .returned v /\ aP bY w' w.heap.size v (fy L) /\ Below w.heap.size w w' := by
 have HH := ae h;clear h;go_enter func18, ntmps18;go_upto_region 1 with fail;refine aI 1 ?_;refine aw rfl (aA call55 rfl (evc akE evn)) ?_;refine (lc HH).mono ?_;rintro e w' ⟨rfl, rfl⟩;refine aO ?_;refine aH 1 ?_;go_upto_region 3 with fail;refine aI 2 ?_;refine aku (ax rfl akE jP) ?_;refine aku (aC rfl akE (nA (PRu.c3 HH))) ?_;refine aw rfl (aA call64 rfl (evc akE evn)) ?_;refine (ab3 w HH.out.li).mono ?_;rintro e w1 ⟨v, rfl, m1, b1⟩;have HM := ae m1;have HB := ae b1;clear m1 b1;refine aO ?_;refine aH 1 ?_;go_wp2_with fail;go_ret;exact ⟨v, rfl, HM, HB⟩
end
def ka (d : Nat -> Bool) (l : List Nat) : List Int := (l.filter d).map fun (n : Nat) => (n : Int)
theorem rz {d : Nat -> Bool} {l : List Nat} {i : Nat} {b : Bool} (hi : i < l.length) (h : d (l.getD i 0) = b) : ka d (l.take (i + 1)) = ka d (l.take i) ++ (if b = true then [((l.getD i 0 : Nat) : Int)] else []) := by
 subst h;unfold ka;rw [List.take_add_one, List.getElem?_eq_getElem hi, List.filter_append, List.map_append, List.getD, List.getElem?_eq_getElem hi]
 congr 1
 simp only [Option.toList_some, List.filter_cons, List.filter_nil, Option.getD_some]
 split <;> rfl
theorem pQ (d : Nat -> Bool) (l : List Nat) : (ka d l).length <= l.length := by unfold ka; rw [List.length_map]; exact List.length_filter_le _ _
theorem kI (d : Nat -> Bool) : ∀ k, (pP d k).Pairwise (fun a b => a < b)
 |0 => List.Pairwise.nil
 |k + 1 => by
  rw [pP, List.pairwise_append];refine ⟨kI d k, ?_, fun a ha b hb => ?_⟩
  ·split
   ·exact List.pairwise_singleton _ _
   ·exact List.Pairwise.nil
  ·obtain ⟨j, rfl, hj, _⟩ := i4.1 ha
   split at hb
   ·have := List.mem_singleton.1 hb; omega
   ·cases hb
theorem o9 {s : ShS} (h : cf s) : (ka s.dty s.o).mergeSort (fun x y => decide (x <= y)) = s.dw := by
 have tr : ∀ a b c : Int, decide (a <= b) = true -> decide (b <= c) = true -> decide (a <= c) = true := fun a b c h1 h2 => by simp only [decide_eq_true_eq] at *; omega
 have tot : ∀ a b : Int, (decide (a <= b) || decide (b <= a)) = true := fun a b => by simp only [Bool.or_eq_true, decide_eq_true_eq]; omega
 have hs := kI s.dty s.T;refine List.Perm.eq_of_pairwise (le := fun a b => decide (a <= b) = true) (fun a b _ _ h1 h2 => by simp only [decide_eq_true_eq] at h1 h2; omega) (List.pairwise_mergeSort tr tot _) (hs.imp fun {a b} hab => by simp only [decide_eq_true_eq]; omega) ((List.mergeSort_perm _ _).trans ?_);refine (List.perm_ext_iff_of_nodup ?_ (hs.imp fun {a b} hab e => by omega)).2 fun a => ?_
 ·unfold ka;refine List.pairwise_map.2 ((h.nd.filter _).imp fun {a b} hab e => hab (by omega))
 ·unfold ka;rw [List.mem_map]
  constructor
  ·rintro ⟨n, hn, rfl⟩;have := List.mem_filter.1 hn;exact ShS.q8.2 ⟨h.lt n this.1, this.2⟩
  ·intro ha;obtain ⟨j, rfl, hj, hd⟩ := i4.1 ha;exact ⟨j, List.mem_filter.2 ⟨(h.mem j).2 (eW hd), hd⟩, rfl⟩
theorem kt : ∀ (a b l : List Int), fm l (a ++ b) = fm (fm l a) b
 |[], b, l => rfl
 |x :: a, b, l => by rw [List.cons_append, fm, fm, kt a b]
theorem qT : ∀ (r l : List Int), l.length <= (fm l r).length
 |[], l => aj
 |x :: r, l => by
  rw [fm];refine aq ?_ (qT r _)
  split <;> simp
theorem pR (l r : List Int) (x : Int) : fm l (r ++ [x]) = if (fm l r).contains x = true then fm l r else fm l r ++ [x] := by rw [kt]; rfl
theorem vu {l : List Int} {i : Nat} (hi : i < l.length) : l.take (i + 1) = l.take i ++ [l.getD i 0] := by
 rw [List.take_add_one, List.getElem?_eq_getElem hi, List.getD, List.getElem?_eq_getElem hi]; rfl
theorem aam (l r : List Int) (i : Nat) : (fm l (r.take i)).length <= (fm l r).length := by
 conv => rhs; rw [<- List.take_append_drop i r, kt]
 exact qT _ _
theorem qO {s : ShS} : ∀ (l r : List Int), (l ++ r).Nodup -> fm l r = l ++ r
 |l, [], _ => by simp [fm]
 |l, x :: r, h => by
  have hx : ¬ l.contains x = true := fun e => by
   have hm : x ∈ l := by simpa using e
   rw [List.nodup_append] at h;exact h.2.2 x hm x (List.mem_cons_self ..) rfl
  rw [fm, if_neg hx, qO (s := s) (l ++ [x]) r (by rw [List.append_assoc]; exact h), List.append_assoc]
  rfl
theorem uZ (s : ShS) : s.dw.Nodup := (kI s.dty s.T).imp fun {a b} hab e => by omega
theorem acf (s : ShS) (i : Nat) : fm [] (s.dw.take i) = s.dw.take i := by
 have := qO (s := s) [] (s.dw.take i) (by rw [List.nil_append]; exact (uZ s).sublist (List.take_sublist _ _));rw [this, List.nil_append]
theorem cf.adK {s : ShS} (h : cf s) : s.dw.length <= s.room := by
 rw [<- o9 h, List.length_mergeSort];exact aq (pQ _ _) h.len
open Go.RowKit Go.Shelf
def ajB : Ren := { f := fun x => match x with | 189 => 63 | 125 => 121 | 257 => 120 | 128 => 175 | 129 => 176 | 294 => 166 | 295 => 167 | 296 => 168 | 297 => 169 | 298 => 170 | 299 => 171 | 216 => 172 | 300 => 173 | 301 => 174 | 328 => 190 | 329 => 191 | 330 => 192 | 331 => 193 | 332 => 194 | 215 => 195 | 343 => 203 | n => n, t := fun x => match x with | 28 => 48 | 3 => 3 | 46 => 53 | 0 => 0 | 51 => 211 | 53 => 46 | 4 => 4 | 183 => 204 | 182 => 203 | 131 => 140 | 5 => 5 | 9 => 9 | 218 => 220 | 222 => 223 | 228 => 229 | 229 => 230 | n => n, g := fun x => x }
theorem agC : Lays.n189 prog ajB := {
 mixed := (by kernel_rfl),
 f125 := func121.trans (congrArg some (by kernel_rfl)),
 f128 := func175.trans (congrArg some (by kernel_rfl)),
 f129 := func176.trans (congrArg some (by kernel_rfl)),
 f189 := func63.trans (congrArg some (by kernel_rfl)),
 f215 := func195.trans (congrArg some (by kernel_rfl)),
 f216 := func172.trans (congrArg some (by kernel_rfl)),
 f257 := func120.trans (congrArg some (by kernel_rfl)),
 f294 := func166.trans (congrArg some (by kernel_rfl)),
 f295 := func167.trans (congrArg some (by kernel_rfl)),
 f296 := func168.trans (congrArg some (by kernel_rfl)),
 f297 := func169.trans (congrArg some (by kernel_rfl)),
 f298 := func170.trans (congrArg some (by kernel_rfl)),
 f299 := func171.trans (congrArg some (by kernel_rfl)),
 f300 := func173.trans (congrArg some (by kernel_rfl)),
 f301 := func174.trans (congrArg some (by kernel_rfl)),
 f328 := func190.trans (congrArg some (by kernel_rfl)),
 f329 := func191.trans (congrArg some (by kernel_rfl)),
 f330 := func192.trans (congrArg some (by kernel_rfl)),
 f331 := func193.trans (congrArg some (by kernel_rfl)),
 f332 := func194.trans (congrArg some (by kernel_rfl)),
 f343 := func203.trans (congrArg some (by kernel_rfl)),
 t0 := underlying0,
 a0 := Tryz.isAgg0,
 z0 := Tryz.sizeOf0,
 v0 := Tryz.zeroValue0,
 t3 := underlying3,
 a3 := Tryz.isAgg3,
 z3 := Tryz.sizeOf3,
 v3 := Tryz.zeroValue3,
 t4 := underlying4,
 a4 := Tryz.isAgg4,
 z4 := Tryz.sizeOf4,
 v4 := Tryz.zeroValue4,
 t5 := underlying5,
 a5 := Tryz.isAgg5,
 z5 := Tryz.sizeOf5,
 v5 := Tryz.zeroValue5,
 t9 := underlying9,
 a9 := Tryz.isAgg9,
 z9 := Tryz.sizeOf9,
 v9 := Tryz.zeroValue9,
 t28 := underlying48,
 a28 := Tryz.isAgg48,
 z28 := Tryz.sizeOf48,
 v28 := Tryz.zeroValue48,
 t46 := underlying53,
 a46 := Tryz.isAgg53,
 z46 := Tryz.sizeOf53,
 v46 := Tryz.zeroValue53,
 t51 := underlying211,
 a51 := Tryz.isAgg211,
 z51 := Tryz.sizeOf211,
 v51 := Tryz.zeroValue211,
 t53 := underlying46,
 a53 := Tryz.isAgg46,
 z53 := Tryz.sizeOf46,
 v53 := Tryz.zeroValue46,
 t131 := underlying140,
 a131 := Tryz.isAgg140,
 z131 := Tryz.sizeOf140,
 v131 := Tryz.zeroValue140,
 t182 := underlying203,
 a182 := Tryz.isAgg203,
 z182 := Tryz.sizeOf203,
 v182 := Tryz.zeroValue203,
 t183 := underlying204,
 a183 := Tryz.isAgg204,
 z183 := Tryz.sizeOf204,
 v183 := Tryz.zeroValue204,
 t218 := underlying220,
 a218 := Tryz.isAgg220,
 z218 := Tryz.sizeOf220,
 v218 := Tryz.zeroValue220,
 t222 := underlying223,
 a222 := Tryz.isAgg223,
 z222 := Tryz.sizeOf223,
 v222 := Tryz.zeroValue223,
 t228 := underlying229,
 a228 := Tryz.isAgg229,
 z228 := Tryz.sizeOf229,
 v228 := Tryz.zeroValue229,
 t229 := underlying230,
 a229 := Tryz.isAgg230,
 z229 := Tryz.sizeOf230,
 v229 := Tryz.zeroValue230 }
section
variable {w : World} {g c n B : Nat} {os : Array Obj} {l ts : List Int}
theorem vx (d : Array Int) : w.grownBy (Go.Sort.grow (Go.Sort.putRow (Value.int .i64) (Go.Sort.ahead w n) g 0 d) os) (some g) := by
 refine ⟨rfl, rfl, rfl, by simp, fun k hk hne => ?_⟩;rw [Go.Sort.heap_grow_old _ _ (by simpa using hk)];have : g ≠ k := fun e => hne (by rw [e])
 simp [Go.Sort.putRow, Go.Sort.mapBlock, Go.Sort.ahead, Array.getElem?_modify, this]
theorem aaF (h : aP bY w B (.slice (some ⟨g, 0, none⟩) l.length c) l) (hl : ts.length = l.length) : aP bY (Go.Sort.grow (Go.Sort.putRow (Value.int .i64) (Go.Sort.ahead w n) g 0 ts.toArray) os) B (.slice (some ⟨g, 0, none⟩) l.length c) ts := by
 rcases h.2 with ⟨h0, _⟩ | ⟨g', cap, cur, hv, hB, hg, h1, h2, h3, h4⟩
 ·cases h0
 ·injection hv with hv _ hc;injection hv with hv;injection hv with hv;subst hv hc;have hgl : g < w.heap.size := (Array.getElem?_eq_some_iff.1 hg).1;have e3 : cur.size = c := by rw [h3]; show c * 1 = c; omega
  refine ⟨by simp [cp], .inr ⟨g, c, Go.Sort.putCells (Value.int .i64) 0 ts.toArray cur, by rw [hl], hB, ?_, by omega, h2, by simp [Go.Sort.putCells, h3], ?_⟩⟩
  ·rw [Go.Sort.heap_grow_old _ _ (by simpa using hgl)];simp [Go.Sort.putRow, Go.Sort.mapBlock, Go.Sort.ahead, Array.getElem?_modify, hg, Go.Sort.onCells]
  ·rw [ry, show ts.length * bY.n = ts.length from Nat.mul_one _];apply List.ext_getElem?;intro j;by_cases hj : j < ts.length
   ·rw [List.getElem?_take_of_lt hj, Array.getElem?_toList];simp [Go.Sort.putCells, hj, show j < cur.size by omega]
   ·rw [List.getElem?_take_eq_none (by omega), List.getElem?_eq_none (by simp; omega)]
end
theorem uh {w : World} {B : Nat} {v : Value} {l : List Int} (h : aP bY w B v l) (hB : B <= w.heap.size) (hl : l.length < 4611686018427387904) :
  Calls prog 63 #[v] w fun e w' => e = .returned (.tuple #[]) /\ aP bY w' B v (l.mergeSort fun x y => decide (x <= y)) /\ Below B w w' := by
 rcases h.2 with ⟨hv, h0⟩ | ⟨g, cap, cur, hv, hg0, hg, h1, h2, h3, h4⟩
 ·have hl0 : l = [] := List.eq_nil_of_length_eq_zero h0;subst hl0 hv;exact (Any.slices_Sort_int_none agC none 0 w).mono fun e w' ⟨h1, h2⟩ => ⟨h1, by subst h2; rw [List.mergeSort_nil]; exact h, by subst h2; exact ak⟩
 ·subst hv;have hH : Go.Sort.Holds (Value.int .i64) w g 0 l.toArray := fun j hj => by
   have hj' : j < l.length := by simpa using hj
   refine ⟨?_, by simp [World.frozen?, hg]⟩;rw [ry, show l.length * bY.n = l.length from Nat.mul_one _] at h4;have e1 : (cur.toList.take l.length)[j]? = (l.map fun x => Value.int .i64 x)[j]? := by rw [h4]
   rw [List.getElem?_take_of_lt hj'] at e1;simp only [World.cell?, hg, Nat.zero_add];simp only [Option.isSome_none, Bool.false_eq_true, if_false];rw [<- Array.getElem?_toList, e1];simp [hj']
  refine (Any.slices_Sort_int agC g 0 cap l w hH (Array.getElem?_eq_some_iff.1 hg).1 hl).mono ?_;rintro e w' ⟨k1, n, os, rfl⟩;exact ⟨k1, aaF h (by rw [List.length_mergeSort]), (Below.refl B w).grown (vx _) hB fun k hk => by injection hk with hk; subst hk; exact hg0⟩
section
variable {w : World} {t lp mp K : Nat} {FL : Nat -> Prop} {m : Nat -> Option Nat} {r : Int} {s : ShS}
theorem gI {n : Nat} (h : n < 64) : (Lit.int .i64 (n : Int)).wf = true := by
 have h1 : (-9223372036854775808 : Int) <= (n : Int) := by omega
 have h2 : (n : Int) <= 9223372036854775807 := by omega
 have e1 : IntKind.i64.min = -9223372036854775808 := by decide
 have e2 : IntKind.i64.max = 9223372036854775807 := by decide
 show (decide (IntKind.i64.min <= (n : Int)) && decide ((n : Int) <= IntKind.i64.max)) = true
 rw [e1, e2, ao h1, ao h2]
 rfl
theorem oL (h : PRu w t lp mp FL (kyL s.dty s.o) s.o.length m s.ln s.N s.T s.room r) (hok : cf s) : Calls prog 17 #[.pointer (some ⟨t, 0, none⟩)] w fun e w' => ∃ v, e = .returned v /\ aP bY w' w.heap.size v s.dw /\ Below w.heap.size w w' := by
 have HH := ae h;have HSD : Hid ((ka s.dty s.o).mergeSort (fun x y => decide (x <= y)) = s.dw) := ae (o9 hok);have HPN : Hid (∀ n : Nat, ql (n : Int) (kyL s.dty s.o) = s.dty n) := ae (aeC hok);have H64 : Hid (s.o.length <= 64) := ae (by have := hok.len; have := hok.r64; omega);have HLT : Hid (∀ n ∈ s.o, n < 64) := ae fun n hn => by have := hok.lt n hn; have := hok.t64; omega
 clear h hok;go_enter func17, ntmps17;go_upto_region 2 with fail;refine aI 1 ?_;refine aw rfl (aA call18 rfl (evc akE evn)) ?_;refine (oW HH).mono ?_;rintro e w1 ⟨v1, rfl, m1, b1⟩;rw [r4] at m1;obtain ⟨A1, c1, rfl, m1r, _, _⟩ := m1.open_ (n := s.o.length) (List.length_map _);have HM1 := ae m1;have HB1 := ae b1;have HH1 := ae (HH.out.below b1);clear m1 b1 m1r;refine aO ?_;refine aku (dH bY rfl akE) ?_;refine aH 1 ?_;go_wp2_with fail
 go_loopw [3, 5, 9] (fun z u c wr => ∃ i : Nat, c = .int .i64 i /\ i <= s.o.length /\ aP bY wr w1.heap.size z (ka s.dty (s.o.take i)) /\ Below w1.heap.size w1 wr) (fun _ _ c _ => s.o.length - (intOf c).toNat)
 case atStart => exact ⟨0, by go_num, Nat.zero_le _, aP.nil _ _, ak⟩
 case round =>
  obtain ⟨i, rfl, hi, hm, hb⟩ := hrel;have HM := ae hm;have HW := ae hb;have HHr := ae (HH1.out.below hb);have HRr := ae (HM1.out.below hb);clear hm hb;by_cases hlt : i < s.o.length
  ·have HI := ae hlt;have HT : Hid (decide ((i : Int) < (s.o.length : Int)) = true) := ae (ao (by omega));have HA : Hid (IntKind.i64.wrap ((i : Int) + 1) = ((i + 1 : Nat) : Int)) := ae (by have := H64.out; rw [eV ⟨by omega, by omega⟩]; omega);have hrd := HRr.out.rd;obtain ⟨b, off, hAe, _, hc⟩ := hrd.int hlt;subst hAe;rw [getD_map (fun n : Nat => (n : Int)) s.o 0 0 hlt] at hc;obtain ⟨n, hn⟩ : ∃ n, s.o.getD i 0 = n := ⟨_, rfl⟩;have hmem : n ∈ s.o := by rw [<- hn]; exact cz hlt
   rw [hn] at hc;have HC := ae hc;have HNI := ae hn;have HWF := ae (gI (HLT.out n hmem));clear hi hlt hrd hc hn hmem;go_upto_region 3 with fail;refine af ?_;refine aku (aZ true rfl akE akE HT) ?_;refine ah ?_;go_upto_region 4 with fail;refine af ?_;refine aku (cu (E := bY) rfl akE akE HI) ?_;refine aku (aC rfl akE (bS (by rw [show i * bY.n = i from Nat.mul_one i]; exact HC.out))) ?_;refine aH 1 ?_;cases hd : s.dty n
   ·have HD := ae hd;have HST : Hid (ka s.dty (s.o.take (i + 1)) = ka s.dty (s.o.take i)) := ae (by rw [rz (b := false) HI.out (by rw [HNI.out]; exact hd)]; simp);clear hd;go_upto_region 5 with fail;refine aI 2 ?_;refine aku (ax rfl akE jP) ?_;refine aku (aC rfl akE (nA (PRu.c3 HHr))) ?_;refine runs 1 ?_;refine aw rfl (aA call62 rfl (evc akE (evc akE evn))) ?_;refine (oh wr HHr.out.li HWF).mono ?_;rintro e w5 ⟨rfl, rfl⟩;rw [HPN.out, HD.out];refine aO ?_;refine ah ?_;go_upto_region 7 with fail;refine af ?_;refine aku (bJ rfl akE evk HA) ?_;refine aH 1 ?_;go_wp2_with fail;go_roundw
    case rel => exact ⟨i + 1, by go_num, HI, by rw [HST.out]; exact HM, HW⟩
    case measure => have := HI.out; simp [intOf]; omega
   have HD := ae hd;have HST : Hid (ka s.dty (s.o.take (i + 1)) = ka s.dty (s.o.take i) ++ [(n : Int)]) := ae (by rw [rz (b := true) HI.out (by rw [HNI.out]; exact hd), HNI.out]; rfl);clear hd;go_upto_region 5 with fail;refine aI 2 ?_;refine aku (ax rfl akE jP) ?_;refine aku (aC rfl akE (nA (PRu.c3 HHr))) ?_;refine runs 1 ?_;refine aw rfl (aA call62 rfl (evc akE (evc akE evn))) ?_;refine (oh wr HHr.out.li HWF).mono ?_;rintro e w5 ⟨rfl, rfl⟩;rw [HPN.out, HD.out];refine aO ?_;refine ah ?_;have HBS : Hid (w1.heap.size <= wr.heap.size) := ae HW.out.size;have hsz : (wr.alloc (.cells #[.int .i64 (n : Int)] 3)).heap.size = wr.heap.size + 1 := al;obtain ⟨v2, w2, hrun, hm2, hg2⟩ := gB bY (wr.alloc (.cells #[.int .i64 (n : Int)] 3)) 48 w1.heap.size (wr.heap.size + 1) 1 1 u3 (ka s.dty (s.o.take i)) [(n : Int)] (some ⟨wr.heap.size, 0, none⟩) (aP.below HM (ak.alloc aj _)) (fg (E := bY) (l := [(n : Int)]) wr #[.int .i64 (n : Int)] 3 rfl) (by have := HBS.out; omega) (by have := pQ s.dty (s.o.take i); rw [List.length_take] at this; have := H64.out; simp; omega);have HRUN := ae hrun;have HM2 : Hid (aP bY w2 w1.heap.size v2 (ka s.dty (s.o.take (i + 1)))) := ae (by rw [HST.out]; exact hm2);have HW2 : Hid (Below w1.heap.size w1 w2) := ae ((HW.out.trans (ak.alloc HBS _)).grown hg2 (by have := HBS.out; omega) (fun j' hj' => HM.out.gH j' hj'));clear hsz hrun hm2 hg2;go_upto_region 6 with fail;refine aI 2 ?_;refine aku (du (E := bY) (a := (n : Int)) rfl akE rfl (by decide)) ?_;refine aku (fN (E := bY) rfl akE akE HRUN) ?_;refine aH 1 ?_;go_upto_region 7 with fail;refine af ?_;refine aku (bJ rfl akE evk HA) ?_;refine aH 1 ?_;go_wp2_with fail;go_roundw
   case rel => exact ⟨i + 1, by go_num, HI, HM2, HW2⟩
   case measure => have := HI.out; simp [intOf]; omega
  have hin : i = s.o.length := by omega
  have HT : Hid (decide ((i : Int) < (s.o.length : Int)) = false) := ae (am (by omega));have HIN := ae hin;have HMF : Hid (aP bY wr w1.heap.size u3 (ka s.dty s.o)) := ae (by have := HM.out; rw [hin, List.take_length] at this; exact this);have HL4 : Hid ((ka s.dty s.o).length < 4611686018427387904) := ae (by have := pQ s.dty s.o; have := H64.out; omega);clear hlt hi hin;go_upto_region 3 with fail;refine af ?_;refine aku (aZ false rfl akE akE HT) ?_;refine ah ?_;go_upto_region 8 with fail;refine aI 1 ?_;refine aw rfl (aA call63 rfl (evc akE evn)) ?_;refine (uh HMF HW.out.size HL4).mono ?_;rintro e w2 ⟨rfl, m2, b2⟩;rw [HSD.out] at m2;have HM2 := ae (m2.base HB1.out.size);have HB2 := ae ((HB1.out.trans ((HW.out.trans b2).mono HB1.out.size)));clear m2 b2;refine aO ?_;refine ah ?_;go_upto_region 9 with fail;refine co 2 ?_;go_wp2_with fail;go_ret;exact ⟨_, rfl, HM2, HB2⟩
def fsP (s : ShS) (l : List Int) : Nat := l.foldl (fun a j => nD a (s.bX j.toNat).f) 0
theorem aa9 (s : ShS) (k : Nat) : abP s k = fsP s (pP s.dty k) := by
 induction k with
 |zero => rfl
 |succ k ih =>
  rw [abP, pP, ih];cases h : s.dty k
  ·simp
  ·simp [fsP, List.foldl_append]
theorem abf {s : ShS} {l : List Int} {i : Nat} (h : i < l.length) : fsP s (l.take (i + 1)) = nD (fsP s (l.take i)) (s.bX (l.getD i 0).toNat).f := by
 unfold fsP;rw [List.take_add_one, List.getElem?_eq_getElem h, List.foldl_append, List.getD, List.getElem?_eq_getElem h]
 rfl
theorem acg (h : PRu w t lp mp FL (kyL s.dty s.o) s.o.length m s.ln s.N s.T s.room r) (hok : cf s) : Calls prog 23 #[.pointer (some ⟨t, 0, none⟩)] w fun e w' => e = .returned (.int .u64 (s.first : Int)) /\ Below w.heap.size w w' := by
 have HH := ae h;have HOK := ae hok;have HFR : Hid (s.first = fsP s s.dw) := ae (aa9 s s.T);have H64 : Hid (s.T <= 64) := ae hok.t64;clear h hok;go_enter func23, ntmps23;go_upto_region 2 with fail;refine aI 1 ?_;refine aw rfl (aA call17 rfl (evc akE evn)) ?_;refine (oL HH HOK).mono ?_;rintro e w1 ⟨v, rfl, m1, b1⟩;obtain ⟨A1, c1, rfl, _, _⟩ := m1.form;have HL : Hid (s.dw.length <= 64) := ae (aq (vm _ _) H64);have HM1 := ae m1;have HB1 := ae b1;have HH1 := ae (HH.out.below b1);clear m1 b1;refine aO ?_;refine aku (dH bY rfl akE) ?_;refine aH 1 ?_;obtain ⟨D, hD⟩ : ∃ D, s.dw = D := ⟨_, rfl⟩;have HMEM : Hid (∀ i, i < D.length -> ∃ j : Nat, D.getD i 0 = (j : Int) /\ j < s.T /\ s.dty j = true) := ae (fun i hi => by
  have hm : D.getD i 0 ∈ s.dw := by rw [hD, List.getD, List.getElem?_eq_getElem hi]; exact List.getElem_mem hi
  exact i4.1 hm)
 rw [hD] at HFR HL HM1 ⊢;clear hD;go_wp2_with fail
 go_loopw [3, 5, 6, 10] (fun z u v c wr => ∃ i : Nat, c = .int .i64 i /\ i <= D.length /\ z = .int .u64 (fsP s (D.take i) : Nat) /\ Below w1.heap.size w1 wr) (fun _ _ _ c _ => D.length - (intOf c).toNat)
 case atStart => exact ⟨0, by go_num, Nat.zero_le _, rfl, ak⟩
 case round =>
  obtain ⟨i, rfl, hi, rfl, hb⟩ := hrel;have HHr := ae (HH1.out.below hb);have HMr := ae (aP.below HM1 hb);have HWr := ae hb;clear hb;by_cases hlt : i < D.length
  ·have HI := ae hlt;have HT : Hid (decide ((i : Int) < (D.length : Int)) = true) := ae (ao (by omega));have HA : Hid (IntKind.i64.wrap ((i : Int) + 1) = ((i + 1 : Nat) : Int)) := ae (by have := HL.out; rw [eV ⟨by omega, by omega⟩]; omega);obtain ⟨j, hj, hjT, hjd⟩ := HMEM.out i hlt;obtain ⟨b, off, hA, _, hc⟩ := HMr.out.rd.int (k := i) hlt;rw [hj] at hc;subst hA;have HC := ae hc;obtain ⟨y, hy⟩ := Option.isSome_iff_exists.1 (eW hjd);have hl := HHr.out.ln j;rw [hy] at hl;obtain ⟨a, ha, hln, hlo⟩ := hl.some_;have hlk := HHr.out.map.jT (k := (j : Int)) (gI (by have := H64.out; omega));rw [show mLn m (j : Int) = some a from by unfold mLn; rw [if_pos (by omega), Int.toNat_natCast, ha]] at hlk;have HK := ae hlk;have HLN := ae hln;have HSN : Hid (fsP s (D.take (i + 1)) = nD (fsP s (D.take i)) y.f) := ae (by rw [abf hlt, hj, Int.toNat_natCast, dW hy]);have HFB : Hid (y.f < 18446744073709551616) := ae hlo.fb;obtain ⟨f0, hf0⟩ : ∃ f0, fsP s (D.take i) = f0 := ⟨_, rfl⟩;rw [hf0] at HSN ⊢;clear hi hlt hj hjT hjd hc hy hl ha hln hlo hlk hf0;go_upto_region 3 with fail;refine af ?_;refine aku (aZ true rfl akE akE HT) ?_;refine ah ?_;go_upto_region 4 with fail;refine af ?_;refine aku (cu (E := bY) rfl akE akE HI) ?_;refine aku (aC rfl akE (bS (by rw [show i * bY.n = i from Nat.mul_one i]; exact HC.out))) ?_;refine aH 1 ?_;go_upto_region 5 with fail;refine aI 2 ?_;refine aku (ax rfl akE fV) ?_;refine aku (aC rfl akE (jW (PRu.c4 HHr))) ?_;refine runs 1 ?_;refine aku (cX rfl akE akE HK) ?_;refine aw rfl (aA call70 rfl (evc akE evn)) ?_;refine (acQ wr HLN).mono ?_;rintro e w5 ⟨rfl, rfl⟩;refine aO ?_;refine aH 1 ?_;go_upto_region 6 with fail;refine aI 1 ?_;by_cases hz : f0 = 0
   ·have HZ : Hid (((f0 : Int) == 0) = true) := ae (by rw [hz]; rfl);have HM : Hid (fsP s (D.take (i + 1)) = y.f) := ae (by rw [HSN.out]; exact if_pos (.inl hz));clear hz;refine aku (aF true rfl akE evk HZ) ?_;refine bj 3 rfl (aM rfl akE) (by kernel_rfl) ?_;simp only [bQ, ac, aa];refine aH 1 ?_;go_upto_region 7 with fail;refine co 2 ?_;go_upto_region 8 with fail;refine af ?_;refine aku (bJ rfl akE evk HA) ?_;refine aH 1 ?_;go_wp2_with fail;go_roundw
    case rel => exact ⟨i + 1, by go_num, HI, (by rw [HM.out]; rfl), HWr⟩
    case measure => have := HI.out; simp [intOf]; omega
   have HZ : Hid (((f0 : Int) == 0) = false) := ae (au (by omega));refine aku (aF false rfl akE evk HZ) ?_;refine runs 3 ?_;by_cases hq : y.f < f0
   ·have HQ : Hid (decide ((y.f : Int) < (f0 : Int)) = true) := ae (ao (by omega));have HM : Hid (fsP s (D.take (i + 1)) = y.f) := ae (by rw [HSN.out]; exact if_pos (.inr hq));clear hz hq;refine akB (aZ true rfl akE akE HQ) ?_;refine aH 1 ?_;go_upto_region 7 with fail;refine co 2 ?_;go_upto_region 8 with fail;refine af ?_;refine aku (bJ rfl akE evk HA) ?_;refine aH 1 ?_;go_wp2_with fail;go_roundw
    case rel => exact ⟨i + 1, by go_num, HI, (by rw [HM.out]; rfl), HWr⟩
    case measure => have := HI.out; simp [intOf]; omega
   have HQ : Hid (decide ((y.f : Int) < (f0 : Int)) = false) := ae (am (by omega));have HM : Hid (fsP s (D.take (i + 1)) = f0) := ae (by rw [HSN.out]; exact if_neg (by omega));clear hz hq;refine akB (aZ false rfl akE akE HQ) ?_;refine aH 1 ?_;go_upto_region 8 with fail;refine af ?_;refine aku (bJ rfl akE evk HA) ?_;refine aH 1 ?_;go_wp2_with fail;go_roundw
   case rel => exact ⟨i + 1, by go_num, HI, (by rw [HM.out]), HWr⟩
   case measure => have := HI.out; simp [intOf]; omega
  have hin : i = D.length := by omega
  have HT : Hid (decide ((i : Int) < (D.length : Int)) = false) := ae (am (by omega));have HIN := ae hin;clear hlt hi hin;go_upto_region 3 with fail;refine af ?_;refine aku (aZ false rfl akE akE HT) ?_;refine ah ?_;go_wp2_with fail;go_ret;exact ⟨by rw [HFR.out, HIN.out, List.take_length]; rfl, HB1.out.trans (HWr.out.mono HB1.out.size)⟩
end
end Go.Proofs.YtdmhelalbemlcaaGreatDoor
