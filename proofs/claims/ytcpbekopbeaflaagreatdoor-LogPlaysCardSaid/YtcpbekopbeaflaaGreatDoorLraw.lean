import Derived.Test.YtcpbekopbeaflaaGreatDoorLrav
namespace Go.Proofs.YtcpbekopbeaflaaGreatDoor
set_option maxHeartbeats 8000000
open Go.Proofs.Tryz
open Go.RowKit
set_option linter.unusedVariables false
set_option linter.unusedSimpArgs false
set_option maxRecDepth 100000
def rdM (M : aK) (x : LgS) (y : Nte) (k : Nat) : List Blk := (List.range (bF y)).map fun i => if i < k then df M x.d (cx x.size (y.pos + i)) else aE
theorem ae4 (M : aK) (x : LgS) (y : Nte) (k : Nat) : (rdM M x y k).length = bF y := by simp [rdM]
theorem ajM (M : aK) (x : LgS) (y : Nte) : rdM M x y 0 = List.replicate (bF y) aE := by
 apply List.ext_getElem
 ·simp [rdM]
 ·intro j h1 h2;simp [rdM]
theorem aeG {M : aK} {x : LgS} {y : Nte} {k : Nat} (hk : k < bF y) : (rdM M x y k).set k (df M x.d (cx x.size (y.pos + k))) = rdM M x y (k + 1) := by
 apply List.ext_getElem
 ·simp [rdM]
 ·intro j h1 h2;rw [List.getElem_set];simp only [rdM, List.getElem_map, List.getElem_range];by_cases e : k = j
  ·subst e; rw [if_pos rfl, if_pos (by omega)]
  ·rw [if_neg e];by_cases e2 : j < k
   ·rw [if_pos e2, if_pos (by omega)]
   ·rw [if_neg e2, if_neg (by omega)]
theorem aej (M : aK) (x : LgS) (y : Nte) : rdM M x y (bF y) = kT M x y := by
 unfold rdM kT;exact List.map_congr_left fun j hj => if_pos (List.mem_range.1 hj)
theorem adt {M : aK} {x : LgS} {N a b : Nat} (hk : cg M x N) : cM M x.d (cx x.size a) = cM M x.d (cx x.size b) := by
 have hl := hk.len;have hs := hk.siz;have h1 := Nat.mod_lt a (show 0 < x.size by omega);have h2 := Nat.mod_lt b (show 0 < x.size by omega);exact o0 ⟨by unfold cx; omega, by unfold cx; omega⟩ ⟨by unfold cx; omega, by unfold cx; omega⟩
theorem aaT {ρ : Operand -> Value} {o : Oper} {x y : Operand} {w : World} {g j n c : Nat} (ho : o.op = .indexAddr 120 x y) (hx : ρ x = .slice (some ⟨g, 0, none⟩) n c) (hy : ρ y = .int .i64 (j : Int)) (hj : j < n) : (execOp ρ o).run prog w = .ok (.value (.pointer (some ⟨g, j * 64, none⟩))) w := by
 have := d6 (w := w) ho hx hy hj;rwa [Nat.zero_add] at this
def ajE (w : World) (E : Int) (L : List Blk) (n : Nat) (e : Ending) (w' : World) : Prop :=
 Below w.heap.size w w' /\ ((E = 0 /\ ∃ g, e = .returned (.tuple #[.slice (some ⟨g, 0, none⟩) n n, .int .i64 0]) /\ dp w' g L /\ w.heap.size <= g) \/ (E ≠ 0 /\ e = .returned (.tuple #[.slice none 0 0, .int .i64 E])))
theorem ahA {w0 w : World} {H K : Nat -> Prop} {p q N : Nat} {v : Value} {M : aK} {x : LgS} (y : Nte) (h : PJ w0 H K w p q v M x) (hk : cg M x N) (hy : 1 <= y.cells /\ y.cells <= 32) (hp : y.pos + bF y <= 4611686018427387904) : Calls prog 93 #[.pointer (some ⟨p, 0, none⟩), nte y] w (ajE w (cM M x.d (cx x.size y.pos)) (kT M x y) (bF y)) := by
 have htk : 2 <= bF y /\ bF y <= 34 := by unfold bF hd; omega
 have hsz := hk.siz;obtain ⟨t, ht⟩ : ∃ t, bF y = t := ⟨_, rfl⟩;obtain ⟨E, hE⟩ : ∃ E, cM M x.d (cx x.size y.pos) = E := ⟨_, rfl⟩;have HSAME : Hid (∀ j, cM M x.d (cx x.size (y.pos + j)) = E) := af fun j => (adt hk).trans hE
 have HALL := af (aej M x y);have HR0 := af (ajM M x y);have HRS : Hid (∀ k, k < t -> (rdM M x y k).set k (df M x.d (cx x.size (y.pos + k))) = rdM M x y (k + 1)) := af fun k hk => aeG (by rw [ht]; exact hk)
 have HRL : Hid (∀ k, (rdM M x y k).length = t) := af fun k => (ae4 M x y k).trans ht
 obtain ⟨k1, k2, k3⟩ := dY w y;have HSEC := af (rV (w.alloc (.cells (bj y).toArray 107)) y (h.below k2).log hy hsz hp);have HY := af k1;have HBW := af k2;have HLE := af k3;have HJ := af (h.below k2);rw [ht] at HSEC htk HALL HR0 ⊢;rw [hE];have HTK := af htk;clear h hk hy hp hsz htk ht hE k1 k2 k3;go_enter func93, ntmps93;go_upto_region 1 with (first | (refine au rfl (dv rfl rfl) ?_) | fail);generalize w.alloc (.cells (bj y).toArray 107) = w1 at *;refine aY 1 ?_;refine ak1 (bI (c := y) rfl alb HY.out.range) ?_;refine aD rfl (aC call142 rfl (evc alb (evc alb evn))) ?_;refine HSEC.out.mono ?_;rintro e w2 ⟨r, rfl, hm, hb⟩;refine bp ?_;refine runs 3 ?_;refine aQ 2 ?_;obtain ⟨g, c1, rfl, hbg, hg, hc1, hc2⟩ := hm.pu (by rw [mv]; have := HTK.out.1; omega);rw [mv] at hm hc1 ⊢;have HM := af hm;have HJ2 := af (HJ.out.below hb);have HB2 := af (HBW.out.trans (hb.mono (by have := HLE.out; omega)));clear hm hb hbg hg hc1 hc2 HSEC HY HBW HJ;go_upto_region 4 with fail;refine aY 1 ?_;refine ak1 (cI underlying36 rfl alb) ?_;refine ak1 (nI rfl alb alb (by have := HTK.out.2; omega)) ?_;refine aQ 1 ?_;have HH := af (oh w2 t);have HAL := af ((Below.refl w2.heap.size w2).alloc aj (.cells (madeCells (cel aE).toArray (t * 64)) 64));rw [<- HR0.out] at HH;have HGB : Hid (w.heap.size <= w2.heap.size) := af HB2.out.size;have HJ2B : Hid (∀ w', Below w2.heap.size w2 w' -> PJ w0 H K w' p q v M x) := af fun w' hb => HJ2.out.below hb
 have HM2B : Hid (∀ w', Below w2.heap.size w2 w' -> aO dw w' w1.heap.size (.slice (some ⟨g, 0, none⟩) t c1) (sh x.size y.pos t)) := af fun w' hb => HM.out.below hb
 generalize w2.alloc (.cells (madeCells (cel aE).toArray (t * 64)) 64) = w3 at *;clear HM HJ2;generalize w2.heap.size = gb at *;go_wp2_with fail
 go_loopw [25] (fun i wr => ∃ k : Nat, k <= t /\ i = .int .i64 k /\ dp wr gb (rdM M x y k) /\ Below gb w2 wr /\ (0 < k -> E = 0)) (fun i _ => t - (intOf i).toNat)
 case atStart => exact ⟨0, Nat.zero_le _, rfl, HH, HAL, fun e => absurd e (Nat.lt_irrefl _)⟩
 case round =>
  clear HH HAL;obtain ⟨k, hk, rfl, hh, hb, hE0⟩ := hrel;have ht34 := HTK.out.2;by_cases hlt : k < t
  ·obtain ⟨hc, _⟩ := (HM2B.out wr hb).adu hlt;rw [yY hlt] at hc;have HIX := af hc;have HH := af hh;have HB := af hb;obtain ⟨c, hcc⟩ : ∃ c, df M x.d (cx x.size (y.pos + k)) = c := ⟨_, rfl⟩;have HCC := af hcc;have HRK := af (HRS.out k hlt);have HRLK := af (HRL.out k);have HSK := af (HSAME.out k);rw [hcc] at HRK;clear hc hh hb hcc hE0;go_upto_region 7 with fail;refine aY 1 ?_;refine ak1 (k6 rfl alb alb hlt) ?_;refine ak1 (aA rfl alb (bm HIX)) ?_;refine aQ 2 ?_;have hS : PLg wr.drew p q v x := (HJ2B.out wr.drew (bd HB)).log;go_upto_region 8 with fail;refine bk (fun w' => PLg w' p q v x) 17 (by kernel_rfl) ?_;change cu _ _ _ _ _ _ 18 _ _ wr.drew;refine ak5 0 rfl (fun _ hw => aB rfl alb) hS ?_;refine ak5 1 rfl (fun _ hw => aB rfl alb) hS ?_;refine ak5 2 rfl (fun _ hw => aB rfl alb) hS ?_;refine ak5 3 rfl (fun _ hw => aM rfl alb) hS ?_;refine ak5 4 rfl (fun _ hw => av rfl alb mp) hS ?_;refine ak5 5 rfl (fun _ hw => aA rfl alb (sJ (PLg.c0 hw))) hS ?_;refine ak5 6 rfl (fun _ hw => aB rfl alb) hS ?_;refine ak5 7 rfl (fun _ hw => aM rfl alb) hS ?_;refine ak5 8 rfl (fun _ hw => av rfl alb m3) hS ?_;refine ak5 9 rfl (fun _ hw => aA rfl alb (bm (PLg.c1 hw))) hS ?_;refine ak5 10 rfl (fun _ hw => aB rfl alb) hS ?_;refine bT 11 rfl (by kernel_rfl) rfl (aC call104 rfl (evc alb (evc alb (evc alb evn)))) ?_;refine (PJ.read (x.d : Int) (cx x.size (y.pos + k)) (HJ2B.out wr.drew (bd HB))).mono ?_;rintro e w5 ⟨rfl, hb5⟩;rw [HCC.out, HSK.out];have HB5 := af ((bd HB).trans (hb5.mono (Nat.le_of_lt HH.out.lt)));have HH5 := af (dp.below (w := wr.drew) HH hb5);clear hb5;have hS5 : PLg w5 p q v x := (HJ2B.out w5 HB5).log;refine ⟨_, rfl, fun _ => hS5, ?_⟩;simp only [aa];refine ak5 12 rfl (fun _ hw => aB rfl alb) hS5 ?_;refine ak5 13 rfl (fun _ hw => bx rfl alb rfl) hS5 ?_;refine ak5 14 rfl (fun _ hw => bx rfl alb rfl) hS5 ?_;refine ak5 15 rfl (fun _ hw => aaT rfl alb alb hlt) hS5 ?_;refine fd 16 rfl (by kernel_rfl) rfl (aX (c := c) rfl (ev rfl) (ev rfl) (HH5.out.there (by rw [HRLK.out]; exact hlt))) (fun _ => (HJ2B.out _ (below_setCells (B := gb) (o := k * 64) HB5.out aj (cel c))).log) ?_;simp only [Act.put];have HH6 := af (HH5.out.store (by rw [HRLK.out]; exact hlt) c);rw [HRK.out] at HH6;have HB6 := af (below_setCells (B := gb) (o := k * 64) HB5 aj (cel c));have hS6 : PLg (w5.setCells gb (k * 64) (cel c)) p q v x := (HJ2B.out _ HB6).log;refine bh 17 rfl (by kernel_rfl) rfl (bu rfl alb) (fun e => absurd rfl e) ?_;simp only [aa];refine bK (by kernel_rfl) ?_ _;clear hS hS5 hS6;generalize w5.setCells gb (k * 64) (cel c) = w6 at *;by_cases h0 : E = 0
   ·have hne : (E != 0) = false := by simp [h0]
    go_wp2_with fail;go_roundw
    case rel => exact ⟨k + 1, by omega, by go_num, HH6, HB6, fun _ => h0⟩
    case measure => simp [intOf]; omega
   ·have hne : (E != 0) = true := by simpa using h0
    go_wp2_with fail;go_ret2;exact ⟨HB2.out.trans (HB6.out.mono HGB), .inr ⟨h0, rfl⟩⟩
  ·have hkt : k = t := by omega
   rw [hkt, HALL.out] at hh;have HH := af hh;have HB := af hb;have HE0 : Hid (E = 0) := af (hE0 (by have := HTK.out.1; omega));clear hh hb hkt hE0;go_wp2_with fail;go_ret2;exact ⟨HB2.out.trans (HB.out.mono HGB), .inl ⟨HE0, gb, rfl, HH, HGB⟩⟩
theorem acu {M : aK} {x : LgS} {s : Nat} (h : ¬ (x.fst <= s /\ s < x.next)) : iA M x s = 7 /\ nr M x s = [] := by
 have e : ¬ ac7 x s = true := fun e => h (of_decide_eq_true e)
 have e1 : iA M x s = 7 := if_neg e;exact ⟨e1, by unfold nr; rw [e1]; rfl⟩
theorem acv {M : aK} {x : LgS} {g : Nat} {y : Nte} (hg : g < x.nts.length) (hy : x.nts.getD g bc = y) :
  iA M x (x.fst + g) = (if cM M x.d (cx x.size y.pos) = 0 then zG (kT M x y) y else cM M x.d (cx x.size y.pos)) /\ nr M x (x.fst + g) = (if iA M x (x.fst + g) = 0 then rgC (kT M x y) y.cells else []) := by
 have hl : ac7 x (x.fst + g) = true := ao ⟨by omega, by unfold LgS.next; omega⟩;have hn : x.note (x.fst + g) = y := by unfold LgS.note; rw [Nat.add_sub_cancel_left]; exact hy
 refine ⟨?_, ?_⟩
 ·unfold iA;rw [if_pos hl, hn]
 ·unfold nr;rw [hn]
theorem qz.err {M : aK} {x : LgS} {s : Nat} {w w' : World} {e : Ending} {E : Int} (hE : iA M x s = E) (h0 : E ≠ 0) (hb : Below w.heap.size w w') (he : e = .returned (.tuple #[.slice none 0 0, .int .i64 E])) : qz M x s w e w' := by
 refine ⟨.slice none 0 0, by rw [hE]; exact he, ?_, hb⟩;unfold nr;rw [hE, if_neg h0];exact aO.nil _ _
def aar (w : World) (b off g : Nat) (y : Nte) : Prop := b < w.heap.size /\ w.rangeAt b (off + g * bi.n) (bj y)
theorem aar.below {w w' : World} {b off g : Nat} {y : Nte} (h : aar w b off g y) (hb : Below w.heap.size w w') : aar w' b off g y := ⟨aq h.1 hb.size, cY h.2 h.1 hb⟩
theorem abZ {w0 w : World} {H K : Nat -> Prop} {p q N : Nat} {v : Value} {M : aK} {x : LgS} (s : Nat) (h : PJ w0 H K w p q v M x) (hk : cg M x N) (hs : s < 18446744073709551616) (hno : ¬ (x.fst <= s /\ s < x.next)) : Calls prog 40 #[.pointer (some ⟨p, 0, none⟩), .int .u64 (s : Nat)] w (qz M x s w) := by
 obtain ⟨g1, g2⟩ := acu (M := M) hno;have HE := af g1;have HL := af h.log;have HK := af hk;clear g1 g2;go_enter func40, ntmps40;go_upto_region 1 with fail;refine aY 1 ?_;refine aD rfl (aC call82 rfl (evc alb evn)) ?_;refine (jV _ HL).mono ?_;rintro e w1 ⟨rfl, rfl⟩;refine bp ?_;refine aQ 1 ?_;go_upto_region 3 with fail;refine aY 3 ?_;refine ak1 (av rfl alb gd) ?_;refine ak1 (av rfl alb mI) ?_;refine ak1 (aA rfl alb (b7 (PLg.c5 HL))) ?_;by_cases hlt : (s : Int) < (x.fst : Int)
 ·have H1 := af (ao hlt);clear h hk hs hno hlt;refine ak1 (a8 true rfl alb alb H1) ?_;refine aI 4 rfl (aB rfl alb) (by kernel_rfl) ?_;simp only [aP, ae, aa];refine aQ 1 ?_;go_wp2_with fail;go_ret2;exact qz.err HE (by decide) ak rfl
 ·have H1 := af (am hlt);have H2 : Hid (decide ((x.next : Int) <= (s : Int)) = true) := af (ao (by omega));clear h hk hs hno hlt;refine ak1 (a8 false rfl alb alb H1) ?_;refine runs 3 ?_;refine aD akW (aC call83 rfl (evc alb evn)) ?_;refine (ig w HL HK).mono ?_;rintro e w1 ⟨rfl, hb1⟩;have HB1 := af hb1;clear hb1;refine bp ?_;refine ak8 (cz true rfl alb alb H2) ?_;refine aQ 1 ?_;go_wp2_with fail;go_ret2;exact qz.err HE (by decide) HB1 rfl
theorem vU {ρ : Operand -> Value} {o : Oper} {x y : Operand} {w : World} {b off n c j : Nat} (ho : o.op = .indexAddr 57 x y) (hx : ρ x = .slice (some ⟨b, off, none⟩) n c) (hy : ρ y = .int .u64 (j : Int)) (hj : j < n) : (execOp ρ o).run prog w = .ok (.value (.pointer (some ⟨b, off + j * 4, none⟩))) w := by
 have hs := fP bi w;have hu : prog.underlying 57 = some (.slice 107) := underlying57;have hs' : (sizeOf 107).run prog w = .ok 4 w := hs;exact dH ho hx hy (by simp [Instr.indexAt, asIntOf, run_underlying hu, add_mid, hs', hj])
theorem adi {w0 w : World} {H K : Nat -> Prop} {p q N : Nat} {v : Value} {M : aK} {x : LgS} (s : Nat) (h : PJ w0 H K w p q v M x) (hk : cg M x N) (hs : s < 18446744073709551616) (hle : x.fst <= s /\ s < x.next) : Calls prog 40 #[.pointer (some ⟨p, 0, none⟩), .int .u64 (s : Nat)] w (qz M x s w) := by
 obtain ⟨g, rfl⟩ : ∃ g, s = x.fst + g := ⟨s - x.fst, by omega⟩;have hg : g < x.nts.length := by have := hle.2; unfold LgS.next at this; omega
 obtain ⟨n1, n2, n3, n4⟩ := hk.nts g hg;have hend := hk.vC hg;have huse := hk.use;have hhd := hk.hed;have hlim := hk.lim;have heig := hk.eig;obtain ⟨y, hy⟩ : ∃ y, x.nts.getD g bc = y := ⟨_, rfl⟩;obtain ⟨r1, r2⟩ := acv (M := M) hg hy;obtain ⟨A, c, rfl, h1, h2⟩ := h.log.slice;obtain ⟨bg, off, rfl, hbg, hrg⟩ := h.log.row.rd.2 g hg;rw [show bi.d = bc from rfl, hy] at hrg;rw [hy] at n1 n2 n3 n4 hend;have htk : 2 <= bF y /\ bF y <= 34 := by unfold bF hd; omega
 have hps : y.pos + bF y <= 4611686018427387904 := by unfold LgS.head LgS.used at hhd; unfold LgS.used at hend; omega
 have HRA := af r1;have HRB := af r2;have HJ := af h;have HL := af h.log;have HK := af hk;have HG := af hg;have HRG := af (show aar w bg off g y from ⟨hbg, hrg⟩);have HCL := af (show 1 <= y.cells /\ y.cells <= 32 from ⟨n1, n2⟩);have HPS := af hps;have HTK := af htk;have H1 : Hid (decide (((x.fst + g : Nat) : Int) < (x.fst : Int)) = false) := af (am (by omega));have H2 : Hid (decide ((x.next : Int) <= ((x.fst + g : Nat) : Int)) = false) := af (am (by have := hle.2; omega));have HFL : Hid (x.fst + g < 18446744073709551616) := af hs;clear h hk hs hle hg n1 n2 n3 n4 hend huse hhd hlim heig hy r1 r2 h1 h2 hbg hrg htk hps;go_enter func40, ntmps40;go_upto_region 1 with fail;refine aY 1 ?_;refine aD rfl (aC call82 rfl (evc alb evn)) ?_;refine (jV _ HL).mono ?_;rintro e w1 ⟨rfl, rfl⟩;refine bp ?_;refine aQ 1 ?_;go_upto_region 3 with fail;refine aY 3 ?_;refine ak1 (av rfl alb gd) ?_;refine ak1 (av rfl alb mI) ?_;refine ak1 (aA rfl alb (b7 (PLg.c5 HL))) ?_;refine ak1 (a8 false rfl alb alb H1) ?_;refine runs 3 ?_;refine aD akW (aC call83 rfl (evc alb evn)) ?_;refine (ig w HL HK).mono ?_;rintro e w1 ⟨rfl, hb1⟩;have HB1 := af hb1;clear hb1;refine bp ?_;refine ak8 (cz false rfl alb alb H2) ?_;refine aQ 1 ?_;have HJ1 := af (HJ.out.below HB1);have HRG1 := af (HRG.out.below HB1);have hS : PLg w1.drew p q (.slice (some ⟨bg, off, none⟩) x.nts.length c) x /\ aar w1.drew bg off g y := ⟨HJ1.out.drew.log, HRG1⟩;go_upto_region 5 with fail;refine bk (fun w' => PLg w' p q (.slice (some ⟨bg, off, none⟩) x.nts.length c) x /\ aar w' bg off g y) 14 (by kernel_rfl) ?_;change cu _ _ _ _ _ _ 15 _ _ w1.drew;refine ak5 0 rfl (fun _ hw => aB rfl alb) hS ?_;refine ak5 1 rfl (fun _ hw => aM rfl alb) hS ?_;refine ak5 2 rfl (fun _ hw => av rfl alb kQ) hS ?_;refine ak5 3 rfl (fun _ hw => aA rfl alb (gm (PLg.c7 hw.1))) hS ?_;refine ak5 4 rfl (fun _ hw => aB rfl alb) hS ?_;refine ak5 5 rfl (fun _ hw => aB rfl alb) hS ?_;refine ak5 6 rfl (fun _ hw => aM rfl alb) hS ?_;refine ak5 7 rfl (fun _ hw => av rfl alb gd) hS ?_;refine ak5 8 rfl (fun _ hw => av rfl alb mI) hS ?_;refine ak5 9 rfl (fun _ hw => aA rfl alb (b7 (PLg.c5 hw.1))) hS ?_;refine ak5 10 rfl (fun _ hw => kC rfl alb alb HFL) hS ?_;refine ak5 11 rfl (fun _ hw => vU rfl alb alb HG) hS ?_;refine ak5 12 rfl (fun _ hw => bI (c := y) rfl alb hw.2.2) hS ?_;refine bh 13 rfl (by kernel_rfl) rfl (cv rfl) (fun _ => ⟨(HJ1.out.below ((bd (Below.refl w1.heap.size w1)).alloc aj _)).log, HRG1.out.below ((bd (Below.refl w1.heap.size w1)).alloc aj _)⟩) ?_;simp only [aa];refine fd 14 rfl (by kernel_rfl) rfl (dL (c := y) rfl (ev rfl) (ev rfl)) (fun e => absurd rfl e) ?_;simp only [Act.put];refine bK (by kernel_rfl) ?_ _;have HY := af (bO.new w1.drew y);have HB2 := af ((bd (Below.refl w1.heap.size w1)).alloc aj (.cells (bj y).toArray 107));have HLE : Hid (w1.heap.size < (w1.drew.alloc (.cells (bj y).toArray 107)).heap.size) := af (by rw [World.size_alloc]; exact Nat.lt_succ_self _)
 (try rw [show w1.drew.heap.size = w1.heap.size from rfl])
 rw [show w1.drew.heap.size = w1.heap.size from rfl] at HY;generalize w1.drew.alloc (.cells (bj y).toArray 107) = w2 at *;have HJ2 := af (HJ1.out.below HB2);have HB12 := af (HB1.out.trans (HB2.out.mono HB1.out.size));have HW1 : Hid (w.heap.size <= w1.heap.size) := af HB1.out.size;clear hS HJ1 HRG1 HB2 HB1 HJ HL HRG;generalize w1.heap.size = nb at *;go_upto_region 6 with fail;refine aY 1 ?_;refine ak1 (bI (c := y) rfl alb HY.out.range) ?_;refine aD rfl (aC call93 rfl (evc alb (evc alb evn))) ?_;refine (ahA y HJ2 HK HCL HPS).mono ?_;rintro e w3 ⟨hb3, ⟨hE, gb, rfl, hh, hgb⟩ | ⟨hE, rfl⟩⟩;rotate_left 1
 ·have HE := af (HRA.out.trans (if_neg hE));have HB3 := af (HB12.out.trans (hb3.mono HB12.out.size));generalize cM M x.d (cx x.size y.pos) = E at *;have hne : (E != 0) = true := by simpa using hE
  clear hb3;refine bp ?_;refine runs 3 ?_;refine aQ 2 ?_;go_wp2_with fail;go_ret2;exact qz.err HE hE HB3 rfl
 have HE := af (HRA.out.trans (if_pos hE));have HB3 := af (HB12.out.trans (hb3.mono HB12.out.size));have HJ3 := af (HJ2.out.below hb3);have HY3 := af (HY.out.below HLE hb3);have HZ3 : Hid (nb < w3.heap.size) := af (aq HLE hb3.size);obtain ⟨R, hR⟩ : ∃ R, kT M x y = R := ⟨_, rfl⟩;have hRl : R.length = bF y := by rw [<- hR]; simp [kT]
 rw [hR] at hh HE;have HRB2 : Hid (nr M x (x.fst + g) = if iA M x (x.fst + g) = 0 then rgC R y.cells else []) := af (by rw [<- hR]; exact HRB);have hrd := hh.rd (bF y) (Nat.le_of_eq hRl.symm);rw [List.take_of_length_le (Nat.le_of_eq hRl)] at hrd;obtain ⟨t, ht⟩ : ∃ t, bF y = t := ⟨_, rfl⟩;rw [ht] at hrd HTK ⊢;have HRD := af hrd;clear hE hb3 hh hgb hR hRl hrd ht HRB HRA HJ2 HY HLE HB12;refine bp ?_;refine runs 3 ?_;refine aQ 2 ?_;go_upto_region 7 with fail;refine aY 1 ?_;refine ak1 (bG false rfl alb evk rfl) ?_;refine ah ?_;go_upto_region 9 with fail;refine aZ (B := w3.heap.size) (by kernel_rfl) ?_;refine bC 1 ?_;refine bE rfl (fun _ => aC call89 rfl (evc alb evn)) (bl aj fun w' hw => ((aiX (some ⟨gb, 0, none⟩) t t w3.heap.size R w' (HJ3.out.below hw).tab.m.tab (HRD.out.below hw) (by have := HTK.out.2; omega)).mono fun e w'' hh => ⟨hh.1, by rw [hh.2]; exact ak⟩)) ?_;simp only [aa];refine ak9 (fun _ hw => av rfl alb yy) ?_;refine ak9 (fun _ hw => aA rfl alb (aed (HY3.out.below HZ3 hw).cells.2.2.2)) ?_;by_cases hsum : fT R = y.sum
 ·have HNE : Hid (((fT R : Int) != (y.sum : Int)) = false) := af (by simp [hsum]);have HF := af (show zG R y = rgE R y.cells from if_pos hsum);clear hsum;refine ak9 (fun _ hw => bG false rfl alb alb HNE) ?_;refine wpQuiet_nil ?_;intro w4 hw;have HY4 := af (HY3.out.below HZ3 hw);have HRD4 := af (HRD.out.below hw);have HB4 := af (HB3.out.trans (hw.mono HB3.out.size));have HZ4 : Hid (w3.heap.size <= w4.heap.size) := af hw.size;clear hw HRD HY3;go_upto_region 11 with fail;refine aY 1 ?_;refine ak1 (av rfl alb kE) ?_;refine ak1 (aA rfl alb (bm HY4.out.cells.2.2.1)) ?_;refine aD rfl (aC call94 rfl (evc alb (evc alb evn))) ?_;refine (ajB (some ⟨gb, 0, none⟩) t t w3.heap.size w4.heap.size R y.cells w4 (af rfl) HRD4 HZ4 aj (by have := HTK.out.2; unfold maxLen; omega)).mono ?_;rintro e w5 ⟨v5, rfl, hm5, hb5⟩;refine bp ?_;refine runs 3 ?_;refine aQ 1 ?_;go_wp2_with fail;go_ret2;refine ⟨v5, ?_, ?_, HB4.out.trans (hb5.mono HB4.out.size)⟩
  ·rw [HE.out, HF.out]
   rfl
  ·rw [HRB2.out, HE.out, HF.out];by_cases h0 : (rgE R y.cells : Int) = 0
   ·rw [if_pos h0];exact hm5.base HB4.out.size
   ·rw [if_neg h0];have : rgC R y.cells = [] := iW (by omega);rw [this] at hm5;exact hm5.base HB4.out.size
 ·have HNE : Hid (((fT R : Int) != (y.sum : Int)) = true) := af (by simp; omega);have HF := af (show zG R y = 6 from if_neg hsum);clear hsum;refine ak9 (fun _ hw => bG true rfl alb alb HNE) ?_;refine wpQuiet_nil ?_;intro w4 hw;have HB4 := af (HB3.out.trans (hw.mono HB3.out.size));clear hw;go_wp2_with fail;go_ret2;exact qz.err (HE.out.trans HF) (by decide) HB4 rfl
theorem ajd {w0 w : World} {H K : Nat -> Prop} {p q N : Nat} {v : Value} {M : aK} {x : LgS} (s : Nat) (h : PJ w0 H K w p q v M x) (hk : cg M x N) (hs : s < 18446744073709551616) : Calls prog 40 #[.pointer (some ⟨p, 0, none⟩), .int .u64 (s : Nat)] w (qz M x s w) := by
 by_cases hle : x.fst <= s /\ s < x.next
 ·exact adi s h hk hs hle
 ·exact abZ s h hk hs hle
theorem wF {w : World} {q : Nat} {d : Int} : (Instr.build 97 #[(0, .pointer (some ⟨q, 0, none⟩)), (1, .int .i64 d)]).run prog w = .ok (.agg #[.pointer (some ⟨q, 0, none⟩), .int .i64 d, .int .u64 0, .int .u64 0, .int .i64 0, .int .u64 0, .int .u64 0, .slice none 0 0]) w := by kernel_rfl
theorem uk {ρ : Operand -> Value} {o : Oper} {x1 x2 : Operand} {w : World} {q : Nat} {d : Int} (ho : o.op = .build 97 #[(0, x1), (1, x2)]) (h1 : ρ x1 = .pointer (some ⟨q, 0, none⟩)) (h2 : ρ x2 = .int .i64 d) :
  (execOp ρ o).run prog w = .ok (.value (.agg #[.pointer (some ⟨q, 0, none⟩), .int .i64 d, .int .u64 0, .int .u64 0, .int .i64 0, .int .u64 0, .int .u64 0, .slice none 0 0])) w := by
 unfold execOp;simp only [ho, h1, h2, List.map_toArray, List.map_cons, List.map_nil, Sem.run_bind, wF, Result.andThen_ok, Sem.run_pure]
def LgS.none (d : Nat) : LgS := ⟨d, 0, 0, 0, 0, 0, []⟩
theorem ahE {a b : Blk} (h : bf.nE a b = 0) : bf.may (bf.nX a b) = true := by
 unfold Cod.nX;unfold Cod.nE at h
 split
 ·rename_i hlt
  have : bf.gE b = 0 := by
   by_cases e : bf.gE b = 0
   ·exact e
   ·have := bf.jP e; omega
  exact bf.iX this
 ·rename_i hlt
  have : bf.gE a = 0 := by
   by_cases e : bf.gE a = 0
   ·exact e
   ·have h0 := bf.jP e;rw [if_pos ⟨h0, by omega⟩] at h;omega
  exact bf.iX this
def aao (w0 : World) (H : Nat -> Prop) (q : Nat) (M : aK) (w : World) : Prop := ∃ G, bX.Bn w G q M /\ Only H w0 w /\ Grow w0 H G
theorem PJ.lost {w0 w w' : World} {H K : Nat -> Prop} {p q : Nat} {v : Value} {M : aK} {x : LgS} (h : PJ w0 H K w p q v M x) (ho : Only (cp p v) w w') : aao w0 H q M w' := by
 obtain ⟨G, h1, h2, h3, h4, h5, _⟩ := h;exact ⟨G, bX.only h1 ho fun b hg e => h3 b e hg, h4.trans ho fun b e => h5 b (.inr e), fun b e => h5 b (.inl e)⟩
theorem aao.below {w0 w w' : World} {H : Nat -> Prop} {q : Nat} {M : aK} (h : aao w0 H q M w) (hb : Below w.heap.size w w') : aao w0 H q M w' := by
 obtain ⟨G, h1, h2, h3⟩ := h;exact ⟨G, bX.below h1 hb, h2.dF hb, h3⟩
theorem io.lost {w w1 w' : World} {G H : Nat -> Prop} {p q : Nat} {v0 : Value} {M' : aK} {x' : LgS} {E : Int} {e : Ending} (hb : Below w.heap.size w w1) (hH : ∀ b, H b -> G b \/ cp p v0 b) (hp : ∀ b, cp p v0 b -> w.heap.size <= b) (h : aao w1 H q M' w') (h0 : E ≠ 0) (he : e = .returned (.tuple #[.pointer none, .int .i64 E])) : io bX.Bn pJ w G q E M' x' e w' := by
 obtain ⟨G', h1, h4, h5⟩ := h;have hs := hb.size;refine ⟨G', (Only.of_below G hb).trans h4 fun b hb' => (hH b hb').imp id (hp b), fun b hb' => ?_, .inr ⟨h0, he, h1⟩⟩;rcases h5 b hb' with e | e
 ·exact (hH b e).imp id (hp b)
 ·exact .inr (by omega)
def rmF (p : Nat) : Fv := ⟨54, [ptr p], [], call54⟩
def rnF (p : Nat) : Fv := ⟨55, [ptr p], [], call55⟩
theorem ag7 {M : aK} {d : Nat} (h : eZ M (d : Int) = 0) : RnS M (l7 M (d : Int)) d 0 (im M (d : Int)) := by
 obtain ⟨h1, h2, h3⟩ := kM h;obtain ⟨_, _, b3, b4, b5⟩ : bf.nE (df M (d : Int) 0) (df M (d : Int) 1) = 0 /\ (dG M (d : Int)).m.ring <= cw M (d : Int) - 10 /\ (dG M (d : Int)).n <= 2305843009213693952 /\ (dG M (d : Int)).m.first <= 2305843009213693952 /\ (dG M (d : Int)).m.pos <= 2305843009213693952 := of_decide_eq_true h3;exact ⟨sf h, Int.toNat_natCast _, aj, rfl, b4, b5⟩
theorem pm {M : aK} : ∀ (k : Nat) (x : LgS), (j5 M k x).own = x.own /\ (j5 M k x).fst = x.fst
 |0, x => ⟨rfl, rfl⟩
 |k + 1, x => by
  unfold j5
  split
  ·exact pm k _
  ·exact ⟨rfl, rfl⟩
theorem aeB {M : aK} {d : Nat} (h : eZ M (d : Int) = 0) : (l7 M (d : Int)).own ≠ 0 /\ 1 <= (l7 M (d : Int)).fst := by
 obtain ⟨_, _, h3⟩ := kM h;obtain ⟨b1, _⟩ : bf.nE (df M (d : Int) 0) (df M (d : Int) 1) = 0 /\ (dG M (d : Int)).m.ring <= cw M (d : Int) - 10 /\ (dG M (d : Int)).n <= 2305843009213693952 /\ (dG M (d : Int)).m.first <= 2305843009213693952 /\ (dG M (d : Int)).m.pos <= 2305843009213693952 := of_decide_eq_true h3;have hm := ahE b1;obtain ⟨k1, k2⟩ := pm (M := M) 8 (im M (d : Int));unfold l7;rw [k1, k2];unfold im
 show (dG M (d : Int)).m.id ≠ 0 /\ 1 <= (dG M (d : Int)).m.first
 unfold dG;rw [eL, Bool.and_eq_true] at hm;obtain ⟨r1, _, _, r2, _⟩ := kr hm.2;exact ⟨r1, r2⟩
theorem agI {M : aK} {d : Int} (h : 40 <= cw M d - 10) : d8 M d = 0 /\ 50 <= cw M d /\ (∃ k : Nat, d = (k : Int)) /\ eZ M d = rmE M d := by
 have h1 : d8 M d = 0 := by
  by_cases e : d8 M d = 0
  ·exact e
  ·have : cw M d = 0 := by unfold cw; rw [if_neg e]
   omega
 have h2 : 50 <= cw M d := by omega
 have hq : uZ M d = true := ao ⟨h1, h2⟩;refine ⟨h1, h2, ?_, if_pos hq⟩;rcases dS M d with ⟨e, _⟩ | ⟨_, k, hk, _⟩
 ·omega
 ·exact ⟨k, hk⟩
theorem aiT {M : aK} {d : Int} (h : cw M d - 10 < 40) : eZ M d = 2 := by
 have hq : ¬ uZ M d = true := fun e => by
  obtain ⟨_, e2⟩ := of_decide_eq_true e;omega
 exact if_neg hq
theorem aaq {w0 w : World} {H K : Nat -> Prop} {p q dn : Nat} {M : aK} (h : PJ w0 H (fun _ => False) w p q (.slice none 0 0) M (LgS.none dn)) (hK : ∀ b, K b -> b < w.heap.size /\ b ≠ p) (h1 : d8 M (dn : Int) = 0) (h2 : 50 <= cw M (dn : Int)) :
  Chn K (fun E w' => E = rmE M (dn : Int) /\ (E = 0 -> ∃ v', PJ w0 H (fun _ => False) w' p q v' M (l7 M (dn : Int))) /\ aao w0 H q M w') [rmF p, rnF p] w := fun w1 hb1 => by
 have hj1 := h.below hb1;have hs1 := hb1.size;refine (vO hj1 rfl h1 h2).mono fun e w2 ⟨he, ho, hx⟩ => ?_
 have hs2 := ho.size;refine ⟨fun b hb => ho.block b (by have := (hK b hb).1; omega) (hK b hb).2, rmE M (dn : Int), he, ?_⟩;by_cases h0 : rmE M (dn : Int) = 0
 ·left
  refine ⟨h0, fun w3 hb3 => ?_⟩;have hE : eZ M (dn : Int) = 0 := ((agI (M := M) (d := (dn : Int)) (by omega)).2.2.2).trans h0;have hj2 := hj1.grow (ho.wide (G := cp p (.slice none 0 0)) fun b e => .inl e) (hx h0) (fun b e => .inl e);have hj3 := hj2.below hb3;have hs3 := hb3.size;refine (vD hj3 (ag7 hE) h1 h2 (kM hE).2.1).mono fun e w4 ⟨he4, ho4, v', hl4, hv4⟩ => ?_
  refine ⟨fun b hb => ho4.block b (by have := (hK b hb).1; omega) (hK b hb).2, 0, he4, .inl ⟨rfl, fun w5 hb5 => ?_⟩⟩;have hj4 := hj3.grow (ho4.wide (G := cp p (.slice none 0 0)) fun b e => .inl e) hl4 (fun b e => .inr (hv4 b e));have hj5 := hj4.below hb5;exact ⟨h0.symm, fun _ => ⟨v', hj5⟩, hj5.lost (Only.refl _ _)⟩
 ·right
  exact ⟨h0, fun w3 hb3 => ⟨rfl, fun e => absurd e h0, (hj1.lost (ho.wide fun b e => .inl e)).below hb3⟩⟩
theorem zw {w : World} {G : Nat -> Prop} {q : Nat} {M : aK} (d : Int) (hb : bX.Bn w G q M) (hT : TbG w G) (h : cw M d - 10 < 40) : Calls prog 12 #[.pointer (some ⟨q, 0, none⟩), .int .i64 d] w (io bX.Bn pJ w G q (eZ M d) M (l7 M d)) := by
 rw [aiT h];have HB := af hb;have H1 := af (ao h);clear hb hT h;go_enter func12, ntmps12;go_upto_region 1 with fail;refine aY 1 ?_;refine aD rfl (aC call51 rfl (evc alb evn)) ?_;refine (sB HB).mono ?_;rintro e w1 ⟨rfl, hb1⟩;refine bp ?_;refine aQ 1 ?_;have HB1 := af hb1;clear hb1;go_upto_region 3 with fail;refine aY 2 ?_;refine aD rfl (aC call52 rfl (evc alb (evc alb evn))) ?_;refine (tx d (bX.below HB HB1)).mono ?_;rintro e w2 ⟨rfl, hb2⟩;have HB2 := af (HB1.out.trans (hb2.mono HB1.out.size));clear hb2;refine bp ?_;refine ak1 (a8 true rfl alb evk H1) ?_;refine ah ?_;go_wp2_with fail;go_ret2;exact io.same HB HB2 (by decide) rfl
theorem aaI {w : World} {G : Nat -> Prop} {q : Nat} {M : aK} (d : Int) (hb : bX.Bn w G q M) (hT : TbG w G) (h : ¬ cw M d - 10 < 40) : Calls prog 12 #[.pointer (some ⟨q, 0, none⟩), .int .i64 d] w (io bX.Bn pJ w G q (eZ M d) M (l7 M d)) := by
 obtain ⟨q1, q2, ⟨dn, rfl⟩, q3⟩ := agI (M := M) (d := d) (by omega);have HB := af hb;have HT := af hT;have H1 := af (am h);have HQ1 := af q1;have HQ2 := af q2;have HQ3 := af q3;clear hb hT h q1 q2 q3;go_enter func12, ntmps12;go_upto_region 1 with fail;refine aY 1 ?_;refine aD rfl (aC call51 rfl (evc alb evn)) ?_;refine (sB HB).mono ?_;rintro e w1 ⟨rfl, hb1⟩;refine bp ?_;refine aQ 1 ?_;have HB1 := af hb1;clear hb1;go_upto_region 3 with fail;refine aY 2 ?_;refine aD rfl (aC call52 rfl (evc alb (evc alb evn))) ?_;refine (tx (dn : Int) (bX.below HB HB1)).mono ?_;rintro e w2 ⟨rfl, hb2⟩;have HB2 := af (HB1.out.trans (hb2.mono HB1.out.size));clear hb2;refine bp ?_;refine ak1 (a8 false rfl alb evk H1) ?_;refine ah ?_;go_upto_region 5 with fail;refine aY 2 ?_;refine ak1 (uk rfl alb alb) ?_;refine ak1 (oc (q := q) (v := .slice none 0 0) (x := LgS.none dn) rfl alb) ?_;refine aQ 1 ?_;have HJ4 := af (PJ.first (x := LgS.none dn) HB HT HB2 rfl);have HB4 := af (HB2.out.alloc HB2.out.size (.cells (i7 q (.slice none 0 0) (LgS.none dn)).toArray 97));have HPW : Hid (w.heap.size <= w2.heap.size) := af HB2.out.size;have HZ4 : Hid (w2.heap.size < (w2.alloc (.cells (i7 q (.slice none 0 0) (LgS.none dn)).toArray 97)).heap.size) := af (by rw [World.size_alloc]; omega);generalize w2.alloc (.cells (i7 q (.slice none 0 0) (LgS.none dn)).toArray 97) = w4 at *;clear HB2 HB1;generalize w2.heap.size = p at *;go_upto_region 6 with fail;refine aY 1 ?_;refine ak1 (gI rfl alb) ?_;refine runs 1 ?_;refine ak1 (gI rfl alb) ?_;refine ak1 (ru (s1 := rmF p) (s2 := rnF p) rfl alb alb) ?_;have HAL := af ((Below.refl w4.heap.size w4).alloc aj (.cells #[(rmF p).val, (rnF p).val] 112));have HRD := af (uI w4 (rmF p) (rnF p));have HZ5 : Hid (w4.heap.size + 1 = (w4.alloc (.cells #[(rmF p).val, (rnF p).val] 112)).heap.size) := af (by rw [World.size_alloc]);have HJ5 := af (HJ4.out.below HAL)
 (try change wpList _ _ _ _ _ (w4.alloc (.cells #[(rmF p).val, (rnF p).val] 112)))
 generalize w4.alloc (.cells #[(rmF p).val, (rnF p).val] 112) = w5 at *;have HCH := af (aaq (K := fun b => b = w4.heap.size) HJ5 (fun b e => by subst e; exact ⟨by have := HZ5.out; omega, fun e => by have := HZ4.out; omega⟩) HQ1 HQ2);refine aD rfl (aC call53 rfl (evc alb evn)) ?_;refine (sb (some ⟨w4.heap.size, 0, none⟩) 2 2 (w4.heap.size + 1) [rmF p, rnF p] w5 (fun b => b = w4.heap.size) _ HRD (Nat.le_of_eq HZ5) (by omega) (fun b off e => by injection e with e; injection e with e1 e2; exact e1.symm) HCH).mono ?_;rintro e w10 ⟨E, rfl, hE, hj10, hl10⟩;have HL10 := af hl10;clear hl10;refine bp ?_;refine aQ 1 ?_;rw [<- HQ3.out] at hE;have HHF : Hid (∀ b, (G b \/ cp p (.slice none 0 0) b) -> G b \/ cp p (.slice none 0 0) b) := af fun b e => e
 have HPF : Hid (∀ b, cp p (.slice none 0 0) b -> w.heap.size <= b) := af fun b e => by
  rcases e with rfl | e
  ·exact HPW
  ·simp [Value.ownBlock] at e
 have HEE := af hE;by_cases h0 : E = 0
 ·obtain ⟨v10, hj⟩ := hj10 h0;have HJ10 := af hj;subst h0;clear hE hj10 hj;go_wp2_with fail;go_ret2;rw [<- HEE.out];exact io.of HB4 HHF HPF HJ10 (.inl ⟨rfl, rfl, aeB HEE.out.symm⟩) fun _ => rfl
 ·have hne : (E != 0) = true := by simpa using h0
  clear hE hj10;go_wp2_with fail;go_ret2;rw [<- HEE.out];exact io.lost HB4 HHF HPF HL10 h0 rfl
theorem ahw {w : World} {G : Nat -> Prop} {q : Nat} {M : aK} (d : Int) (hb : bX.Bn w G q M) (hT : TbG w G) : Calls prog 12 #[.pointer (some ⟨q, 0, none⟩), .int .i64 d] w (io bX.Bn pJ w G q (eZ M d) M (l7 M d)) := by
 by_cases h : cw M d - 10 < 40
 ·exact zw d hb hT h
 ·exact aaI d hb hT h
section
variable {w w' : World} {G F : Nat -> Prop} {q p : Nat} {M M' : aK} {x x' : LgS}
theorem pJ.lt (h : pJ w G q p M x) : ∀ b, G b -> b < w.heap.size := by
 obtain ⟨v, Gb, h1, h2, h3, rfl, _⟩ := h;exact fun b hb => hb.elim (bX.lt h1 b) (h2.lt b)
theorem pJ.only (h : pJ w G q p M x) (ho : Only F w w') (hn : ∀ b, G b -> ¬ F b) : pJ w' G q p M x := by
 obtain ⟨v, Gb, h1, h2, h3, rfl, h4⟩ := h;exact ⟨v, Gb, bX.only h1 ho fun b e => hn b (.inl e), h2.only ho fun b e => hn b (.inr e), h3, rfl, h4⟩
theorem pJ.ben (h : pJ w G q p M x) : ∃ Gb, bX.Bn w Gb q M /\ (∀ b, Gb b -> G b) /\ ∀ w' Gb' M', bX.Bn w' Gb' q M' -> Only Gb w w' -> Grow w Gb Gb' -> ∃ G', pJ w' G' q p M' x /\ Only G w w' /\ Grow w G G' /\ ∀ b, Gb' b -> G' b := by
 obtain ⟨v, Gb, h1, h2, h3, rfl, h4⟩ := h;refine ⟨Gb, h1, fun b e => .inl e, fun w' Gb' M' k1 k2 k3 => ⟨_, ⟨v, Gb', k1, h2.only k2 h3, fun b hb hg => ?_, rfl, h4⟩, k2.wide fun b e => .inl e, fun b hb => ?_, fun b e => .inl e⟩⟩
 ·rcases k3 b hg with e | e
  ·exact h3 b hb e
  ·have := h2.lt b hb; omega
 ·rcases hb with e | e
  ·exact (k3 b e).imp .inl id
  ·exact .inl (.inr e)
theorem pJ.live (h : pJ w G q p M x) {N : Nat} (hk : cg M x N) : Calls prog 26 #[.pointer (some ⟨p, 0, none⟩)] w fun e w' => e = .returned (.tuple #[.int .u64 ((x.fst : Nat) : Int), .int .u64 ((x.next : Nat) : Int)]) /\ Below w.heap.size w w' := by
 obtain ⟨v, Gb, h1, h2, _⟩ := h;exact aiQ w h2 hk
theorem pJ.free (h : pJ w G q p M x) {N : Nat} (hk : cg M x N) : Calls prog 28 #[.pointer (some ⟨p, 0, none⟩)] w fun e w' => e = .returned (.int .i64 ((x.free : Nat) : Int)) /\ Below w.heap.size w w' := by
 obtain ⟨v, Gb, h1, h2, _⟩ := h;exact ahl w h2 hk
theorem pJ.id_ (h : pJ w G q p M x) : Calls prog 30 #[.pointer (some ⟨p, 0, none⟩)] w fun e w' => e = .returned (.int .u64 ((x.own : Nat) : Int)) /\ Below w.heap.size w w' := by
 obtain ⟨v, Gb, h1, h2, _⟩ := h;exact akw w h2
theorem pJ.ajs (h : pJ w G q p M x) : Calls prog 31 #[.pointer (some ⟨p, 0, none⟩)] w fun e w' => e = .returned (.int .i64 ((x.size : Nat) : Int)) /\ Below w.heap.size w w' := by
 obtain ⟨v, Gb, h1, h2, _⟩ := h;exact aib w h2
end
theorem qW {M : aK} {x : LgS} {cs : List Cl} : (gQ M x cs).own = x.own /\ (gQ M x cs).fst = x.fst := by
 unfold gQ
 split
 ·exact ⟨rfl, rfl⟩
 ·exact ⟨rfl, rfl⟩
theorem rz {M : aK} {x : LgS} {f : Nat} (h : 1 <= x.fst) : (fV M x f).own = x.own /\ 1 <= (fV M x f).fst := by
 unfold fV
 split
 ·rename_i he
  refine ⟨rfl, ?_⟩
  show 1 <= f
  by_cases hq : ny x f = true
  ·have := (sq hq).1; omega
  ·unfold hM at he;rw [if_neg hq] at he;cases he
 ·exact ⟨rfl, h⟩
def co : lU where
 R := bX
 J := pJ
 lt := fun h => h.lt
 only := fun h => h.only
 ben := fun h => h.ben
 open_ := fun d hb hT => ahw d hb hT
 lay := fun d id r hb hT hr hid => ai6 d id r hb hT hr hid
 app := fun A n c N0 cs h hT hk hr hc hN0 hn => by
  obtain ⟨v, hj, ho, hf⟩ := h.start hT;exact (ac8 A n c N0 cs hj hk hr hc hN0 hn hf).mono fun e w' ⟨he, v', hj'⟩ => ⟨he, hj'.vC (by rw [qW.1]; exact ho) (by rw [qW.2]; exact hf)⟩
 ux := fun s h hT hk hs => by
  obtain ⟨v, hj, ho, hf⟩ := h.start hT;exact ajd s hj hk hs
 clr := fun f h hT hk hr hf => by
  obtain ⟨v, hj, ho, h1⟩ := h.start hT;exact (agf f hj hk hr hf ho h1).mono fun e w' ⟨he, v', hj'⟩ => ⟨he, hj'.vC (by rw [(rz h1).1]; exact ho) (rz h1).2⟩
 live := fun h hk => h.live hk
 free := fun h hk => h.free hk
 id := fun h _ => h.id_
 ring := fun h _ => h.ajs
section
variable {ρ : Operand -> Value} {o : Oper} {x y : Operand} {w : World} {t r : TypeId}
theorem adc {a b c : Int} (ho : o.op = .binOp .sub t x y r) (hx : ρ x = .int .u64 a) (hy : ρ y = .int .u64 b) (h : IntKind.u64.wrap (a - b) = c) : (execOp ρ o).run prog w = .ok (.value (.int .u64 c)) w := by
 unfold execOp;simp [ho, hx, hy, eqGuard, binOp, Op.intArith, h]
theorem sp {ad : Addr} {A : Option Addr} {n c : Nat} (h : w.cell? ad = some (.slice A n c)) : (Instr.loadAt 34 (.pointer (some ad))).run prog w = .ok (.slice A n c) w := by simp [go_sem, h]
theorem yK {ad : Addr} {k : Bool} (h : w.cell? ad = some (.bool k)) : (Instr.loadAt 4 (.pointer (some ad))).run prog w = .ok (.bool k) w := by simp [go_sem, h]
theorem aam {a b c : Int} (ho : o.op = .binOp .rem t x y r) (hx : ρ x = .int .u64 a) (hy : ρ y = .int .u64 b) (h0 : b ≠ 0) (h : a.tmod b = c) : (execOp ρ o).run prog w = .ok (.value (.int .u64 c)) w := by
 unfold execOp;simp [ho, hx, hy, eqGuard, binOp, Op.intDiv, h, h0]
theorem aki {a : Nat} (h : a < 18446744073709551616) : IntKind.u64.wrap (a : Int) = (a : Int) := IntWalk.u64_in _ ⟨by omega, by omega⟩
theorem afk {a : Int} (h : 0 <= a /\ a <= 9223372036854775807) : IntKind.i64.wrap a = a := IntWalk.i64_in _ ⟨by omega, by omega⟩
end
theorem LAt.id {C : lU} {w0 w : World} {B q p N : Nat} {K : Nat -> Prop} {M : aK} {x : LgS} (h : LAt C w0 B K w q p M x) (hk : cg M x N) : Calls prog 30 #[.pointer (some ⟨p, 0, none⟩)] w fun e w' => e = .returned (.int .u64 ((x.own : Nat) : Int)) /\ Below w.heap.size w w' := by
 obtain ⟨G, h1, _⟩ := h;exact C.id h1 hk
theorem lm {ρ : Operand -> Value} {o : Oper} {x y : Operand} {w : World} {t r te : TypeId} {a : Addr} (hp : prog.underlying t = some (.pointer te)) (ho : o.op = .binOp .eql t x y r) (hx : ρ x = .pointer (some a)) (hy : ρ y = .pointer none) : (execOp ρ o).run prog w = .ok (.value (.bool false)) w := by
 have h : ∀ d : Nat, (Op.equalIn (d + 1) t (.pointer (some a)) (.pointer none)).run prog w = .ok false w := fun d => by
  simp [Op.equalIn, run_underlying hp]
 unfold execOp;simp [ho, hx, hy, eqGuard, binOp, Op.equal, Op.maxDepth, h 9999]
theorem afu {C : lU} {w0 w : World} {B d q r p s N N' : Nat} {K : Nat -> Prop} {v : Value} {M M' : aK} {x : LgS} (hd : db w d q r (some ⟨p, 0, none⟩) (some ⟨s, 0, none⟩)) (hl : LAt C w0 B K w q p M x) (hk : cg M x N) (hg : RLg w s r v x) (hk' : cg M' x N') :
  Calls prog 6 #[.pointer (some ⟨d, 0, none⟩)] w fun e w' => e = .returned (.bool true) /\ Below w.heap.size w w' := by
 have HD := af hd;have HL := af hl;have HK := af hk;have HG := af hg;have HK2 := af hk';clear hd hl hk hg hk';go_enter func6, ntmps6;go_upto_region 1 with fail;refine aY 2 ?_;refine ak1 (av rfl alb gV) ?_;refine ak1 (aA rfl alb (iU (HD.out.c3))) ?_;refine ak1 (lm underlying30 rfl alb evk) ?_;refine ah ?_;go_upto_region 3 with fail;refine aY 2 ?_;refine ak1 (av rfl alb lG) ?_;refine ak1 (aA rfl alb (n5 (HD.out.c2))) ?_;refine aD rfl (aC call26 rfl (evc alb evn)) ?_;refine (HL.out.live HK).mono ?_;rintro e w1 ⟨rfl, hb⟩;have HB := af hb;have HD1 := af (HD.out.below hb);have HL1 := af (HL.out.below hb);have HG1 := af (HG.out.below hb);clear hb HD HL HG;refine bp ?_;refine runs 3 ?_;refine aQ 2 ?_;go_upto_region 4 with fail;refine aZ (B := w1.heap.size) (by kernel_rfl) ?_;refine bC 3 ?_;refine ak9 (fun _ hw => av rfl alb gV) ?_;refine ak9 (fun _ hw => aA rfl alb (iU ((HD1.out.below hw).c3))) ?_;refine bC 1 ?_;refine ak9 (fun _ hw => av rfl alb kv) ?_;refine ak9 (fun _ hw => aA rfl alb (b7 (RLg.c5 (HG1.out.below hw)))) ?_;refine ak9 (fun _ hw => aN true rfl alb alb (beq_self_eq_true _)) ?_;refine bC 3 ?_;refine bC 1 ?_;refine ala (fun _ hw => av rfl alb gV) ?_;refine ala (fun _ hw => aA rfl alb (iU ((HD1.out.below hw).c3))) ?_;refine bE akW (fun _ => aC call27 rfl (evc alb evn)) (bl aj fun w' hw => kJ w' (HG1.out.below hw) HK2) ?_;simp only [aa];refine ala (fun _ hw => aN true rfl alb alb (beq_self_eq_true _)) ?_;refine bC 3 ?_;refine bC 1 ?_;refine ala (fun _ hw => av rfl alb lG) ?_;refine ala (fun _ hw => aA rfl alb (n5 ((HD1.out.below hw).c2))) ?_;refine bE akW (fun _ => aC call28 rfl (evc alb evn)) (bl aj fun _ hw => (HL1.out.below hw).free HK) ?_;simp only [aa];refine bC 2 ?_;refine ala (fun _ hw => av rfl alb gV) ?_;refine ala (fun _ hw => aA rfl alb (iU ((HD1.out.below hw).c3))) ?_;refine bE akW (fun _ => aC call29 rfl (evc alb evn)) (bl aj fun w' hw => wx w' (HG1.out.below hw) HK2) ?_;simp only [aa];refine ala (fun _ hw => aN true rfl alb alb (beq_self_eq_true _)) ?_;refine bC 3 ?_;refine bC 1 ?_;refine ala (fun _ hw => av rfl alb lG) ?_;refine ala (fun _ hw => aA rfl alb (n5 ((HD1.out.below hw).c2))) ?_;refine bE akW (fun _ => aC call30 rfl (evc alb evn)) (bl aj fun _ hw => (HL1.out.below hw).id HK) ?_;simp only [aa];refine bC 2 ?_;refine ala (fun _ hw => av rfl alb gV) ?_;refine ala (fun _ hw => aA rfl alb (iU ((HD1.out.below hw).c3))) ?_;refine bC 1 ?_;refine ala (fun _ hw => av rfl alb agu) ?_;refine ala (fun _ hw => aA rfl alb (b7 (RLg.c2 (HG1.out.below hw)))) ?_;refine ala (fun _ hw => aN true rfl alb alb (beq_self_eq_true _)) ?_;refine bC 3 ?_;refine bC 1 ?_;refine ala (fun _ hw => av rfl alb lG) ?_;refine ala (fun _ hw => aA rfl alb (n5 ((HD1.out.below hw).c2))) ?_;refine bE akW (fun _ => aC call31 rfl (evc alb evn)) (bl aj fun _ hw => (HL1.out.below hw).ring HK) ?_;simp only [aa];refine bC 2 ?_;refine ala (fun _ hw => av rfl alb gV) ?_;refine ala (fun _ hw => aA rfl alb (iU ((HD1.out.below hw).c3))) ?_;refine bC 1 ?_;refine ala (fun _ hw => av rfl alb uP) ?_;refine ala (fun _ hw => aA rfl alb (bm (RLg.c3 (HG1.out.below hw)))) ?_;refine ala (fun _ hw => aN true rfl alb alb (beq_self_eq_true _)) ?_;refine bC 2 ?_;refine wpQuiet_nil ?_;intro w2 hw;have HB2 := af (HB.out.trans (hw.mono HB.out.size));clear hw;go_wp2_with fail;go_ret;exact ⟨rfl, HB2⟩
structure Sd (P : World -> (Nat -> Prop) -> Prop) : Prop where
 lt : ∀ {w G}, P w G -> ∀ b, G b -> b < w.heap.size
 only : ∀ {w w' G F}, P w G -> Only F w w' -> (∀ b, G b -> ¬ F b) -> P w' G
theorem Sd.below {P : World -> (Nat -> Prop) -> Prop} (s : Sd P) {w w' : World} {G : Nat -> Prop} (h : P w G) (k : Below w.heap.size w w') : P w' G := s.only h (Only.of_below (fun _ => False) k) fun _ _ e => e
def Two (P Q : World -> (Nat -> Prop) -> Prop) (w0 : World) (B : Nat) (K : Nat -> Prop) (w : World) : Prop :=
 ∃ G F, P w G /\ Q w F /\ (∀ b, G b -> B <= b) /\ (∀ b, F b -> B <= b) /\ (∀ b, G b -> ¬ F b) /\ Below B w0 w /\ Bas w0 B /\ ∀ b, K b -> ¬ G b /\ ¬ F b /\ b < w.heap.size
section
variable {P Q P' Q' : World -> (Nat -> Prop) -> Prop} {w0 w w' : World} {B : Nat} {K K' : Nat -> Prop}
theorem Two.bel (h : Two P Q w0 B K w) : Below B w0 w := by obtain ⟨_, _, _, _, _, _, _, h, _⟩ := h; exact h
theorem Two.bas (h : Two P Q w0 B K w) : Bas w0 B := by obtain ⟨_, _, _, _, _, _, _, _, h, _⟩ := h; exact h
theorem Two.le (h : Two P Q w0 B K w) : B <= w.heap.size := ap h.bas.le h.bel.size
theorem Two.lt (h : Two P Q w0 B K w) {b : Nat} (hb : K b) : b < w.heap.size := by obtain ⟨_, _, _, _, _, _, _, _, _, h⟩ := h; exact (h b hb).2.2
theorem Two.imp (h : Two P Q w0 B K w) (hP : ∀ G, P w G -> P' w G) (hQ : ∀ F, Q w F -> Q' w F) : Two P' Q' w0 B K w := by
 obtain ⟨G, F, h1, h2, r⟩ := h;exact ⟨G, F, hP G h1, hQ F h2, r⟩
theorem Two.guard (sP : Sd P) (sQ : Sd Q) (h : Two P Q w0 B K w) (k : Below w.heap.size w w') (hK : ∀ b, K' b -> K b \/ (w.heap.size <= b /\ b < w'.heap.size)) : Two P Q w0 B K' w' := by
 have hle := h.le;obtain ⟨G, F, h1, h2, h3, h4, h5, h6, h7, h8⟩ := h;have hs := k.size;refine ⟨G, F, sP.below h1 k, sQ.below h2 k, h3, h4, h5, h6.trans (k.mono hle), h7, fun b hb => ?_⟩;rcases hK b hb with e | ⟨e1, e2⟩
 ·obtain ⟨g1, g2, g3⟩ := h8 b e;exact ⟨g1, g2, by omega⟩
 ·exact ⟨fun hg => by have := sP.lt h1 b hg; omega, fun hg => by have := sQ.lt h2 b hg; omega, e2⟩
theorem Two.below (sP : Sd P) (sQ : Sd Q) (h : Two P Q w0 B K w) (k : Below w.heap.size w w') : Two P Q w0 B K w' := h.guard sP sQ k fun b e => .inl e
theorem Two.left {Post : Ending -> World -> (Nat -> Prop) -> Prop} {f : FuncId} {vs : Array Value} (sQ : Sd Q) (h : Two P Q w0 B K w) (hc : ∀ G, P w G -> TbG w G -> Calls prog f vs w fun e w' => ∃ G', Post e w' G' /\ Only G w w' /\ Grow w G G') :
  Calls prog f vs w fun e w' => Two (fun w G => Post e w G) Q w0 B K w' /\ ib K w w' := by
 have hle := h.le;obtain ⟨G, F, h1, h2, h3, h4, h5, h6, h7, h8⟩ := h;refine (hc G h1 (h7.xW h6 h3)).mono fun e w' ⟨G', k1, k2, k3⟩ => ?_
 have hs := k2.size;refine ⟨⟨G', F, k1, sQ.only h2 k2 fun b hb hg => h5 b hg hb, k3.above h3 hle, h4, fun b hb hf => ?_, h6.trans (k2.below h3 hle), h7, fun b hb => ?_⟩, fun b hb => k2.block b (h8 b hb).2.2 (h8 b hb).1⟩
 ·rcases k3 b hb with e | e
  ·exact h5 b e hf
  ·have := sQ.lt h2 b hf; omega
 ·obtain ⟨g1, g2, g3⟩ := h8 b hb;refine ⟨fun hg => ?_, g2, by omega⟩;rcases k3 b hg with e | e
  ·exact g1 e
  ·omega
theorem Two.right {Post : Ending -> World -> (Nat -> Prop) -> Prop} {f : FuncId} {vs : Array Value} (sP : Sd P) (h : Two P Q w0 B K w) (hc : ∀ F, Q w F -> Calls prog f vs w fun e w' => ∃ F', Post e w' F' /\ Only F w w' /\ Grow w F F') :
  Calls prog f vs w fun e w' => Two P (fun w F => Post e w F) w0 B K w' /\ ib K w w' := by
 have hle := h.le;obtain ⟨G, F, h1, h2, h3, h4, h5, h6, h7, h8⟩ := h;refine (hc F h2).mono fun e w' ⟨F', k1, k2, k3⟩ => ?_
 have hs := k2.size;refine ⟨⟨G, F', sP.only h1 k2 fun b hb hf => h5 b hb hf, k1, h3, k3.above h4 hle, fun b hb hf => ?_, h6.trans (k2.below h4 hle), h7, fun b hb => ?_⟩, fun b hb => k2.block b (h8 b hb).2.2 (h8 b hb).2.1⟩
 ·rcases k3 b hf with e | e
  ·exact h5 b hb e
  ·have := sP.lt h1 b hb; omega
 ·obtain ⟨g1, g2, g3⟩ := h8 b hb;refine ⟨g1, fun hg => ?_, by omega⟩;rcases k3 b hg with e | e
  ·exact g2 e
  ·omega
end
def QLg (r s : Nat) (M : aK) (x : LgS) (w : World) (F : Nat -> Prop) : Prop := ∃ Gb v, bD.Bn w Gb r M /\ RLg w s r v x /\ (∀ b, cp s v b -> ¬ Gb b) /\ F = fun b => Gb b \/ cp s v b
theorem sdJ (C : lU) (q p : Nat) (M : aK) (x : LgS) : Sd (fun w G => C.J w G q p M x) := ⟨C.lt, C.only⟩
theorem sdB (C : lU) (q : Nat) (M : aK) : Sd (fun w G => C.R.Bn w G q M) := ⟨C.R.lt, C.R.only⟩
theorem sdR (r : Nat) (M : aK) : Sd (fun w F => bD.Bn w F r M) := ⟨bD.lt, bD.only⟩
theorem sdL (r s : Nat) (M : aK) (x : LgS) : Sd (QLg r s M x) := by
 refine ⟨fun {w G} h b hb => ?_, fun {w w' G F} h ho hn => ?_⟩
 ·obtain ⟨Gb, v, h1, h2, h3, rfl⟩ := h;rcases hb with hb | hb
  ·exact bD.lt h1 b hb
  ·exact h2.lt b hb
 ·obtain ⟨Gb, v, h1, h2, h3, rfl⟩ := h;exact ⟨Gb, v, bD.only h1 ho fun b hb => hn b (.inl hb), h2.only ho fun b hb => hn b (.inr hb), h3, rfl⟩
section
variable {C : lU} {w0 w w' : World} {B q p r s N : Nat} {K : Nat -> Prop} {M : aK} {x : LgS}
theorem QLg.rj {F : Nat -> Prop} (h : QLg r s M x w F) : ∃ v, RJ w F (fun _ => False) w s r v M x := by
 obtain ⟨Gb, v, h1, h2, h3, rfl⟩ := h;exact ⟨v, RJ.start h1 h2 h3⟩
theorem QLg.of {F : Nat -> Prop} {v : Value} (h : RJ w F (fun _ => False) w' s r v M x) : ∃ F', QLg r s M x w' F' /\ Only F w w' /\ Grow w F F' := by
 obtain ⟨G, h1, h2, h3, h4, h5, _⟩ := h;exact ⟨_, ⟨G, v, h1, h2, h3, rfl⟩, h4, h5⟩
def nF (C : lU) (q p r s : Nat) (M : aK) (x : LgS) (w0 : World) (B : Nat) (K : Nat -> Prop) (w : World) : Prop := Two (fun w G => C.J w G q p M x) (QLg r s M x) w0 B K w
theorem nF.below (h : nF C q p r s M x w0 B K w) (k : Below w.heap.size w w') : nF C q p r s M x w0 B K w' := Two.below (sdJ C q p M x) (sdL r s M x) h k
theorem nF.lat (h : nF C q p r s M x w0 B K w) : LAt C w0 B K w q p M x := by
 obtain ⟨G, F, h1, h2, h3, h4, h5, h6, h7, h8⟩ := h;exact ⟨G, h1, h3, h6, h7, fun b hb => ⟨(h8 b hb).1, (h8 b hb).2.2⟩⟩
theorem nF.rlg (h : nF C q p r s M x w0 B K w) : ∃ v, RLg w s r v x := by
 obtain ⟨G, F, h1, ⟨_, v, _, h2, _⟩, _⟩ := h;exact ⟨v, h2⟩
theorem nF.ux (n : Nat) (h : nF C q p r s M x w0 B K w) (hk : cg M x N) (hs : n < 18446744073709551616) : Calls prog 49 #[.pointer (some ⟨s, 0, none⟩), .int .u64 (n : Nat)] w (ip M x n w) := by
 obtain ⟨G, F, h1, h2, _⟩ := h;obtain ⟨v, hj⟩ := h2.rj;exact acq n hj hk hs
end
theorem nC {ρ : Operand -> Value} {o : Oper} {x y : Operand} {w : World} {t r te : TypeId} (hp : prog.underlying t = some (.pointer te)) (ho : o.op = .binOp .eql t x y r) (hx : ρ x = .pointer none) (hy : ρ y = .pointer none) : (execOp ρ o).run prog w = .ok (.value (.bool true)) w := by
 have h : ∀ d : Nat, (Op.equalIn (d + 1) t (.pointer none) (.pointer none)).run prog w = .ok true w := fun d => by
  simp [Op.equalIn, run_underlying hp]
 unfold execOp;simp [ho, hx, hy, eqGuard, binOp, Op.equal, Op.maxDepth, h 9999]
def uE (x : LgS) (a : aT) : Nat := if a.Near then (x.fst + a.N % 11 + 18446744073709551615) % 18446744073709551616 else a.N
theorem ye {x : LgS} {a : aT} (h : a.N < 18446744073709551616) : uE x a < 18446744073709551616 := by
 unfold uE
 split
 ·exact Nat.mod_lt _ (by decide)
 ·exact h
theorem pH {w : World} {d q r s N : Nat} {l : Option Addr} {v : Value} {M : aK} {x : LgS} (a : aT) (hd : db w d q r l (some ⟨s, 0, none⟩)) (hg : RLg w s r v x) (hk : cg M x N) (hN : a.N < 18446744073709551616) :
  Calls prog 48 #[.pointer (some ⟨d, 0, none⟩), a.V] w fun e w' => e = .returned (.int .u64 (uE x a : Nat)) /\ Below w.heap.size w w' := by
 have hb := (Below.refl w.heap.size w).alloc aj (.cells a.C.toArray 38);have HB := af hb;have HD := af (hd.below hb);have HG := af (hg.below hb);have HA := af (aT.At_.new w a);have hf : x.fst + a.N % 11 < 18446744073709551616 := by
  have h1 := hk.nxt;have h2 := hk.lim;have h3 : x.next = x.fst + x.nts.length := rfl;have := Nat.mod_lt a.N (show 0 < 11 by decide);omega
 obtain ⟨r, hr⟩ : ∃ r, a.N % 11 = r := ⟨_, rfl⟩;obtain ⟨F, hF⟩ : ∃ F, x.fst + r = F := ⟨_, rfl⟩;obtain ⟨R, hR⟩ : ∃ R, uE x a = R := ⟨_, rfl⟩;have HNT : Hid (a.Near = true -> IntKind.u64.wrap ((F : Int) - 1) = (R : Int)) := af fun e => by
  unfold uE at hR;rw [if_pos e, hr, hF] at hR;rw [IntKind.wrap_u64, <- hR];omega
 have HNF : Hid (a.Near = false -> a.N = R) := af fun e => by
  unfold uE at hR;rwa [if_neg (by rw [e]; decide)] at hR
 have HR : Hid ((a.N : Int).tmod 11 = (r : Int)) := af (by rw [<- hr]; rfl);have HS : Hid (IntKind.u64.wrap ((x.fst : Int) + (r : Int)) = (F : Int)) := af (by rw [<- hF]; exact aki (by rw [<- hr]; exact hf));rw [hR];clear hb hd hg hk hN hf hr hF hR;go_enter func48, ntmps48;go_upto_region 1 with (first | (refine au rfl (cy rfl rfl) ?_) | fail);generalize w.alloc (.cells a.C.toArray 38) = w1 at *;cases hnear : a.Near
 ·have HNR := af hnear;have HV := af (HNF.out hnear);clear hnear;refine ag ?_;refine ak1 (av rfl alb uq) ?_;refine ak1 (v := .bool false) (aA rfl alb (by rw [<- HNR.out]; exact yK (HA.out.f4))) ?_;refine aQ 1 ?_;go_upto_region 2 with fail;refine ag ?_;refine ak1 (av rfl alb mV) ?_;refine ak1 (aA rfl alb (b7 (HA.out.f3))) ?_;refine aQ 1 ?_;go_wp2_with fail;go_ret;exact ⟨by rw [<- HV.out]; rfl, HB⟩
 have HNR := af hnear;have HT := af (HNT.out hnear);clear hnear;refine ag ?_;refine ak1 (av rfl alb uq) ?_;refine ak1 (v := .bool true) (aA rfl alb (by rw [<- HNR.out]; exact yK (HA.out.f4))) ?_;refine aQ 1 ?_;go_upto_region 3 with fail;refine aZ (B := w1.heap.size) (by kernel_rfl) ?_;refine bC 2 ?_;refine ak9 (fun _ hw => av rfl alb gV) ?_;refine ak9 (fun _ hw => aA rfl alb (iU ((HD.out.below hw).c3))) ?_;refine bC 1 ?_;refine ak9 (fun _ hw => av rfl alb kv) ?_;refine ak9 (fun _ hw => aA rfl alb (b7 (RLg.c5 (HG.out.below hw)))) ?_;refine ak9 (fun _ hw => av rfl alb mV) ?_;refine ak9 (fun _ hw => aA rfl alb (b7 ((aT.At_.below HA (aR HA) hw).f3))) ?_;refine ak9 (fun _ hw => aam rfl alb evk (by decide) HR) ?_;refine ak9 (fun _ hw => mS rfl alb alb HS) ?_;refine ak9 (fun _ hw => adc rfl alb evk HT) ?_;refine bC 1 ?_;refine wpQuiet_nil ?_;intro w2 hw;have HB2 := af (HB.out.trans (hw.mono HB.out.size));clear hw;go_wp2_with fail;go_ret;exact ⟨rfl, HB2⟩
theorem aec {w : World} {d q r : Nat} (hd : db w d q r none none) : Calls prog 6 #[.pointer (some ⟨d, 0, none⟩)] w fun e w' => e = .returned (.bool true) /\ Below w.heap.size w w' := by
 have HD := af hd;clear hd;go_enter func6, ntmps6;go_upto_region 1 with fail;refine aY 2 ?_;refine ak1 (av rfl alb gV) ?_;refine ak1 (aA rfl alb (iU (HD.out.c3))) ?_;refine ak1 (nC underlying30 rfl alb evk) ?_;refine ah ?_;go_upto_region 2 with fail;refine aY 2 ?_;refine ak1 (av rfl alb lG) ?_;refine ak1 (aA rfl alb (n5 (HD.out.c2))) ?_;refine ak1 (nC underlying29 rfl alb evk) ?_;refine aQ 1 ?_;go_wp2_with fail;go_ret;exact ⟨rfl, ak⟩
theorem ai1 {w : World} {d q r : Nat} (a : aT) (hd : db w d q r none none) : Calls prog 11 #[.pointer (some ⟨d, 0, none⟩), a.V] w fun e w' => e = .returned (.bool true) /\ Below w.heap.size w w' := by
 have hb := (Below.refl w.heap.size w).alloc aj (.cells a.C.toArray 38);have HB := af hb;have HD := af (hd.below hb);clear hb hd;go_enter func11, ntmps11;go_upto_region 1 with (first | (refine au rfl (cy rfl rfl) ?_) | fail);generalize w.alloc (.cells a.C.toArray 38) = w1 at *;refine aY 2 ?_;refine ak1 (av rfl alb gV) ?_;refine ak1 (aA rfl alb (iU (HD.out.c3))) ?_;refine ak1 (nC underlying30 rfl alb evk) ?_;refine ah ?_;go_upto_region 2 with fail;refine nl 1 ?_;go_wp2_with fail;go_ret;exact ⟨rfl, HB⟩
theorem aj9 {C : lU} {w0 w : World} {B d q r p s N : Nat} {K : Nat -> Prop} {M : aK} {x : LgS} (a : aT) (ha : a.Do = 1) (hN : a.N < 18446744073709551616) (hd : db w d q r (some ⟨p, 0, none⟩) (some ⟨s, 0, none⟩)) (h : nF C q p r s M x w0 B K w) (hk : cg M x N) :
  Calls prog 11 #[.pointer (some ⟨d, 0, none⟩), a.V] w fun e w' => e = .returned (.bool true) /\ Below w.heap.size w w' := by
 have hb := (Below.refl w.heap.size w).alloc aj (.cells a.C.toArray 38);have HB := af hb;have HD := af (hd.below hb);have H2 := af (h.below hb);have HA := af (aT.At_.new w a);have HK := af hk;have HF0 : Hid (∀ w', aT.At_ w' w.heap.size a -> w'.cell? ⟨w.heap.size, 0, none⟩ = some (.int .i64 1)) := af fun w' h => by rw [<- ha]; exact h.f0
 have HNN := af hN;have HNA := af (ye (x := x) hN);clear hb hd h ha hk hN;go_enter func11, ntmps11;go_upto_region 1 with (first | (refine au rfl (cy rfl rfl) ?_) | fail);generalize w.alloc (.cells a.C.toArray 38) = w1 at *;refine aY 2 ?_;refine ak1 (av rfl alb gV) ?_;refine ak1 (aA rfl alb (iU (HD.out.c3))) ?_;refine ak1 (lm underlying30 rfl alb evk) ?_;refine ah ?_;go_upto_region 3 with fail;refine ag ?_;refine ak1 (av rfl alb eu) ?_;refine ak1 (aA rfl alb (bm (HF0.out _ HA))) ?_;refine ah ?_;go_upto_region 4 with fail;refine ag ?_;refine ak1 (aN false rfl alb evk rfl) ?_;refine aQ 1 ?_;go_upto_region 11 with fail;refine ag ?_;refine ak1 (aN true rfl alb evk rfl) ?_;refine aQ 1 ?_;go_upto_region 12 with fail;refine bk (fun w' => db w' d q r (some ⟨p, 0, none⟩) (some ⟨s, 0, none⟩) /\ aT.At_ w' w.heap.size a) 12 (by kernel_rfl) ?_;change cu _ _ _ _ _ _ 13 _ _ w1.drew;have hb : Below w1.heap.size w1 w1.drew := bd ak;have HD_ := af (HD.out.below hb);have H2_ := af (H2.out.below hb);have HA_ := af (aT.At_.below HA (aR HA) hb);have HB_ := af (HB.out.trans (hb.mono HB.out.size));clear hb HD H2 HA HB;generalize w1.drew = wd12 at *;have HD := HD_;have H2 := H2_;have HA := HA_;have HB := HB_;clear HD_ H2_ HA_ HB_;refine ak5 0 rfl (fun _ hw => aB rfl alb) ⟨HD, HA⟩ ?_;refine ak5 1 rfl (fun _ hw => aM rfl alb) ⟨HD, HA⟩ ?_;refine ak5 2 rfl (fun _ hw => av rfl alb lG) ⟨HD, HA⟩ ?_;refine ak5 3 rfl (fun _ hw => aA rfl alb (n5 (hw.1.c2))) ⟨HD, HA⟩ ?_;refine ak5 4 rfl (fun _ hw => aB rfl alb) ⟨HD, HA⟩ ?_;refine ak5 5 rfl (fun _ hw => d7 rfl alb hw.2.range) ⟨HD, HA⟩ ?_;refine bT 6 rfl (by kernel_rfl) rfl (aC call48 rfl (evc alb (evc alb evn))) ?_;obtain ⟨v_, hg⟩ := H2.out.rlg;refine (pH a HD hg HK HNN).mono ?_;rintro e w2 ⟨rfl, hb⟩;have HD_ := af (HD.out.below hb);have H2_ := af (H2.out.below hb);have HA_ := af (aT.At_.below HA (aR HA) hb);have HB_ := af (HB.out.trans (hb.mono HB.out.size));clear hg HD H2 HA HB hb;refine ⟨_, rfl, fun _ => ⟨HD_, HA_⟩, ?_⟩;simp only [aa];refine bT 7 rfl (by kernel_rfl) rfl (aC call40 rfl (evc alb (evc alb evn))) ?_;refine (H2_.out.lat.ux _ HK HNA).mono ?_;rintro e w3 ⟨v12, rfl, hm, hb⟩;have HD := af (HD_.out.below hb);have H2 := af (H2_.out.below hb);have HA := af (aT.At_.below HA_ (aR HA_) hb);have HB := af (HB_.out.trans (hb.mono HB_.out.size));have HC := af hm;clear hm HD_ H2_ HA_ HB_ hb;refine ⟨_, rfl, fun _ => ⟨HD, HA⟩, ?_⟩;simp only [aa];refine ak5 8 rfl (fun _ hw => aB rfl alb) ⟨HD, HA⟩ ?_;refine ak5 9 rfl (fun _ hw => bx rfl alb rfl) ⟨HD, HA⟩ ?_;refine ak5 10 rfl (fun _ hw => bx rfl alb rfl) ⟨HD, HA⟩ ?_;refine ak5 11 rfl (fun _ hw => bu rfl alb) ⟨HD, HA⟩ ?_;refine bh 12 rfl (by kernel_rfl) rfl (bu rfl alb) (fun e => absurd rfl e) ?_;simp only [aa];refine bK (by kernel_rfl) ?_ _;go_upto_region 13 with fail;refine bk (fun w' => db w' d q r (some ⟨p, 0, none⟩) (some ⟨s, 0, none⟩) /\ aT.At_ w' w.heap.size a) 12 (by kernel_rfl) ?_;change cu _ _ _ _ _ _ 13 _ _ w3.drew;have hb : Below w3.heap.size w3 w3.drew := bd ak;have HD_ := af (HD.out.below hb);have H2_ := af (H2.out.below hb);have HA_ := af (aT.At_.below HA (aR HA) hb);have HB_ := af (HB.out.trans (hb.mono HB.out.size));have HC_ := af (HC.out.below hb);clear hb HD H2 HA HB HC;generalize w3.drew = wd13 at *;have HD := HD_;have H2 := H2_;have HA := HA_;have HB := HB_;have HC := HC_;clear HD_ H2_ HA_ HB_ HC_;refine ak5 0 rfl (fun _ hw => aB rfl alb) ⟨HD, HA⟩ ?_;refine ak5 1 rfl (fun _ hw => aM rfl alb) ⟨HD, HA⟩ ?_;refine ak5 2 rfl (fun _ hw => av rfl alb gV) ⟨HD, HA⟩ ?_;refine ak5 3 rfl (fun _ hw => aA rfl alb (iU (hw.1.c3))) ⟨HD, HA⟩ ?_;refine ak5 4 rfl (fun _ hw => aB rfl alb) ⟨HD, HA⟩ ?_;refine ak5 5 rfl (fun _ hw => d7 rfl alb hw.2.range) ⟨HD, HA⟩ ?_;refine bT 6 rfl (by kernel_rfl) rfl (aC call48 rfl (evc alb (evc alb evn))) ?_;obtain ⟨v_, hg⟩ := H2.out.rlg;refine (pH a HD hg HK HNN).mono ?_;rintro e w4 ⟨rfl, hb⟩;have HD_ := af (HD.out.below hb);have H2_ := af (H2.out.below hb);have HA_ := af (aT.At_.below HA (aR HA) hb);have HB_ := af (HB.out.trans (hb.mono HB.out.size));have HC_ := af (HC.out.below hb);clear hg HD H2 HA HB HC hb;refine ⟨_, rfl, fun _ => ⟨HD_, HA_⟩, ?_⟩;simp only [aa];refine bT 7 rfl (by kernel_rfl) rfl (aC call49 rfl (evc alb (evc alb evn))) ?_;refine (H2_.out.ux _ HK HNA).mono ?_;rintro e w5 ⟨v13, rfl, hm, hb⟩;have HD := af (HD_.out.below hb);have H2 := af (H2_.out.below hb);have HA := af (aT.At_.below HA_ (aR HA_) hb);have HB := af (HB_.out.trans (hb.mono HB_.out.size));have HE := af hm;have HC := af (HC_.out.below hb);clear hm HD_ H2_ HA_ HB_ HC_ hb;refine ⟨_, rfl, fun _ => ⟨HD, HA⟩, ?_⟩;simp only [aa];refine ak5 8 rfl (fun _ hw => aB rfl alb) ⟨HD, HA⟩ ?_;refine ak5 9 rfl (fun _ hw => bx rfl alb rfl) ⟨HD, HA⟩ ?_;refine ak5 10 rfl (fun _ hw => bx rfl alb rfl) ⟨HD, HA⟩ ?_;refine ak5 11 rfl (fun _ hw => bu rfl alb) ⟨HD, HA⟩ ?_;refine bh 12 rfl (by kernel_rfl) rfl (bu rfl alb) (fun e => absurd rfl e) ?_;simp only [aa];refine bK (by kernel_rfl) ?_ _;obtain ⟨Ac, cc, rfl, hrc, hcl, hcm⟩ := HC.out.open_ rfl;obtain ⟨Ad, cd, rfl, hrd, _, _⟩ := HE.out.open_ rfl;have HRC := af hrc;have HRD := af hrd;have HLC : Hid ((nr M x (uE x a)).length <= maxLen) := af (ap hcl hcm);clear HC HE hrc hrd hcl hcm;go_upto_region 14 with fail;refine aY 2 ?_;refine aD rfl (aC call42 rfl (evc alb (evc alb evn))) ?_;refine (nx Ac Ad _ _ cc cd _ _ _ _ HRC HRD aj HLC).mono ?_;rintro e w6 ⟨rfl, hb⟩;rw [ao rfl];have HB6 := af (HB.out.trans (hb.mono HB.out.size));clear hb;refine bp ?_;refine runs 3 ?_;refine ak8 (aN true rfl alb alb (beq_self_eq_true _)) ?_;refine aQ 2 ?_;go_wp2_with fail;go_ret;exact ⟨rfl, HB6⟩
end Go.Proofs.YtcpbekopbeaflaaGreatDoor
