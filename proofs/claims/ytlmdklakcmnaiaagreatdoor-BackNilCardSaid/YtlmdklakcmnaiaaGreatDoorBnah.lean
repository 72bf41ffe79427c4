import Derived.Test.YtlmdklakcmnaiaaGreatDoorBnag
namespace Go.Proofs.YtlmdklakcmnaiaaGreatDoor
set_option maxHeartbeats 8000000
open Go.Proofs.Tryz
open Go.RowKit
set_option linter.unusedVariables false
set_option linter.unusedSimpArgs false
set_option maxRecDepth 100000
def fM (t p q r y : Nat) : List Value := [.pointer (some ⟨t, 0, none⟩), .pointer (some ⟨p, 0, none⟩), .pointer (some ⟨q, 0, none⟩), .pointer (some ⟨r, 0, none⟩), .pointer (some ⟨y, 0, none⟩)]
def jG : List Value := [.pointer none, .pointer none, .pointer none, .pointer none, .pointer none]
theorem wG : (prog.info? 29).map (fun i => i.zero) = some (some (.agg jG.toArray)) := by kernel_rfl
theorem z7 (t p q r y : Nat) (w : World) : (Instr.build 29 #[(0, .pointer (some ⟨t, 0, none⟩)), (1, .pointer (some ⟨p, 0, none⟩)), (2, .pointer (some ⟨q, 0, none⟩)), (3, .pointer (some ⟨r, 0, none⟩)), (4, .pointer (some ⟨y, 0, none⟩))]).run prog w = .ok (.agg (fM t p q r y).toArray) w := by kernel_rfl
theorem vu {ρ : Operand -> Value} {o : Oper} {x1 x2 x3 x4 x5 : Operand} {w : World} {t p q r y : Nat} (ho : o.op = .build 29 #[(0, x1), (1, x2), (2, x3), (3, x4), (4, x5)]) (h1 : ρ x1 = .pointer (some ⟨t, 0, none⟩)) (h2 : ρ x2 = .pointer (some ⟨p, 0, none⟩)) (h3 : ρ x3 = .pointer (some ⟨q, 0, none⟩)) (h4 : ρ x4 = .pointer (some ⟨r, 0, none⟩)) (h5 : ρ x5 = .pointer (some ⟨y, 0, none⟩)) : (execOp ρ o).run prog w = .ok (.value (.agg (fM t p q r y).toArray)) w := by
 unfold execOp;simp only [ho, h1, h2, h3, h4, h5, List.map_toArray, List.map_cons, List.map_nil, Sem.run_bind, z7, Result.andThen_ok, Sem.run_pure]
theorem mq {t p q r y : Nat} : ∀ v ∈ fM t p q r y, v.oneCell' = true := by
 intro v hv;simp only [fM, List.mem_cons, List.not_mem_nil, or_false] at hv;rcases hv with rfl | rfl | rfl | rfl | rfl <;> rfl
theorem agh {fn : Func} {q u : Tmp} {t : TypeId} {cs : List Value} {d : TypeDesc} (h : fn.results = #[.cell q t, .tmp u]) (tmps : Array Value) (w : World) (b : Nat) (hq : tmps.getD q undef = .pointer (some ⟨b, 0, none⟩)) (hr : w.rangeAt b 0 cs) (hu : prog.underlying t = some d) (hd : d.isRow = true) (hz : (prog.info? t).map (·.size) = some cs.length) :
  (results fn tmps).run prog w = .ok (.tuple #[.agg cs.toArray, tmps.getD u undef]) w := by
 have hl : (loadVar t ⟨b, 0, none⟩).run prog w = .ok (.agg cs.toArray) w := run_loadVar_mid (P := prog) w b 0 t cs d hr hu hd hz;have hq' : tmps[q]?.getD undef = .pointer (some ⟨b, 0, none⟩) := by simpa using hq
 simp [results, h, hq', asAddr, hl]
theorem sN (C : eF) (D : ShI C) (a N : Nat) (w : World) (T : Tab w) (ha : a < 256) (hN : 3 + a % 4 = N) : Calls prog 5 #[.int .u8 (a : Int)] w fun e w' => ∃ t p q r y, e = .returned (.tuple #[.agg (fM t p q r y).toArray, .bool true]) /\ SAt C D w w.heap.size (fun _ => False) w' q p t 0 ⟨fe (szK N 6), 9, 0, neR N 6⟩ (ox N 6 6) := by
 have h1 : 3 <= N := by omega
 have h2 : N <= 16 := by omega
 have HT := ae T;have HN3 := ae h1;have HN := ae h2;have HRA : Hid ((a : Int).tmod 4 = ((a % 4 : Nat) : Int)) := ae rfl;have HCA : Hid (IntKind.i64.wrap ((a % 4 : Nat) : Int) = ((a % 4 : Nat) : Int)) := ae (eW (by omega));have HAA : Hid (IntKind.i64.wrap (3 + ((a % 4 : Nat) : Int)) = (N : Int)) := ae (by rw [eW (by omega)]; omega);have HOK := ae (af0 (N := N) (s := 6) h2 (by omega));have HNW := ae (age (N := N) (s := 6) h1 h2 (by omega));have HFN := ae (jO (N := N) (s := 6) h1 h2 (by omega) (by omega));have HH := ae (aek (N := N) (s := 6) h1 h2 (by omega) (ev := 0) (by omega));have HGB : Hid (dA (gx N 6 40) = true) := ae (by
  have hf := jO (N := N) (s := 6) h1 h2 (by omega) (by omega);unfold aU at hf;simp only [Bool.and_eq_true] at hf;exact hf.1.1.1)
 clear T h1 h2 ha hN;go_enter func5, ntmps5;go_upto_region 0 with fail;refine af ?_;refine ajB (c9 (cs := jG) wG rfl) ?_;have hbx := (Below.refl w.heap.size w).alloc aj (.cells jG.toArray 29);have HB1 := ae hbx;have HQ1 := ae (heap_alloc_new w (.cells jG.toArray 29));obtain ⟨bp, hbp⟩ : ∃ bp, w.heap.size = bp := ⟨_, rfl⟩;have HGP : Hid (w.heap.size <= bp) := ae (by rw [<- hbp]; exact aj);rw [hbp] at HQ1 ⊢;clear hbp hbx;generalize w.alloc (.cells jG.toArray 29) = w1 at *;refine aF 1 ?_;go_upto_region 1 with fail;refine aH 1 ?_;refine ajB (y6 rfl ajL evk (by decide) HRA) ?_;refine ajB (aca rfl ajL HCA) ?_;refine ajB (bL rfl evk ajL HAA) ?_;refine ajB (sJ rfl ajL evk evk) ?_;refine ajB (c9 (cs := [.int .i64 0, .int .i64 0, .int .i64 0]) agA rfl) ?_;refine aG rfl (fx (cs := dR (neR N 6)) (ds := [.int .i64 0, .int .i64 0, .int .i64 0]) (by kernel_rfl) rfl (by intro v hv; simp only [dR, List.mem_cons, List.not_mem_nil, or_false] at hv; rcases hv with rfl | rfl | rfl <;> rfl) rfl (ev rfl) (ev rfl)) ?_;simp only [aa];have hbx := (Below.refl w1.heap.size w1).alloc aj (.cells (dR (neR N 6)).toArray 51);have HB2 := ae (HB1.out.trans (hbx.mono HB1.out.size));have HQ2 := ae (aB HQ1 hbx);have HG2 := ae (heap_alloc_new w1 (.cells (dR (neR N 6)).toArray 51));obtain ⟨bg, hbg⟩ : ∃ bg, w1.heap.size = bg := ⟨_, rfl⟩;rw [hbg] at HG2 ⊢;clear hbg hbx;generalize w1.alloc (.cells (dR (neR N 6)).toArray 51) = w2 at *;refine ah ?_;go_upto_region 2 with fail;refine bU 1 ?_;go_upto_region 3 with fail;refine bU 1 ?_;go_wp2_with fail
 go_loopw [5, 6] (fun v z wr => ∃ i : Nat, z = .int .i64 i /\ i <= N /\ aO bN wr w.heap.size v (List.replicate i (2 + 6)) /\ Below w.heap.size w wr /\ wr.heap[bg]? = some (.cells (dR (neR N 6)).toArray 51 (0, 0)) /\ wr.heap[bp]? = some (.cells jG.toArray 29 (0, 0))) (fun _ z _ => N - (intOf z).toNat)
 case atStart => exact ⟨0, by go_num, Nat.zero_le _, aO.nil _ _, HB2, HG2, HQ2⟩
 case round =>
  obtain ⟨i, rfl, hi, hm, hb, hg, hq⟩ := hrel;have HM := ae hm;have HW := ae hb;have HG := ae hg;have HQ := ae hq;have HBS : Hid (w.heap.size <= wr.heap.size) := ae hb.size;clear hm hb hg hq;by_cases hlt : i < N
  ·have HI := ae hlt;have HLT : Hid (decide ((i : Int) < (N : Int)) = true) := ae (ao (by omega));have HA : Hid (IntKind.i64.wrap ((i : Int) + 1) = ((i + 1 : Nat) : Int)) := ae (by have := HN.out; rw [eW ⟨by omega, by omega⟩]; omega);have hsz : (wr.alloc (.cells #[.int .i64 8] 3)).heap.size = wr.heap.size + 1 := al;have hal := aB HG ((Below.refl wr.heap.size wr).alloc aj (.cells #[.int .i64 8] 3));have haq := aB HQ ((Below.refl wr.heap.size wr).alloc aj (.cells #[.int .i64 8] 3));obtain ⟨v2, w3, hrun, hm2, hg2⟩ := ge bN (wr.alloc (.cells #[.int .i64 8] 3)) 35 w.heap.size (wr.heap.size + 1) 1 1 u5 (List.replicate i (2 + 6)) [8] (some ⟨wr.heap.size, 0, none⟩) (aO.below HM (ak.alloc aj _)) (fI (E := bN) (l := [8]) wr #[.int .i64 8] 3 rfl) (by have := HBS.out; omega) (by have := HN.out; simp; omega);have HRUN := ae hrun;have HM3 : Hid (aO bN w3 w.heap.size v2 (List.replicate (i + 1) (2 + 6))) := ae (by rw [List.replicate_succ']; exact hm2);have HW3 : Hid (Below w.heap.size w w3) := ae ((HW.out.trans (ak.alloc HBS _)).grown hg2 (by have := HBS.out; omega) (fun j' hj' => HM.out.gW j' hj'));have HG3 : Hid (w3.heap[bg]? = some (.cells (dR (neR N 6)).toArray 51 (0, 0))) := ae ((hg2.block bg (aT hal) (fun e => (aO.eZ (aO.below HM (ak.alloc aj (.cells #[.int .i64 8] 3))) hal (by decide)) e.symm)).trans hal);have HQ3 : Hid (w3.heap[bp]? = some (.cells jG.toArray 29 (0, 0))) := ae ((hg2.block bp (aT haq) (fun e => (aO.eZ (aO.below HM (ak.alloc aj (.cells #[.int .i64 8] 3))) haq (by decide)) e.symm)).trans haq);clear hi hlt hsz hrun hm2 hg2 hal haq;go_upto_region 4 with fail;refine aH 1 ?_;refine ajB (ax rfl ajL ov) ?_;refine ajB (aC rfl ajL (bY (k := (N : Int)) ((aP HG) 0 _ rfl))) ?_;refine ajB (aZ true rfl ajL ajL HLT) ?_;refine ah ?_;go_upto_region 6 with fail;refine aH 1 ?_;refine ajB (el (E := bN) (a := 8) rfl evk rfl (by decide)) ?_;refine ajB (gI (E := bN) rfl ajL ajL HRUN) ?_;refine aF 1 ?_;go_upto_region 5 with fail;refine aH 1 ?_;refine ajB (bL rfl ajL evk HA) ?_;refine aF 1 ?_;go_wp2_with fail;go_roundw
   case rel => exact ⟨i + 1, by go_num, HI, HM3, HW3, HG3, HQ3⟩
   case measure => have := HI.out; simp [intOf]; omega
  have hin : i = N := by omega
  subst hin;have HLT : Hid (decide ((i : Int) < (i : Int)) = false) := ae (am (by omega));have hsz : (wr.alloc (.cells #[.int .i64 50] 3)).heap.size = wr.heap.size + 1 := al;have hal := aB HG ((Below.refl wr.heap.size wr).alloc aj (.cells #[.int .i64 50] 3));have haq := aB HQ ((Below.refl wr.heap.size wr).alloc aj (.cells #[.int .i64 50] 3));obtain ⟨v2, w3, hrun, hm2, hg2⟩ := ge bN (wr.alloc (.cells #[.int .i64 50] 3)) 35 w.heap.size (wr.heap.size + 1) 1 1 u5 (List.replicate i (2 + 6)) [50] (some ⟨wr.heap.size, 0, none⟩) (aO.below HM (ak.alloc aj _)) (fI (E := bN) (l := [50]) wr #[.int .i64 50] 3 rfl) (by have := HBS.out; omega) (by have := HN.out; simp; omega);have HRUN := ae hrun;have HM3 : Hid (aO bN w3 w.heap.size v2 (szK i 6)) := ae hm2;have HW3 : Hid (Below w.heap.size w w3) := ae ((HW.out.trans (ak.alloc HBS _)).grown hg2 (by have := HBS.out; omega) (fun j' hj' => HM.out.gW j' hj'));have HG3 : Hid (w3.heap[bg]? = some (.cells (dR (neR i 6)).toArray 51 (0, 0))) := ae ((hg2.block bg (aT hal) (fun e => (aO.eZ (aO.below HM (ak.alloc aj (.cells #[.int .i64 50] 3))) hal (by decide)) e.symm)).trans hal);have HQ3 : Hid (w3.heap[bp]? = some (.cells jG.toArray 29 (0, 0))) := ae ((hg2.block bp (aT haq) (fun e => (aO.eZ (aO.below HM (ak.alloc aj (.cells #[.int .i64 50] 3))) haq (by decide)) e.symm)).trans haq);clear hi hlt hsz hrun hm2 hg2 hal haq;go_upto_region 4 with fail;refine aH 1 ?_;refine ajB (ax rfl ajL ov) ?_;refine ajB (aC rfl ajL (bY (k := (i : Int)) ((aP HG) 0 _ rfl))) ?_;refine ajB (aZ false rfl ajL ajL HLT) ?_;refine ah ?_;go_upto_region 7 with fail;refine aH 1 ?_;refine ajB (el (E := bN) (a := 50) rfl evk rfl (by decide)) ?_;refine ajB (gI (E := bN) rfl ajL ajL HRUN) ?_;refine aF 1 ?_;obtain ⟨A2, c2, rfl, e21, e22⟩ := HM3.out.form;have HR3 := ae HM3.out.rd;have HC2 := ae (And.intro e21 e22);have HB3 := ae HW3;have HS3 : Hid (w3.heap.size <= w3.heap.size) := ae aj;have HPL : Hid (bp < w3.heap.size) := ae (aT HQ3);clear e21 e22;go_upto_region 8 with fail;refine aH 1 ?_;refine aw rfl (aA call14 rfl (evc ajL evn)) ?_;refine (C.R.new HR3 HC2.out.1 HC2.out.2).mono ?_;rintro e w4 ⟨b4, h4⟩;obtain ⟨_, q, F, rfl, n4, f4⟩ | ⟨h4, _⟩ := h4;rotate_left 1
  ·exact absurd HOK h4
  have HB4 := ae (HB3.out.trans (b4.mono HB3.out.size));have HQ4 := ae (aB HQ3 b4);have HG4 := ae (aB HG3 b4);have HS4 := ae (aq HS3 b4.size);have HN4 := ae n4;have HF4 : Hid (∀ b, F b -> w3.heap.size <= b) := ae f4;have HFL : Hid (∀ b, F b -> b < w4.heap.size) := ae fun b hb => C.R.toBen.lt n4 b hb
  have HR4 := ae (HM3.out.below b4).rd;clear b4 n4 f4;refine aQ ?_;refine runs 3 ?_;refine aF 2 ?_;go_upto_region 9 with fail;refine aH 1 ?_;refine aw rfl (aA call15 rfl (evc ajL evn)) ?_;refine (dD.new HR4 HC2.out.1 HC2.out.2).mono ?_;rintro e w5 ⟨b5, h5⟩;obtain ⟨_, q5, F5, rfl, n5, f5⟩ | ⟨h5, _⟩ := h5;rotate_left 1
  ·exact absurd HOK h5
  have HB5 := ae (HB4.out.trans (b5.mono HB4.out.size));have HQ5 := ae (aB HQ4 b5);have HG5 := ae (aB HG4 b5);have HS5 := ae (aq HS4 b5.size);have HN5 := ae (C.R.toBen.below HN4 b5);have HD5 := ae n5;clear b5 n5 f5;refine aQ ?_;refine runs 3 ?_;refine aF 2 ?_;go_upto_region 10 with fail;refine af ?_;refine ajB (dd (c := neR i 6) rfl ajL (aP HG5)) ?_;refine aw rfl (aA call16 rfl (evc ajL evn)) ?_;refine (ag8 (x := neR i 6) (w := w5) HNW.out.1 HNW.out.2).mono ?_;rintro e w6 ⟨rfl, b6⟩;have HB6 := ae (HB5.out.trans (b6.mono HB5.out.size));have HQ6 := ae (aB HQ5 b6);have HG6 := ae (aB HG5 b6);have HS6 := ae (aq HS5 b6.size);have HN6 := ae (C.R.toBen.below HN5 b6);have HD6 := ae (dD.below HD5 b6);clear b6;refine aQ ?_;refine runs 3 ?_;refine ajB (cJ rfl) ?_;refine aG rfl (lc rfl (ev rfl) (ev rfl)) ?_;simp only [aa];have hx := (Below.refl w6.heap.size w6).alloc aj (.cells (aX (neR i 6)).toArray 58);have HB7 := ae (HB6.out.trans (hx.mono HB6.out.size));have HQ7 := ae (aB HQ6 hx);have HG7 := ae (aB HG6 hx);have HS7 := ae (aq HS6 hx.size);have HN7 := ae (C.R.toBen.below HN6 hx);have HD7 := ae (dD.below HD6 hx);have HX7 := ae (bD.new w6 (neR i 6));clear hx;obtain ⟨qx, hqx⟩ : ∃ qx, w6.heap.size = qx := ⟨_, rfl⟩;rw [hqx] at HX7 ⊢;clear hqx;generalize w6.alloc (.cells (aX (neR i 6)).toArray 58) = w7 at *;refine aF 1 ?_;go_upto_region 11 with fail;refine aH 1 ?_;refine ajB (aJ false rfl ajL evk rfl) ?_;refine runs 2 ?_;refine ajI (aJ false rfl ajL evk rfl) ?_;refine runs 3 ?_;refine ajI (aJ false rfl ajL evk rfl) ?_;refine aF 1 ?_;go_upto_region 13 with fail;refine aH 1 ?_;refine ajB (bf rfl ajL HX7.out.range) ?_;refine aw rfl (aA call17 rfl (evc ajL (evc evk (evc evk (evc ajL evn))))) ?_;refine (C.new_ 9 0 (neR i 6) (by omega) (by omega) HN7).mono ?_;rintro e w8 ⟨b8, h8⟩;obtain ⟨_, p, G, rfl, j8, g8⟩ | ⟨h8, _⟩ := h8;rotate_left 1
  ·exact absurd (HH.out.symm.trans h8) (by decide)
  have HB8 := ae (HB7.out.trans (b8.mono HB7.out.size));have HQ8 := ae (aB HQ7 b8);have HG8 := ae (aB HG7 b8);have HS8 := ae (aq HS7 b8.size);have HX8 := ae (HX7.out.below (aT HX7) b8);have HD8 := ae (dD.below HD7 b8);have HJ8 := ae j8;have HGG : Hid (∀ b, G b -> w3.heap.size <= b /\ b < w8.heap.size) := ae fun b hb => by
   refine ⟨?_, C.lt j8 b hb⟩;rcases g8 b hb with e | e
   ·exact HF4.out b e
   ·exact aq HS7 e
  clear b8 j8 g8;refine aQ ?_;refine runs 3 ?_;refine aF 2 ?_;go_upto_region 14 with fail;refine aH 1 ?_;refine ajB (bf rfl ajL HX8.out.range) ?_;refine aw rfl (aA call18 rfl (evc ajL (evc evk (evc evk (evc ajL evn))))) ?_;refine (ahZ 9 0 (neR i 6) w8 HD8).mono ?_;rintro e w9 ⟨b9, h9⟩;obtain ⟨_, p2, rfl, j9, g9⟩ | ⟨h9, _⟩ := h9;rotate_left 1
  ·exact absurd (HH.out.symm.trans h9) (by decide)
  have HB9 := ae (HB8.out.trans (b9.mono HB8.out.size));have HQ9 := ae (aB HQ8 b9);have HG9 := ae (aB HG8 b9);have HS9 := ae (aq HS8 b9.size);have HJ9 := ae (C.below HJ8 b9);have HS89 := ae b9.size;clear b9 j9 g9;refine aQ ?_;refine runs 3 ?_;refine aF 2 ?_;go_upto_region 15 with fail;refine af ?_;refine ajB (dd (c := neR i 6) rfl ajL (aP HG9)) ?_;refine aw rfl (aA call19 rfl (evc ajL (evc evk evn))) ?_;refine (D.new_ok (N := i) (T := 6) (room := 6) (r := 40) w9 HGB (by omega) (by omega)).mono ?_;rintro e w10 ⟨t, S, rfl, p10, b10, s10⟩;have HB10 := ae (HB9.out.trans (b10.mono HB9.out.size));have HQ10 := ae (aB HQ9 b10);have HG10 := ae (aB HG9 b10);have HS10 := ae (aq HS9 b10.size);have HJ10 := ae (C.below HJ9 b10);have HP10 := ae p10;have HSS := ae s10;clear p10 b10 s10;refine aQ ?_;refine runs 3 ?_;refine aF 2 ?_;go_upto_region 16 with fail;refine af ?_;refine ajB (dd (c := neR i 6) rfl ajL (aP HG10)) ?_;refine aw rfl (aA call20 rfl (evc ajL (evc evk evn))) ?_;refine (y7 (N := i) (T := 6) (room := 6) (r := 40) w10 HGB (by omega) (by omega)).mono ?_;rintro e w11 ⟨r, S2, rfl, _, b11, _⟩;have HB11 := ae (HB10.out.trans (b11.mono HB10.out.size));have HQ11 := ae (aB HQ10 b11);have HG11 := ae (aB HG10 b11);have HS11 := ae (aq HS10 b11.size);have HJ11 := ae (C.below HJ10 b11);have HP11 := ae (D.below HP10 b11);clear b11;refine aQ ?_;refine runs 3 ?_;refine aF 2 ?_;have ha := SAt.start (O := fun b => b = bp) HT HJ11 HP11 (fun b hb => aq HB3.out.size (HGG.out b hb).1) (fun b hb => aq HB9.out.size (HSS.out b hb)) (fun b hb hs => by have h1 := (HGG.out b hb).2; have h2 := HSS.out b hs; have h3 := HS89.out; omega) HB11 (fun b hb => by
   subst hb;have h1 := HPL.out;exact ⟨fun hg => by have := (HGG.out b hg).1; omega, fun hs => by have h2 := HSS.out b hs; have h3 := aT HQ9; omega, aT HQ11⟩)
  have hth := dQ HQ11 (o := 0) (n := 5) (by decide);have HSA := ae (ha.mine (g := bp) rfl HGP ((Only.refl (fun b => b = bp) w11).setCells (b := bp) (.inl rfl) (fM t p q r p2) 0));have HRG := ae (World.rangeAt_setCells_same w11 bp 0 (fM t p q r p2) hth);have HTH := ae hth;clear ha hth;go_upto_region 17 with fail;refine aH 3 ?_;refine runs 2 ?_;refine ajB (vu rfl ajL ajL ajL ajL ajL) ?_;refine runs 1 ?_;refine ajB (aE true rfl ajL evk rfl) ?_;refine runs 2 ?_;refine ajI (aE true rfl ajL evk rfl) ?_;refine runs 3 ?_;refine ajI (aE true rfl ajL evk rfl) ?_;refine runs 3 ?_;refine ajI (aE true rfl ajL evk rfl) ?_;refine runs 1 ?_;refine aG rfl (fR (cs := fM t p q r p2) (by kernel_rfl) mq rfl (ev rfl) (ev rfl) HTH.out) ?_;simp only [aa];generalize w11.setCells bp 0 (fM t p q r p2) = w12 at *;refine aF 1 ?_;go_wp2_with fail;exact bodyPost_ret (agh rfl _ _ _ rfl HRG underlying29 rfl (by kernel_rfl)) rfl ⟨t, p, q, r, p2, rfl, HSA.out.guard ak fun b e => e.elim⟩
def mM (h : HuS) (m : Nat) : Int := if ez h.M m = 9 then (if nh h m 7 = 8 then 8 else 0) else (if ez h.M m = 8 then 8 else 0)
def ii (h : HuS) (m : Nat) : HuS := if ez h.M m = 9 then mm h m else { h with M := fC h.M m }
def mb : Nat -> Nat -> HuS -> Int × HuS
 |0, _, h => (0, h)
 |k + 1, m, h => if sta h.R m = 1 then mb k (m + 1) h else if mM h m = 0 then mb k (m + 1) (ii h m) else (mM h m, ii h m)
def kI (h : HuS) : Int × HuS := mb h.R.m.toNat 0 h
def oI (h : HuS) : Int := if ey h.R = true then 16 else if (kI h).1 = 0 then (if ey (kI h).2.R = true then 16 else 0) else (kI h).1
def iK (h : HuS) : HuS := if ey h.R = true then h else (kI h).2
def aeL (h : HuS) (m : Nat) : Prop := ez h.M m = 9 -> fJ (ko h m) = 0
def pR : Nat -> Nat -> HuS -> Prop
 |0, _, _ => True
 |k + 1, m, h => (sta h.R m = 1 -> pR k (m + 1) h) /\ (sta h.R m ≠ 1 -> HRm h /\ aeL h m /\ (mM h m = 0 -> pR k (m + 1) (ii h m)))
section
variable {h : HuS} {k m : Nat}
theorem HR.fls (h' : HR (k + 1) h) (hm : m < h.R.m.toNat) : HR k (ii h m) /\ fg h.R (ii h m).R /\ (ii h m).id = h.id := by
 unfold ii
 split
 ·exact h'.ded m
 ·exact ⟨⟨yq (cG h'.rm (by omega)) _, by have := h'.ev; show h.ev + _ <= _; omega, h'.fine, h'.lit.keep (xM h'.lit.left h'.lit.co (by have := h'.lit.len; omega)) rfl⟩, fg.refl h'.fine, rfl⟩
theorem HR.aiS (h' : HR k h) (m : Nat) : aeL h m := fun _ => (pW (h := ko h m) (fg.los h'.fine (m : Int)).fine (h'.lit.keep (iL.refl _) (fg.los h'.fine (m : Int)).m)).1
theorem ol : ∀ (n m : Nat) (h : HuS), m + n = h.R.m.toNat -> HR (k + n) h -> pR n m h /\ HR k (mb n m h).2 /\ fg h.R (mb n m h).2.R /\ (mb n m h).2.id = h.id
 |0, m, h, _, h' => ⟨trivial, h', fg.refl h'.fine, rfl⟩
 |n + 1, m, h, hn, h' => by
  rw [mb, pR];by_cases e : sta h.R m = 1
  ·rw [if_pos e];obtain ⟨j1, j2⟩ := ol n (m + 1) h (by omega) (h'.less (by omega));exact ⟨⟨fun _ => j1, fun x => absurd e x⟩, j2⟩
  ·rw [if_neg e];obtain ⟨k1, k2, k3⟩ := HR.fls (k := k + n) h' (m := m) (by omega);by_cases e2 : mM h m = 0
   ·rw [if_pos e2];obtain ⟨j1, j2, j3, j4⟩ := ol n (m + 1) (ii h m) (by rw [k2.m]; omega) k1;exact ⟨⟨fun x => absurd x e, fun _ => ⟨HR.hrm (k := k + n) h', HR.aiS h' m, fun _ => j1⟩⟩, j2, k2.trans j3, j4.trans k3⟩
   ·rw [if_neg e2];exact ⟨⟨fun x => absurd x e, fun _ => ⟨HR.hrm (k := k + n) h', HR.aiS h' m, fun x => absurd x e2⟩⟩, k1.less (by omega), k2, k3⟩
theorem HR.hfl (h' : HR (k + 16) h) : pR h.R.m.toNat 0 h /\ HR k (iK h) /\ fg h.R (iK h).R /\ (iK h).id = h.id := by
 have hm := lg h'.fine;obtain ⟨j1, j2⟩ := ol (k := k) h.R.m.toNat 0 h (by omega) (h'.less (by omega));refine ⟨j1, ?_⟩;unfold iK
 split
 ·exact ⟨h'.less (by omega), fg.refl h'.fine, rfl⟩
 ·exact j2
end
def ajs (x : i6) (n : Nat) : Blk := gk x.L (n : Int) (x.S.getD n aI)
def vwM (M : aV) (j n : Nat) : Blk := ajs (M.ds.getD j bI) n
def suM (M : aV) (j n : Nat) : Blk := (M.ds.getD j bI).S.getD n aI
theorem tz : ∀ (L : List (Int × Blk)) (S : List Blk) (n : Nat), (∀ q ∈ L, 0 <= q.1) -> n < S.length -> (flS S L).getD n aI = gk L (n : Int) (S.getD n aI)
 |[], S, n, _, _ => rfl
 |q :: L, S, n, hq, hn => by
  have h0 := hq q (List.mem_cons_self ..);have e : flS S (q :: L) = flS (S.set q.1.toNat q.2) L := rfl;have e2 : gk (q :: L) (n : Int) (S.getD n aI) = gk L (n : Int) (if q.1 = (n : Int) then q.2 else S.getD n aI) := rfl;rw [e, e2, tz L _ n (fun x hx => hq x (List.mem_cons_of_mem _ hx)) (by rw [List.length_set]; exact hn)]
  congr 1
  by_cases hk : q.1.toNat < S.length
  ·rw [afs _ _ _ _ _ hk];by_cases e3 : n = q.1.toNat
   ·rw [if_pos e3, if_pos (by omega)]
   ·rw [if_neg e3, if_neg (by omega)]
  ·rw [List.set_eq_of_length_le (by omega), if_neg (by omega)]
theorem wb (L : List (Int × Blk)) (q : Int × Blk) (n : Int) (b : Blk) : gk (L ++ [q]) n b = if q.1 = n then q.2 else gk L n b := by
 unfold gk;rw [List.foldl_append]
 rfl
structure Alv (M : aV) (m : Nat) : Prop where
 co : M.co = false
 left : M.left = 0
 lt : m < M.ds.length
 g : (M.ds.getD m bI).g = false
 lo : ∀ q ∈ (M.ds.getD m bI).L, 0 <= q.1
structure Kp (M M' : aV) : Prop where
 co : M'.co = M.co
 left : M.left = 0 -> M'.left = 0
 len : M'.ds.length = M.ds.length
 sl : ∀ j, (M'.ds.getD j bI).S.length = (M.ds.getD j bI).S.length
 gs : ∀ j, (M'.ds.getD j bI).g = (M.ds.getD j bI).g
 lo : ∀ j, (∀ q ∈ (M.ds.getD j bI).L, 0 <= q.1) -> ∀ q ∈ (M'.ds.getD j bI).L, 0 <= q.1
 tel : ∀ j n, 2 <= n -> n < (M.ds.getD j bI).S.length -> (∀ q ∈ (M.ds.getD j bI).L, 0 <= q.1) -> vwM M' j n = vwM M j n /\ (suM M j n = vwM M j n -> suM M' j n = vwM M j n)
section
variable {M M' M3 : aV} {m j n id ev : Nat} {R : Ros} {b : Blk} {h : HuS} {d : Nat}
theorem Kp.refl (M : aV) : Kp M M := ⟨rfl, fun e => e, rfl, fun _ => rfl, fun _ => rfl, fun _ e => e, fun _ _ _ _ _ => ⟨rfl, fun e => e⟩⟩
theorem Kp.trans (h : Kp M M') (g : Kp M' M3) : Kp M M3 := by
 refine ⟨g.co.trans h.co, fun e => g.left (h.left e), g.len.trans h.len, fun j => (g.sl j).trans (h.sl j), fun j => (g.gs j).trans (h.gs j), fun j e => g.lo j (h.lo j e), fun j n h2 hn hl => ?_⟩;obtain ⟨a1, a2⟩ := h.tel j n h2 hn hl;obtain ⟨b1, b2⟩ := g.tel j n h2 (by rw [h.sl j]; exact hn) (h.lo j hl);refine ⟨b1.trans a1, fun e => ?_⟩;rw [<- a1];exact b2 (by rw [a1]; exact a2 e)
theorem Alv.keep (a : Alv M m) (k : Kp M M') : Alv M' m := ⟨k.co.trans a.co, k.left a.left, by rw [k.len]; exact a.lt, (k.gs m).trans a.g, k.lo m a.lo⟩
theorem Alv.rd (a : Alv M m) (hn : n < (M.ds.getD m bI).S.length) : di M m n = 0 := by
 rw [mz a.co a.lt hn, a.g]
 rfl
theorem eB (M : aV) (x : i6) (hm : m < M.ds.length) (j : Nat) : (M.done.put m x).ds.getD j bI = if j = m then x else M.ds.getD j bI := afs _ _ _ _ _ hm
theorem Alv.wr (a : Alv M m) (hn : n < (M.ds.getD m bI).S.length) (b : Blk) : ex M m n = 0 /\ dP M m n b = M.done.put m ⟨(M.ds.getD m bI).S, (M.ds.getD m bI).L ++ [((n : Int), b)], false⟩ := by
 have r := a.rd hn;have hs : M.fc = 0 := by unfold aV.fc; rw [a.left]; rfl
 constructor
 ·unfold ex; rw [if_pos r, hs]
 ·unfold dP;rw [if_pos r, if_neg (by rw [a.left]; omega)]
  show M.done.put m ⟨(M.ds.getD m bI).S, wrL (M.ds.getD m bI).S (M.ds.getD m bI).L (M.ds.getD m bI).g (n : Int) b, (M.ds.getD m bI).g⟩ = _
  rw [a.g];unfold wrL;rw [if_pos (l7 ⟨by omega, by omega⟩)]
theorem Alv.fl (a : Alv M m) : ez M m = 0 /\ fC M m = M.done.put m ⟨flS (M.ds.getD m bI).S (M.ds.getD m bI).L, [], false⟩ := by
 have r : iH M m = 0 := by
  unfold iH;rw [if_pos (lL a.co a.lt)]
  show (if (M.ds.getD m bI).g = true then (9 : Int) else 0) = 0
  rw [a.g]
  rfl
 have hs : M.fc = 0 := by unfold aV.fc; rw [a.left]; rfl
 constructor
 ·unfold ez; rw [if_pos r, hs]
 ·unfold fC;rw [if_pos r, if_neg (by rw [a.left]; omega)]
  show M.done.put m ⟨flS (M.ds.getD m bI).S (M.ds.getD m bI).L, [], (M.ds.getD m bI).g⟩ = _
  rw [a.g]
theorem Alv.afy (a : Alv M m) (hn : n < (M.ds.getD m bI).S.length) (b : Blk) (j k : Nat) : vwM (dP M m n b) j k = if j = m /\ k = n then b else vwM M j k := by
 unfold vwM;rw [(a.wr hn b).2, eB M _ a.lt j];by_cases e : j = m
 ·subst e;rw [if_pos rfl]
  show gk (_ ++ [((n : Int), b)]) (k : Int) _ = _
  rw [wb];by_cases e2 : k = n
  ·subst e2; rw [if_pos rfl, if_pos ⟨rfl, rfl⟩]
  ·rw [if_neg (by show ¬ (n : Int) = k; omega), if_neg fun x => e2 x.2]; rfl
 ·rw [if_neg e, if_neg fun x => e x.1]
theorem Alv.aip (a : Alv M m) (hn : n < (M.ds.getD m bI).S.length) (h2 : n < 2) (b : Blk) : Kp M (dP M m n b) := by
 have e := (a.wr hn b).2;refine ⟨?_, fun _ => ?_, ?_, fun j => ?_, fun j => ?_, fun j hl => ?_, fun j k hk _ _ => ?_⟩
 ·rw [e]; rfl
 ·rw [e]; show M.left - 1 = 0; rw [a.left]
 ·rw [e]; exact List.length_set
 ·rw [e, eB M _ a.lt j]; split
  ·rename_i x; subst x; rfl
  ·rfl
 ·rw [e, eB M _ a.lt j]; split
  ·rename_i x; subst x; exact a.g.symm
  ·rfl
 ·rw [e, eB M _ a.lt j]; split
  ·rename_i x; subst x
   intro q hq;rcases List.mem_append.1 hq with y | y
   ·exact hl q y
   ·rw [List.mem_singleton.1 y]; show (0 : Int) <= (n : Int); omega
  ·exact hl
 ·refine ⟨?_, fun x => ?_⟩
  ·rw [a.afy hn b j k, if_neg fun x => by omega]
  ·rw [<- x]; unfold suM; rw [e, eB M _ a.lt j]; split
   ·rename_i y; subst y; rfl
   ·rfl
theorem Alv.afP (a : Alv M m) : Kp M (fC M m) /\ ∀ k, k < (M.ds.getD m bI).S.length -> suM (fC M m) m k = vwM M m k := by
 have e := a.fl.2;have hv : ∀ k, k < (M.ds.getD m bI).S.length -> suM (fC M m) m k = vwM M m k := fun k hk => by
  unfold suM;rw [e, eB M _ a.lt m, if_pos rfl];exact tz _ _ k a.lo hk
 refine ⟨⟨?_, fun _ => ?_, ?_, fun j => ?_, fun j => ?_, fun j hl => ?_, fun j k hk hn hl => ?_⟩, hv⟩
 ·rw [e]; rfl
 ·rw [e]; show M.left - 1 = 0; rw [a.left]
 ·rw [e]; exact List.length_set
 ·rw [e, eB M _ a.lt j]; split
  ·rename_i x; subst x; exact nF _ _
  ·rfl
 ·rw [e, eB M _ a.lt j]; split
  ·rename_i x; subst x; exact a.g.symm
  ·rfl
 ·rw [e, eB M _ a.lt j]; split
  ·intro q hq; cases hq
  ·exact hl
 ·by_cases x : j = m
  ·subst x;refine ⟨?_, fun _ => hv k hn⟩;rw [<- hv k hn];unfold vwM suM;rw [e, eB M _ a.lt j, if_pos rfl]
   rfl
  ·have e3 : (fC M m).ds.getD j bI = M.ds.getD j bI := by rw [e, eB M _ a.lt j, if_neg x]
   unfold vwM suM;rw [e3];exact ⟨rfl, fun y => y⟩
theorem Alv.put (a : Alv M m) (h2 : 2 <= (M.ds.getD m bI).S.length) : dy id ev R M m = 0 /\ Kp M (dV id ev R M m) := by
 have r0 : di M m 0 = 0 := a.rd (n := 0) (by omega);have r1 : di M m 1 = 0 := a.rd (n := 1) (by omega);have hl := ab2 (gq M m 0) (gq M m 1);obtain ⟨n, hn⟩ : ∃ n, mo (gq M m 0) (gq M m 1) = n := ⟨_, rfl⟩;rw [hn] at hl;have hT : sI id ev R M m = [.wr (n : Int) (gi ev ⟨id, m, R⟩), .fl] := by unfold sI; rw [hn]
 have k1 := a.aip (n := n) (by omega) hl (gi ev ⟨id, m, R⟩);have a1 := a.keep k1;have e1 : rF m M (.wr (n : Int) (gi ev ⟨id, m, R⟩)) = 0 := (a.wr (n := n) (by omega) aI).1;have e2 : rF m (sr m M (.wr (n : Int) (gi ev ⟨id, m, R⟩))) .fl = 0 := a1.fl.1
 constructor
 ·unfold dy;rw [if_pos r0, if_pos r1, hT, (go_ok e1).1, (go_ok e2).1]
  rfl
 ·unfold dV;rw [if_pos ⟨r0, r1⟩, hT, (go_ok e1).2, (go_ok e2).2];exact k1.trans a1.afP.1
theorem rH : ∀ (k m : Nat) (M : aV), (∀ j, m <= j -> j < m + k -> sta R j ≠ 1 -> Alv M j /\ 2 <= (M.ds.getD j bI).S.length) -> ∃ M', de id ev R k m M = (none, 0, M') /\ Kp M M'
 |0, m, M, _ => ⟨M, rfl, Kp.refl M⟩
 |k + 1, m, M, h => by
  by_cases e : sta R m = 1
  ·obtain ⟨M', h1, h2⟩ := rH k (m + 1) M fun j a b => h j (by omega) (by omega)
   exact ⟨M', by rw [oQ e]; exact h1, h2⟩
  ·obtain ⟨a, l⟩ := h m aj (by omega) e;obtain ⟨p1, p2⟩ := a.put (id := id) (ev := ev) (R := R) l;obtain ⟨M', h1, h2⟩ := rH k (m + 1) (dV id ev R M m) fun j x y z => by
    obtain ⟨b1, b2⟩ := h j (by omega) (by omega) z;exact ⟨b1.keep p2, by rw [p2.sl j]; exact b2⟩
   exact ⟨M', by rw [nY e p1]; exact h1, p2.trans h2⟩
theorem adC (h : HuS) (hl : ∀ j, j < h.R.m.toNat -> sta h.R j ≠ 1 -> Alv h.M j /\ 2 <= (h.M.ds.getD j bI).S.length) : fJ h = 0 /\ ∃ M', fa h = ⟨M', h.id, h.ev + 1, h.R⟩ /\ Kp h.M M' := by
 obtain ⟨M', h1, h2⟩ := rH (id := h.id) (ev := h.ev + 1) (R := h.R) h.R.m.toNat 0 h.M fun j _ b => hl j (by omega)
 unfold fJ fa;rw [eV];simp only [h1];exact ⟨trivial, M', rfl, h2⟩
end
structure Lif (d N T : Nat) (h : HuS) : Prop where
 fine : aU h.R = true
 m : h.R.m = (N : Int)
 s : h.R.s = (T : Int)
 co : h.M.co = false
 left : h.M.left = 0
 len : N < h.M.ds.length
 sec : ∀ j, j < N -> (h.M.ds.getD j bI).S.length = 2 + T
 lo : ∀ j, j < N -> ∀ q ∈ (h.M.ds.getD j bI).L, 0 <= q.1
 g : ∀ j, j < N -> j ≠ d -> (h.M.ds.getD j bI).g = false
 st : ∀ j, j < N -> j ≠ d -> sta h.R j = 0
 sd : d < N -> sta h.R d = 0 \/ sta h.R d = 1
 gone : h.R.gone = false
theorem uK {l : List UInt8} {d : Nat} : ∀ {k : Nat}, (∀ j, j < k -> j ≠ d -> (bt l j : Int) = 0) -> si l k <= if d < k then 1 else 0
 |0, _ => by rw [if_neg (by omega)]; exact Nat.le_refl 0
 |k + 1, h => by
  rw [mg];have ih := uK (k := k) fun j hj hd => h j (by omega) hd
  by_cases e : k = d
  ·subst e;rw [if_neg (by omega)] at ih;rw [if_pos (show k < k + 1 by omega)]
   split <;> omega
  ·rw [if_pos (show bt l k = 0 from by have := h k (by omega) e; omega)]
   split at ih
   ·rw [if_pos (show d < k + 1 by omega)]; omega
   ·split <;> omega
theorem aaX (R : Ros) (j : Int) : (dG R j).gone = R.gone := by unfold dG; split <;> (try split) <;> rfl
section
variable {d N T j n s m : Nat} {h h' : HuS} {b : Blk} {M' : aV}
theorem Lif.mN (a : Lif d N T h) : h.R.m.toNat = N := by rw [a.m]; rfl
theorem Lif.fai (a : Lif d N T h) : ey h.R = false := by
 have ho : outs h.R <= 1 := by
  rw [<- abJ a.fine, a.mN];refine aq (uK (d := d) fun j hj hd => a.st j hj hd) ?_
  split <;> omega
 unfold ey;rw [decide_eq_false_iff_not];intro e;unfold stN at e;rw [if_pos a.fine, if_neg (by rw [a.gone]; rintro (x | ⟨_, x⟩); omega; cases x)] at e
 split at e
 ·omega
 ·split at e
  ·omega
  ·split at e <;> omega
theorem Lif.alv (a : Lif d N T h) (hj : j < N) (hg : (h.M.ds.getD j bI).g = false) : Alv h.M j := ⟨a.co, a.left, Nat.lt_trans hj a.len, hg, a.lo j hj⟩
theorem Lif.keep (a : Lif d N T h) (k : Kp h.M M') : Lif d N T { h with M := M' } :=
 ⟨a.fine, a.m, a.s, k.co.trans a.co, k.left a.left, by show N < M'.ds.length; rw [k.len]; exact a.len, fun j hj => (k.sl j).trans (a.sec j hj), fun j hj => k.lo j (a.lo j hj), fun j hj hd => (k.gs j).trans (a.g j hj hd), a.st, a.sd, a.gone⟩
theorem Lif.ded (a : Lif d N T h) (hd : d < N) (h0 : sta h.R d = 0) : fJ (ko h d) = 0 /\ Lif d N T (mm h d) /\ Kp h.M (mm h d).M /\ sta (mm h d).R d = 1 := by
 obtain ⟨l1, l2⟩ := sE a.fine (d := d) (by rw [a.mN]; exact hd) (by omega);have lk := fg.los a.fine (d : Int);have ls := lk.s;obtain ⟨e, M', h1, h2⟩ := adC (ko h d) fun j hj hs => by
  have hj' : j < N := by
   have : (dG h.R d).m.toNat = N := by rw [l1]; exact a.mN
   show j < N
   have hj2 : j < (dG h.R d).m.toNat := hj;omega
  have hjd : j ≠ d := fun x => hs (by show sta (dG h.R d) j = 1; rw [l2 j, if_pos x])
  exact ⟨a.alv hj' (a.g j hj' hjd), by show 2 <= (h.M.ds.getD j bI).S.length; rw [a.sec j hj']; omega⟩
 have e2 : mm h d = ⟨M', h.id, h.ev + 1, dG h.R d⟩ := h1;have a1 : Lif d N T ⟨h.M, h.id, h.ev + 1, dG h.R d⟩ :=
  ⟨lk.fine, l1.trans a.m, ls.trans a.s, a.co, a.left, a.len, a.sec, a.lo, a.g, fun j hj hd => by show sta (dG h.R d) j = 0; rw [l2 j, if_neg hd]; exact a.st j hj hd, fun _ => .inr (by show sta (dG h.R d) d = 1; rw [l2 d, if_pos rfl]), (aaX _ _).trans a.gone⟩
 rw [e2];exact ⟨e, a1.keep h2, h2, by show sta (dG h.R d) d = 1; rw [l2 d, if_pos rfl]⟩
theorem Lif.aiH (a : Lif d N T h) (hd : d < N) (h0 : sta h.R d = 0) (t : Int) : nh h d t = t := by
 obtain ⟨e, l, _⟩ := a.ded hd h0;unfold nh;rw [if_pos e, if_neg (by have := l.fai; show ¬ ey (mm h d).R = true; rw [this]; decide)]
theorem Lif.hwr (a : Lif d N T h) (hs : s < T) (hm : m < N) (b : Blk) : jL h s m b = 0 /\ Lif d N T (fK h s m b) /\ ∀ j n, j < N -> j ≠ d -> n < T -> vwM (fK h s m b).M j (2 + n) = if j = m /\ n = s then b else vwM h.M j (2 + n) := by
 have hp : nk h.R s m = true := ao ⟨by omega, by rw [a.s]; omega, by omega, by rw [a.m]; omega⟩;have hf := a.fai;have hq : eI h.R m = true := ao ⟨by omega, by rw [a.m]; omega⟩;have hc : kF h.R s = true := ao ⟨by omega, by rw [a.s]; omega⟩;by_cases h0 : sta h.R m = 0
 ·have hB : hasB h.R m s = true := by
   unfold hasB;rw [a.fine, hq, hc, Int.toNat_natCast, ao h0]
   rfl
  cases hg : (h.M.ds.getD m bI).g
  ·have v := a.alv hm hg;have hl : 2 + s < (h.M.ds.getD m bI).S.length := by rw [a.sec m hm]; omega
   obtain ⟨w1, w2⟩ := v.wr hl b;have ec : ((2 + s : Nat) : Int) = 2 + (s : Int) := by omega
   rw [ec] at w1 w2;have e1 : jL h s m b = 0 := by
    unfold jL;rw [if_pos hp, hf, if_neg (by decide), if_pos hB, if_neg (by rw [w1]; decide), w1]
   have e2 : fK h s m b = { h with M := dP h.M m (2 + s) b } := by
    unfold fK;rw [if_pos ⟨hp, hf, hB⟩, if_neg (by rw [w1]; decide)]
   have hv := v.afy hl b;rw [ec] at hv;refine ⟨e1, ?_, fun j n hj hd hn => ?_⟩
   ·rw [e2, w2];refine ⟨a.fine, a.m, a.s, a.co, ?_, ?_, fun j hj => ?_, fun j hj => ?_, fun j hj hd => ?_, a.st, a.sd, a.gone⟩
    ·show h.M.left - 1 = 0; rw [a.left]
    ·show N < (h.M.ds.set m _).length; rw [List.length_set]; exact a.len
    ·show ((h.M.done.put m _).ds.getD j bI).S.length = _
     rw [eB _ _ v.lt j]; split
     ·rename_i x; subst x; exact a.sec j hj
     ·exact a.sec j hj
    ·show ∀ q ∈ ((h.M.done.put m _).ds.getD j bI).L, _
     rw [eB _ _ v.lt j]; split
     ·rename_i x; subst x
      intro q hq;rcases List.mem_append.1 hq with y | y
      ·exact a.lo j hj q y
      ·rw [List.mem_singleton.1 y]; show (0 : Int) <= ((2 + s : Nat) : Int); omega
     ·exact a.lo j hj
    ·show ((h.M.done.put m _).ds.getD j bI).g = _
     rw [eB _ _ v.lt j]; split
     ·rfl
     ·exact a.g j hj hd
   ·rw [e2]
    show vwM (dP h.M m (2 + s) b) j (2 + n) = _
    rw [hv j (2 + n)];by_cases x : j = m /\ n = s
    ·rw [if_pos x, if_pos ⟨x.1, by omega⟩]
    ·rw [if_neg x, if_neg fun y => x ⟨y.1, by omega⟩]
  ·have hmd : m = d := Decidable.byContradiction fun x => by have := a.g m hm x; rw [hg] at this; cases this
   subst hmd;have h9 : ex h.M m (2 + (s : Int)) = 9 := by
    have r9 : di h.M m ((2 + s : Nat) : Int) = 9 := by
     rw [mz a.co (Nat.lt_trans hm a.len) (by rw [a.sec m hm]; omega), hg]
     rfl
    have ec : ((2 + s : Nat) : Int) = 2 + (s : Int) := by omega
    rw [ec] at r9;unfold ex;rw [if_neg (by rw [r9]; decide), r9]
   obtain ⟨_, l, k, _⟩ := a.ded hm h0;have e1 : jL h s m b = 0 := by
    unfold jL;rw [if_pos hp, hf, if_neg (by decide), if_pos hB, if_pos h9, Int.toNat_natCast, a.aiH hm h0]
   have e2 : fK h s m b = mm h m := by
    unfold fK;rw [if_pos ⟨hp, hf, hB⟩, if_pos h9, Int.toNat_natCast]
   rw [e2];refine ⟨e1, l, fun j n hj hd hn => ?_⟩;rw [if_neg fun x => hd x.1];exact (k.tel j (2 + n) (by omega) (by rw [a.sec j hj]; omega) (a.lo j hj)).1
 ·have hmd : m = d := Decidable.byContradiction fun x => h0 (a.st m hm x)
  subst hmd;have h1 : sta h.R m = 1 := (a.sd hm).resolve_left h0;have hB : hasB h.R m s = false := by
   unfold hasB;rw [a.fine, hq, hc, Int.toNat_natCast, am h0, am (by omega)]
   rfl
  have e1 : jL h s m b = 0 := by
   unfold jL;rw [if_pos hp, hf, if_neg (by decide), if_neg (by rw [hB]; decide)]
  have e2 : fK h s m b = h := by
   unfold fK;rw [if_neg fun x => by rw [hB] at x; exact absurd x.2.2 (by decide)]
  rw [e2];exact ⟨e1, a, fun j n hj hd hn => by rw [if_neg fun x => hd x.1]⟩
theorem Lif.fls (a : Lif d N T h) (hm : m < N) (hs : sta h.R m ≠ 1) : mM h m = 0 /\ Lif d N T (ii h m) /\ Kp h.M (ii h m).M /\ (m ≠ d -> ∀ n, n < T -> suM (ii h m).M m (2 + n) = vwM h.M m (2 + n)) := by
 cases hg : (h.M.ds.getD m bI).g
 ·have v := a.alv hm hg;obtain ⟨f1, f2⟩ := v.afP;have f0 := v.fl.1;unfold mM ii;rw [if_neg (by rw [f0]; decide), if_neg (by rw [f0]; decide), if_neg (by rw [f0]; decide)];exact ⟨rfl, a.keep f1, f1, fun _ n hn => f2 (2 + n) (by rw [a.sec m hm]; omega)⟩
 ·have hmd : m = d := Decidable.byContradiction fun x => by have := a.g m hm x; rw [hg] at this; cases this
  subst hmd;have h0 : sta h.R m = 0 := (a.sd hm).resolve_right hs;have h9 : ez h.M m = 9 := by
   have r9 : iH h.M m = 9 := by
    unfold iH;rw [if_pos (lL a.co (Nat.lt_trans hm a.len))]
    show (if (h.M.ds.getD m bI).g = true then (9 : Int) else 0) = 9
    rw [hg]
    rfl
   unfold ez;rw [if_neg (by rw [r9]; decide), r9]
  obtain ⟨_, l, k, _⟩ := a.ded hm h0;unfold mM ii;rw [if_pos h9, if_pos h9, a.aiH hm h0, if_neg (by decide)];exact ⟨rfl, l, k, fun x => absurd rfl x⟩
theorem Lif.hfl : ∀ (k m : Nat) (h : HuS), Lif d N T h -> m + k = N -> ∃ h', mb k m h = (0, h') /\ Lif d N T h' /\ Kp h.M h'.M /\ (∀ j n, m <= j -> j < N -> j ≠ d -> n < T -> suM h'.M j (2 + n) = vwM h.M j (2 + n))
 |0, m, h, a, _ => ⟨h, rfl, a, Kp.refl _, fun j n h1 h2 => absurd h1 (by omega)⟩
 |k + 1, m, h, a, hk => by
  rw [mb];by_cases e : sta h.R m = 1
  ·rw [if_pos e];obtain ⟨h', k1, k2, k3, k4⟩ := Lif.hfl k (m + 1) h a (by omega);refine ⟨h', k1, k2, k3, fun j n h1 h2 h3 h4 => ?_⟩;by_cases x : j = m
   ·subst x;have := a.st j h2 h3;omega
   ·exact k4 j n (by omega) h2 h3 h4
  ·rw [if_neg e];obtain ⟨f1, f2, f3, f4⟩ := a.fls (m := m) (by omega) e;rw [if_pos f1];obtain ⟨h', k1, k2, k3, k4⟩ := Lif.hfl k (m + 1) (ii h m) f2 (by omega);refine ⟨h', k1, k2, f3.trans k3, fun j n h1 h2 h3 h4 => ?_⟩;have t1 := f3.tel j (2 + n) (by omega) (by rw [a.sec j h2]; omega) (a.lo j h2);by_cases x : j = m
   ·subst x;have t2 := k3.tel j (2 + n) (by omega) (by rw [f2.sec j h2]; omega) (f2.lo j h2);rw [<- t1.1];exact t2.2 (by rw [t1.1]; exact f4 h3 n h4)
   ·rw [k4 j n (by omega) h2 h3 h4];exact t1.1
theorem Lif.flush (a : Lif d N T h) : oI h = 0 /\ Lif d N T (iK h) /\ ∀ j n, j < N -> j ≠ d -> n < T -> suM (iK h).M j (2 + n) = vwM h.M j (2 + n) := by
 obtain ⟨h', k1, k2, k3, k4⟩ := Lif.hfl N 0 h a (by omega);have e : kI h = (0, h') := by unfold kI; rw [a.mN]; exact k1
 have hf := a.fai;have e1 : oI h = 0 := by
  unfold oI;rw [hf, if_neg (show ¬ (false = true) by decide), e]
  show (if (0 : Int) = 0 then (if ey h'.R = true then (16 : Int) else 0) else 0) = 0
  rw [if_pos rfl, k2.fai]
  rfl
 have e2 : iK h = h' := by
  unfold iK;rw [hf, if_neg (show ¬ (false = true) by decide), e]
 rw [e1, e2];exact ⟨rfl, k2, fun j n hj hd hn => k4 j n (by omega) hj hd hn⟩
end
def fB : List dh -> HuS -> Int × HuS
 |[], h => (0, h)
 |c :: l, h => if jL h c.n c.m c.b = 0 then fB l (fK h c.n c.m c.b) else (jL h c.n c.m c.b, fK h c.n c.m c.b)
def ic (h : HuS) (s : ShS) (n : Int) : Int × HuS × ShS :=
 if s.str n = true then (if (fB (dq s n) h).1 = 0 then (0, (fB (dq s n) h).2, dF s n) else ((fB (dq s n) h).1, (fB (dq s n) h).2, s)) else (2, h, s)
def oh : List Int -> HuS -> ShS -> Int × HuS × ShS
 |[], h, s => (oI h, iK h, s)
 |n :: l, h, s => if (ic h s n).1 = 0 then oh l (ic h s n).2.1 (ic h s n).2.2 else ic h s n
def yD (h : HuS) (s : ShS) : Int × HuS × ShS := oh s.da h s
theorem uj : ∀ (l l2 : List dh) (h : HuS), fB (l ++ l2) h = if (fB l h).1 = 0 then fB l2 (fB l h).2 else fB l h
 |[], l2, h => by rw [fB, if_pos rfl]; rfl
 |c :: l, l2, h => by
  rw [List.cons_append, fB, fB];by_cases e : jL h c.n c.m c.b = 0
  ·rw [if_pos e, if_pos e]; exact uj l l2 _
  ·rw [if_neg e, if_neg e, if_neg e]
section
variable {d N T n : Nat} {h h' : HuS} {s s0 : ShS} {x : LnS}
theorem Lif.cells (a : Lif d N T h) (hn : n < T) : ∀ k, k <= N -> ∃ h', fB (nf (n : Int) x k) h = (0, h') /\ Lif d N T h' /\ ∀ j n', j < N -> j ≠ d -> n' < T -> vwM h'.M j (2 + n') = if n' = n /\ j < k /\ (cW x j).dt = true then (cW x j).b else vwM h.M j (2 + n')
 |0, _ => ⟨h, rfl, a, fun j n' _ _ _ => by rw [if_neg fun e => by omega]⟩
 |k + 1, hk => by
  obtain ⟨h1, e1, a1, v1⟩ := Lif.cells a hn k (by omega);rw [nf, uj, e1, if_pos rfl];by_cases hd : (cW x k).dt = true
  ·rw [if_pos hd];obtain ⟨w1, w2, w3⟩ := a1.hwr hn (show k < N by omega) (cW x k).b;refine ⟨fK h1 n k (cW x k).b, ?_, w2, fun j n' hj hjd hn' => ?_⟩
   ·show fB [⟨(n : Int), (k : Int), (cW x k).b⟩] h1 = _
    rw [fB, if_pos w1]
    rfl
   ·rw [w3 j n' hj hjd hn', v1 j n' hj hjd hn'];by_cases c : j = k /\ n' = n
    ·obtain ⟨rfl, rfl⟩ := c;rw [if_pos ⟨rfl, rfl⟩, if_pos ⟨rfl, by omega, hd⟩]
    ·rw [if_neg c];by_cases c2 : n' = n /\ j < k /\ (cW x j).dt = true
     ·rw [if_pos c2, if_pos ⟨c2.1, by omega, c2.2.2⟩]
     ·rw [if_neg c2, if_neg fun y => c2 ⟨y.1, by have := y.2.1; rcases Nat.lt_or_ge j k with z | z; exact z; exact absurd ⟨by omega, y.1⟩ c, y.2.2⟩]
  ·rw [if_neg hd];refine ⟨h1, rfl, a1, fun j n' hj hjd hn' => ?_⟩;rw [v1 j n' hj hjd hn'];by_cases c2 : n' = n /\ j < k /\ (cW x j).dt = true
   ·rw [if_pos c2, if_pos ⟨c2.1, by omega, c2.2.2⟩]
   ·rw [if_neg c2, if_neg fun y => c2 ⟨y.1, by have := y.2.1; rcases Nat.lt_or_ge j k with z | z; exact z; exact absurd (show j = k by omega) fun q => hd (by rw [<- q]; exact y.2.2), y.2.2⟩]
theorem ahi (s : ShS) (n j : Nat) (hn : n < s.T) : (dF s (n : Int)).dty j = (if j = n then false else s.dty j) /\ (j ≠ n -> (dF s (n : Int)).ln j = s.ln j) /\ (dF s (n : Int)).T = s.T /\ (dF s (n : Int)).N = s.N := by
 have hs : s.str (n : Int) = true := ao ⟨by omega, by omega⟩;unfold dF;by_cases e : s.str (n : Int) = true /\ (s.ln (n : Int).toNat).isSome = true
 ·rw [if_pos e, Int.toNat_natCast];refine ⟨?_, fun hj => if_neg hj, rfl, rfl⟩;by_cases c : j = n
  ·subst c;rw [if_pos rfl];rw [ji (x := fL (s.cf j)) (if_pos rfl)];unfold ka;rw [xE]
   rfl
  ·rw [if_neg c];exact kW (if_neg c)
 ·rw [if_neg e];refine ⟨?_, fun _ => rfl, rfl, rfl⟩;by_cases c : j = n
  ·subst c;rw [if_pos rfl];refine lF ?_;cases hl : s.ln j with
   |none => rfl
   |some y => exact absurd ⟨hs, by rw [Int.toNat_natCast, hl]; rfl⟩ e
  ·rw [if_neg c]
theorem xG (q : Nat -> Bool) : ∀ k, (pD q k).Nodup
 |0 => List.nodup_nil
 |k + 1 => by
  have ih := xG q k;rw [pD]
  split
  ·refine List.nodup_append.2 ⟨ih, by simp, fun a ha b hb e => ?_⟩;obtain ⟨j, rfl, hj, _⟩ := fY.1 ha;simp at hb;omega
  ·rw [List.append_nil]; exact ih
theorem Lif.oa (a : Lif d N T h) (hN : s.N = N) (hT : s.T = T) (hn : n < T) : ∃ h', ic h s n = (0, h', dF s n) /\ Lif d N T h' /\ ∀ j n', j < N -> j ≠ d -> n' < T -> vwM h'.M j (2 + n') = if n' = n /\ (cW (s.cf n) j).dt = true then (cW (s.cf n) j).b else vwM h.M j (2 + n') := by
 have hs : s.str (n : Int) = true := ao ⟨by omega, by omega⟩;obtain ⟨h', e, l, v⟩ := a.cells (x := s.cf n) hn N aj;have ec : dq s n = nf n (s.cf n) N := by unfold dq; rw [if_pos hs, hN]; rfl
 refine ⟨h', ?_, l, fun j n' hj hd hn' => ?_⟩
 ·unfold ic;rw [if_pos hs, ec, e, if_pos rfl]
 ·rw [v j n' hj hd hn'];by_cases c : n' = n /\ (cW (s.cf n) j).dt = true
  ·rw [if_pos c, if_pos ⟨c.1, hj, c.2⟩]
  ·rw [if_neg c, if_neg fun y => c ⟨y.1, y.2.2⟩]
theorem Lif.all : ∀ (l : List Int) (h : HuS) (s : ShS), Lif d N T h -> s.N = N -> s.T = T -> l.Nodup -> (∀ n ∈ l, ∃ k : Nat, n = (k : Int) /\ k < T) -> (∀ k : Nat, (k : Int) ∈ l -> s.cf k = s0.cf k) ->
  ∃ h' s', oh l h s = (0, h', s') /\ Lif d N T h' /\ s'.T = s.T /\ (∀ k : Nat, s'.dty k = if (k : Int) ∈ l then false else s.dty k) /\ ∀ j n', j < N -> j ≠ d -> n' < T -> suM h'.M j (2 + n') = if (n' : Int) ∈ l /\ (cW (s0.cf n') j).dt = true then (cW (s0.cf n') j).b else vwM h.M j (2 + n')
 |[], h, s, a, hN, hT, _, _, _ => by
  obtain ⟨f1, f2, f3⟩ := a.flush;refine ⟨iK h, s, by rw [oh, f1], f2, rfl, fun k => by rw [if_neg (by simp)], fun j n' hj hd hn => ?_⟩;rw [if_neg (by simp)];exact f3 j n' hj hd hn
 |n :: l, h, s, a, hN, hT, hnd, hl, hs => by
  obtain ⟨k, rfl, hk⟩ := hl n (List.mem_cons_self ..);obtain ⟨h1, e1, a1, v1⟩ := a.oa (s := s) hN hT hk;obtain ⟨hnl, hnd2⟩ := List.nodup_cons.1 hnd;have c := fun j => ahi s k j (by omega)
  obtain ⟨h', s', r1, r2, r3, r4, r5⟩ := Lif.all l h1 (dF s k) a1 ((c 0).2.2.2.trans hN) ((c 0).2.2.1.trans hT) hnd2 (fun n hn => hl n (List.mem_cons_of_mem _ hn)) fun j hj => by
   have hjk : j ≠ k := fun x => hnl (by rw [<- x]; exact hj)
   rw [<- hs j (List.mem_cons_of_mem _ hj)];unfold ShS.cf;rw [(c j).2.1 hjk, (c j).2.2.2]
  refine ⟨h', s', ?_, r2, r3.trans (c 0).2.2.1, fun j => ?_, fun j n' hj hd hn => ?_⟩
  ·rw [oh, e1, if_pos rfl];exact r1
  ·rw [r4 j, (c j).1];by_cases x : j = k
   ·subst x;rw [if_pos rfl, if_pos (List.mem_cons_self ..)]
    split <;> rfl
   ·rw [if_neg x];by_cases y : (j : Int) ∈ l
    ·rw [if_pos y, if_pos (List.mem_cons_of_mem _ y)]
    ·rw [if_neg y, if_neg fun z => by rcases List.mem_cons.1 z with z | z; omega; exact y z]
  ·rw [r5 j n' hj hd hn, v1 j n' hj hd hn];by_cases y : (n' : Int) ∈ l /\ (cW (s0.cf n') j).dt = true
   ·rw [if_pos y, if_pos ⟨List.mem_cons_of_mem _ y.1, y.2⟩]
   ·rw [if_neg y];by_cases z : n' = k
    ·subst z;have e3 := hs n' (List.mem_cons_self ..);rw [e3];by_cases w : (cW (s0.cf n') j).dt = true
     ·rw [if_pos ⟨rfl, w⟩, if_pos ⟨List.mem_cons_self .., w⟩]
     ·rw [if_neg fun q => w q.2, if_neg fun q => w q.2]
    ·rw [if_neg fun q => z q.1, if_neg fun q => by rcases List.mem_cons.1 q.1 with u | u; omega; exact y ⟨u, q.2⟩]
theorem uG {c : dh} : ∀ {k : Nat}, c ∈ nf (n : Int) x k -> c.n = (n : Int) /\ ∃ i : Nat, i < k /\ c.m = (i : Int) /\ (cW x i).dt = true /\ c.b = (cW x i).b
 |0, h => by cases h
 |k + 1, h => by
  rw [nf] at h;rcases List.mem_append.1 h with e | e
  ·obtain ⟨e1, i, e2, e3⟩ := uG e;exact ⟨e1, i, by omega, e3⟩
  ·split at e
   ·rename_i hd
    rw [List.mem_singleton.1 e];exact ⟨rfl, k, by omega, rfl, hd, rfl⟩
   ·cases e
theorem Lif.home (a : Lif d N T h) (hok : bX s) (hN : s.N = N) (hT : s.T = T) : ∃ h' s', yD h s = (0, h', s') /\ Lif d N T h' /\ s'.da = [] /\ ∀ n, n < T -> ∀ c ∈ dq s n, ∃ i : Nat, c.n = (n : Int) /\ c.m = (i : Int) /\ i < N /\ (i ≠ d -> suM h'.M i (2 + n) = c.b) := by
 obtain ⟨h', s', r1, r2, r3, r4, r5⟩ := Lif.all (s0 := s) s.da h s a hN hT (xG _ _) (fun n hn => by
  obtain ⟨j, e, hj, _⟩ := fY.1 hn;exact ⟨j, e, by omega⟩) fun _ _ => rfl
 refine ⟨h', s', r1, r2, ?_, fun n hn c hc => ?_⟩
 ·refine List.eq_nil_iff_forall_not_mem.2 fun y hy => ?_
  obtain ⟨j, e, hj, hd⟩ := fY.1 hy;rw [r4 j] at hd;by_cases x : (j : Int) ∈ s.da
  ·rw [if_pos x] at hd; cases hd
  ·rw [if_neg x] at hd;exact x (ShS.kA.2 ⟨by omega, hd⟩)
 ·have hs : s.str (n : Int) = true := ao ⟨by omega, by omega⟩;have ec : dq s n = nf n (s.cf n) N := by unfold dq; rw [if_pos hs, hN]; rfl
  rw [ec] at hc;obtain ⟨e1, i, hi, e2, hd, e3⟩ := uG hc;refine ⟨i, e1, e2, hi, fun hne => ?_⟩;have hl := (hok.line n).2;have hdt : ka (s.cf n) = true := oX hd (by rw [hl, hN]; exact hi);rw [r5 i n hi hne hn, if_pos ⟨ShS.kA.2 ⟨by omega, by rw [<- pM]; exact hdt⟩, hd⟩, e3]
end
section
variable {k N T d : Nat} {h : HuS} {s : ShS}
theorem HR.wrs : ∀ (l : List dh) (h : HuS), HR (k + l.length) h -> HR k (fB l h).2
 |[], h, h' => h'
 |c :: l, h, h' => by
  have g := (HR.hwr (k := k + l.length) h' c.n c.m c.b).1;rw [fB]
  split
  ·exact HR.wrs l _ g
  ·exact g.less (by omega)
theorem ss (n : Int) (x : LnS) : ∀ i, (nf n x i).length <= i
 |0 => Nat.le_refl 0
 |i + 1 => by
  have := ss n x i;rw [nf, List.length_append]
  split <;> simp <;> omega
theorem HR.bks (h' : HR (k + 16) h) (hok : bX s) (n : Int) : HR k (ic h s n).2.1 := by
 have hl : (dq s n).length <= 16 := by
  unfold dq
  split
  ·have := ss n (s.cf n.toNat) s.N;have := hok.n16;omega
  ·exact Nat.zero_le _
 have g := HR.wrs (k := k) (dq s n) h (h'.less (by omega));unfold ic
 split
 ·split <;> exact g
 ·exact h'.less (by omega)
theorem xx (N : Nat) (s : Int) (j : Nat) : sta (neR N s) j = 0 := by
 have e : (neR N s).st.toList = List.replicate 16 0 := rfl;unfold sta;rw [e];unfold bt;by_cases h : j < 16
 ·obtain ⟨i, rfl⟩ : ∃ i : Fin 16, i.val = j := ⟨⟨j, h⟩, rfl⟩
  revert i
  decide
 ·simp [List.getD, h]
theorem Lif.new (h1 : 3 <= N) (h2 : N <= 16) (h3 : 1 <= T) (h4 : T <= 64) (d id : Nat) : Lif d N T ⟨fe (szK N T), id, 0, neR N T⟩ where
 fine := jO h1 h2 (by omega) (by omega)
 m := rfl
 s := rfl
 co := rfl
 left := rfl
 len := by show N < (fe (szK N T)).ds.length; rw [lB]; omega
 sec := fun j hj => by show ((fe (szK N T)).ds.getD j bI).S.length = _; rw [lr hj]; simp; omega
 lo := fun j hj => by show ∀ q ∈ ((fe (szK N T)).ds.getD j bI).L, 0 <= q.1; rw [lr hj]; intro q hq; cases hq
 g := fun j hj _ => by show ((fe (szK N T)).ds.getD j bI).g = false; rw [lr hj]
 st := fun j _ _ => xx N T j
 sd := fun _ => .inl (xx N T d)
 gone := rfl
theorem Lif.sure {j n : Nat} (a : Lif d N T h) (hj : j < N) (hd : j ≠ d) (hn : n < T) : sh h.M j (2 + (n : Int)) = 0 /\ sg h.M j (2 + (n : Int)) = suM h.M j (2 + n) := by
 have ec : 2 + (n : Int) = ((2 + n : Nat) : Int) := by omega
 have hl : j < h.M.ds.length := Nat.lt_trans hj a.len;have hE : dH (h.M.ds.getD j bI).S (h.M.ds.getD j bI).g ((2 + n : Nat) : Int) = 0 := by rw [a.g j hj hd]; exact l7 ⟨by omega, by rw [a.sec j hj]; omega⟩
 rw [ec];unfold sh sg;rw [if_pos (ns hl), if_pos (ns hl)];exact ⟨hE, tH hE⟩
end
structure aaK (C : eF) (D : ShI C) : Prop where
 oa : ∀ {w G S q p t K h s} (n : Int), C.J w G q p h -> D.P w S t K s -> CrG w G -> ¬ S 0 -> (∀ b, G b -> ¬ S b) -> HR 17 h -> Calls prog 13 #[.pointer (some ⟨t, 0, none⟩), .pointer (some ⟨p, 0, none⟩), .int .i64 n] w fun e w' => e = .returned (.int .i64 (ic h s n).1) /\
  ∃ G' S', C.J w' G' q p (ic h s n).2.1 /\ D.P w' S' t K (ic h s n).2.2 /\ (∀ b, G' b -> ¬ S' b) /\ Only (fun b => G b \/ S b) w w' /\ Grow w G G' /\ Grow w S S'
 all_ : ∀ {w G S q p t K h s}, C.J w G q p h -> D.P w S t K s -> CrG w G -> ¬ S 0 -> (∀ b, G b -> ¬ S b) -> HR (16 * s.T + 17) h -> Calls prog 11 #[.pointer (some ⟨t, 0, none⟩), .pointer (some ⟨p, 0, none⟩)] w fun e w' => e = .returned (.int .i64 (yD h s).1) /\
  ∃ G' S', C.J w' G' q p (yD h s).2.1 /\ D.P w' S' t K (yD h s).2.2 /\ (∀ b, G' b -> ¬ S' b) /\ Only (fun b => G b \/ S b) w w' /\ Grow w G G' /\ Grow w S S'
 no_stripe : ∀ {w G q p h} (v : Value) (n : Int), D.No w v -> C.J w G q p h -> Calls prog 13 #[v, .pointer (some ⟨p, 0, none⟩), .int .i64 n] w fun e w' => e = .returned (.int .i64 1) /\ Below w.heap.size w w'
 no_all : ∀ {w G q p h} (v : Value), D.No w v -> C.J w G q p h -> Calls prog 11 #[v, .pointer (some ⟨p, 0, none⟩)] w fun e w' => e = .returned (.int .i64 1) /\ Below w.heap.size w w'
 nh_stripe : ∀ {w S t K s} (v : Value) (n : Int), D.P w S t K s -> C.No w v -> Calls prog 13 #[.pointer (some ⟨t, 0, none⟩), v, .int .i64 n] w fun e w' => e = .returned (.int .i64 1) /\ Below w.heap.size w w'
 nh_all : ∀ {w S t K s} (v : Value), D.P w S t K s -> C.No w v -> Calls prog 11 #[.pointer (some ⟨t, 0, none⟩), v] w fun e w' => e = .returned (.int .i64 1) /\ Below w.heap.size w w'
section
variable {C : eF} {D : ShI C} {w0 w w' : World} {B q p t K : Nat} {O : Nat -> Prop} {h : HuS} {s : ShS}
theorem SAt.afw (I : aaK C D) (n : Int) (a : SAt C D w0 B O w q p t K h s) (hr : HR 17 h) {x : Int × HuS × ShS} (hx : ic h s n = x) : Calls prog 13 #[.pointer (some ⟨t, 0, none⟩), .pointer (some ⟨p, 0, none⟩), .int .i64 n] w fun e w' => e = .returned (.int .i64 x.1) /\ SAt C D w0 B O w' q p t K x.2.1 x.2.2 /\ cq O w w' := by
 subst hx;obtain ⟨G, S, h1, h2, h3, h4, h5, h6, h7⟩ := a;exact (I.oa n h1 h2 (h6.crg h5 fun b e => h4 b (.inl e)) (fun e => by have := h6.lo; have := h4 _ (.inr e); omega) h3 hr).mono fun e w' ⟨k0, G', S', k1, k2, kd, k3, k4, k5⟩ => ⟨k0, SAt.turn h4 h5 h6 h7 k1 k2 kd k3 k4 k5⟩
theorem SAt.home (I : aaK C D) (a : SAt C D w0 B O w q p t K h s) (hr : HR (16 * s.T + 17) h) {x : Int × HuS × ShS} (hx : yD h s = x) : Calls prog 11 #[.pointer (some ⟨t, 0, none⟩), .pointer (some ⟨p, 0, none⟩)] w fun e w' => e = .returned (.int .i64 x.1) /\ SAt C D w0 B O w' q p t K x.2.1 x.2.2 /\ cq O w w' := by
 subst hx;obtain ⟨G, S, h1, h2, h3, h4, h5, h6, h7⟩ := a;exact (I.all_ h1 h2 (h6.crg h5 fun b e => h4 b (.inl e)) (fun e => by have := h6.lo; have := h4 _ (.inr e); omega) h3 hr).mono fun e w' ⟨k0, G', S', k1, k2, kd, k3, k4, k5⟩ => ⟨k0, SAt.turn h4 h5 h6 h7 k1 k2 kd k3 k4 k5⟩
theorem SAt.aiq {I : FuncId} {vs : Array Value} {Q : Ending -> World -> Prop} (a : SAt C D w0 B O w q p t K h s) (hc : ∀ F, C.R.Bn w F q h.M -> Calls prog I vs w Q) : Calls prog I vs w Q := by
 obtain ⟨G, S, h1, h2, _⟩ := a;obtain ⟨Gb, b1, _⟩ := C.ben h1;exact hc Gb b1
end
def hb1 : Blk := aI.set 0 1
def hb2 : Blk := aI.set 0 2
def kc1 : dh := ⟨0, 0, hb1⟩
def kc2 : dh := ⟨1, 2, hb2⟩
def bs0 : ShS := ox 3 6 6
def bs1 : ShS := nZ bs0 1 [kc1, kc2]
theorem bq1 : js bs0 1 [kc1, kc2] = 0 := by decide +kernel
theorem bd1 : (dF bs1 0).da = [1] := by decide +kernel
theorem bdc : dq (dF bs1 0) 1 = [kc2] := by kernel_rfl
theorem ah6 (w : World) : (Instr.build 44 #[(0, .int .u8 1)]).run prog w = .ok (blk hb1) w := by kernel_rfl
theorem afx (w : World) : (Instr.build 44 #[(0, .int .u8 2)]).run prog w = .ok (blk hb2) w := by kernel_rfl
theorem aiw (w : World) : (Instr.build 46 #[(1, blk hb1)]).run prog w = .ok (clV (bV kc1)) w := by kernel_rfl
theorem ah4 (w : World) : (Instr.build 42 #[(0, .int .i64 1), (1, .int .i64 2)]).run prog w = .ok (.agg #[.int .i64 1, .int .i64 2]) w := by kernel_rfl
theorem ahV (w : World) : (Instr.build 46 #[(0, .agg #[.int .i64 1, .int .i64 2]), (1, blk hb2)]).run prog w = .ok (clV (bV kc2)) w := by kernel_rfl
theorem ahY (w : World) : (Instr.buildSlice 22 2 #[(0, clV (bV kc1)), (1, clV (bV kc2))]).run prog w = .ok (.slice (some ⟨w.heap.size, 0, none⟩) 2 2) (w.alloc (.cells (cQ (bV kc1) ++ cQ (bV kc2)).toArray 46)) := by kernel_rfl
section
variable {ρ : Operand -> Value} {o : Oper} {x y : Operand} {w : World}
theorem aeu (ho : o.op = .build 46 #[(1, x)]) (hx : ρ x = blk hb1) : (execOp ρ o).run prog w = .ok (.value (clV (bV kc1))) w := by
 unfold execOp;simp [ho, hx, aiw, Result.andThen]
theorem aeP (ho : o.op = .build 42 #[(0, x), (1, y)]) (hx : ρ x = .int .i64 1) (hy : ρ y = .int .i64 2) : (execOp ρ o).run prog w = .ok (.value (.agg #[.int .i64 1, .int .i64 2])) w := by
 unfold execOp;simp [ho, hx, hy, ah4, Result.andThen]
theorem ae8 (ho : o.op = .build 46 #[(0, x), (1, y)]) (hx : ρ x = .agg #[.int .i64 1, .int .i64 2]) (hy : ρ y = blk hb2) : (execOp ρ o).run prog w = .ok (.value (clV (bV kc2))) w := by
 unfold execOp;simp [ho, hx, hy, ahV, Result.andThen]
theorem adR (ho : o.op = .buildSlice 22 2 #[(0, x), (1, y)]) (hx : ρ x = clV (bV kc1)) (hy : ρ y = clV (bV kc2)) : (execOp ρ o).run prog w = .ok (.value (.slice (some ⟨w.heap.size, 0, none⟩) 2 2)) (w.alloc (.cells (cQ (bV kc1) ++ cQ (bV kc2)).toArray 46)) := by
 unfold execOp;simp only [ho, hx, hy, List.map_toArray, List.map_cons, List.map_nil, Sem.run_bind, ahY, Result.andThen_ok, Sem.run_pure]
theorem kM {b : Nat} : (Instr.fieldAt 29 (.pointer (some ⟨b, 0, none⟩)) 0).run prog w = .ok (.pointer (some ⟨b, 0, none⟩)) w := by kernel_rfl
theorem pI {b : Nat} : (Instr.fieldAt 29 (.pointer (some ⟨b, 0, none⟩)) 1).run prog w = .ok (.pointer (some ⟨b, 1, none⟩)) w := by kernel_rfl
theorem aik {b : Nat} : (Instr.fieldAt 29 (.pointer (some ⟨b, 0, none⟩)) 2).run prog w = .ok (.pointer (some ⟨b, 2, none⟩)) w := by kernel_rfl
theorem kL {ad : Addr} {a : Option Addr} (h : w.cell? ad = some (.pointer a)) : (Instr.loadAt 23 (.pointer (some ad))).run prog w = .ok (.pointer a) w := by simp [go_sem, h]
theorem pL {ad : Addr} {a : Option Addr} (h : w.cell? ad = some (.pointer a)) : (Instr.loadAt 24 (.pointer (some ad))).run prog w = .ok (.pointer a) w := by simp [go_sem, h]
theorem aiB {ad : Addr} {a : Option Addr} (h : w.cell? ad = some (.pointer a)) : (Instr.loadAt 25 (.pointer (some ad))).run prog w = .ok (.pointer a) w := by simp [go_sem, h]
end
section
variable {C : eF} {D : ShI C} {w0 w w' : World} {B q p t K : Nat} {O : Nat -> Prop} {h : HuS} {s : ShS}
theorem SAt.ajb {Q : Nat} (a : SAt C D w0 B O w q p t K h s) (c1 c2 : dh) (hQ : Q < 18446744073709551616) (hK : K + 2 <= 1000000) : Calls prog 6 #[.pointer (some ⟨t, 0, none⟩), .int .u64 (Q : Int), .slice (some ⟨w.heap.size, 0, none⟩) 2 2] (w.alloc (.cells (cQ (bV c1) ++ cQ (bV c2)).toArray 46)) fun e w' => e = .returned (.int .i64 (js s Q [c1, c2])) /\ SAt C D w0 B O w' q p t (K + 2) h (nZ s Q [c1, c2]) /\ cq O w w' := by
 have hb := (Below.refl w.heap.size w).alloc aj (.cells (cQ (bV c1) ++ cQ (bV c2)).toArray 46);have hsz : (w.alloc (.cells (cQ (bV c1) ++ cQ (bV c2)).toArray 46)).heap.size = w.heap.size + 1 := al;have hr : RdE dw (w.alloc (.cells (cQ (bV c1) ++ cQ (bV c2)).toArray 46)) (w.alloc (.cells (cQ (bV c1) ++ cQ (bV c2)).toArray 46)).heap.size (some ⟨w.heap.size, 0, none⟩) 2 ([c1, c2].map bV) := by rw [hsz]; exact fI (E := dw) (l := [bV c1, bV c2]) w (cQ (bV c1) ++ cQ (bV c2)).toArray 46 (by simp [cu]; rfl)
 have hkb : cq O w (w.alloc (.cells (cQ (bV c1) ++ cQ (bV c2)).toArray 46)) := fun b e => hb.block b (a.lt e)
 have ag : SAt C D w0 B (fun b => O b \/ b = w.heap.size) (w.alloc (.cells (cQ (bV c1) ++ cQ (bV c2)).toArray 46)) q p t K h s := a.guard hb fun b e => by
  rcases e with e | e
  ·exact .inl e
  ·subst e; exact .inr ⟨aj, by omega⟩
 refine (ag.shelf (K' := K + 2) (s' := nZ s Q [c1, c2]) (v := .int .i64 (js s Q [c1, c2])) fun S hS hO => D.put (c := [c1, c2]) hS hQ hK hr rfl aj (by unfold maxLen; decide) fun x e _ hs => by
  injection e with e;subst e;exact hO _ (.inr rfl) hs).mono ?_
 rintro e w' ⟨k0, k1, k2⟩;exact ⟨k0, k1.guard ak (fun b e => .inl (.inl e)), cq.trans hkb (k2.less fun b e => .inl e)⟩
end
theorem yj (C : eF) (D : ShI C) (I : aaK C D) (w : World) (T : Tab w) : Calls prog 8 #[] w fun e w' => e = .returned (.bool true) /\ Below w.heap.size w w' := by
 have HT := ae T;obtain ⟨z0, hz0⟩ : ∃ z0 : HuS, (⟨fe (szK 3 6), 9, 0, neR 3 6⟩ : HuS) = z0 := ⟨_, rfl⟩;have hl0 : Lif 3 3 6 z0 := by rw [<- hz0]; exact Lif.new (by omega) (by omega) (by omega) (by omega) 3 9
 have hr0 : HR 600 z0 := by rw [<- hz0]; exact HR.new (by omega) (by omega) (by omega) (by omega) (by omega) 9
 have hok : bX bs1 := bX.put (bX.new (by omega) (by omega) (by omega) (by omega) (by omega) (by omega)) (by omega) _;have hN1 : bs1.N = 3 /\ bs1.T = 6 := ⟨by decide +kernel, by decide +kernel⟩;have e6 : ic z0 bs1 6 = (2, z0, bs1) := by unfold ic; rw [if_neg (by decide +kernel)]
 obtain ⟨z1, e0, hl1, _⟩ := hl0.oa (s := bs1) (n := 0) hN1.1 hN1.2 (by omega);have hr1 : HR 500 z1 := by
  have := HR.bks (k := 500) (h := z0) (s := bs1) (hr0.less (by omega)) hok ((0 : Nat) : Int);rw [e0] at this;exact this
 have hok2 := hok.cln ((0 : Nat) : Int);obtain ⟨z2, s2, ea, hl2, hd2, hs2⟩ := hl1.home (s := dF bs1 ((0 : Nat) : Int)) hok2 (by decide +kernel) (by decide +kernel);obtain ⟨i, _, hm, _, hsu⟩ := hs2 1 (by omega) kc2 (by rw [show ((1 : Nat) : Int) = 1 from rfl, show dq (dF bs1 ((0 : Nat) : Int)) 1 = [kc2] from bdc]; exact List.mem_cons_self ..);have hi : i = 2 := by
  have h2 : (2 : Int) = (i : Int) := hm;omega
 subst hi;have hSU := hl2.sure (j := 2) (n := 1) (by omega) (by omega) (by omega);have hsb : sg z2.M 2 3 = hb2 /\ sh z2.M 2 3 = 0 := ⟨hSU.2.trans (hsu (by omega)), hSU.1⟩;have HZ0 := ae hz0;have HR0 := ae hr0;have HR1 := ae hr1;have HE6 := ae e6;have HE0 := ae e0;have HEA := ae ea;have HD2 := ae hd2;have HSB := ae hsb;have HT6 : Hid ((dF bs1 ((0 : Nat) : Int)).T = 6) := ae (by decide +kernel);clear T hz0 hl0 hr0 hok hN1 e6 e0 hl1 hr1 hok2 ea hl2 hd2 hs2 hm hsu hSU hsb;go_enter func8, ntmps8;go_upto_region 0 with fail;refine bU 1 ?_;go_upto_region 1 with fail;refine af ?_;refine aw rfl (aA call5 rfl (evc evk evn)) ?_;refine (sN C D 0 3 w HT (by omega) rfl).mono ?_;rintro e w1 ⟨t, p, q, r, y, rfl, a1⟩;rw [HZ0.out] at a1;have HA1 : Hid (SAt C D w w.heap.size (fun _ => False) w1 q p t 0 z0 bs0) := ae a1;clear a1;refine aQ ?_;refine runs 3 ?_;refine ajB (c9 (cs := jG) wG rfl) ?_;refine aG rfl (fx (cs := fM t p q r y) (ds := jG) (by kernel_rfl) rfl mq rfl (ev rfl) (ev rfl)) ?_;simp only [aa];have hx := (Below.refl w1.heap.size w1).alloc aj (.cells (fM t p q r y).toArray 29);have HP2 := ae (heap_alloc_new w1 (.cells (fM t p q r y).toArray 29));have hsz : (w1.alloc (.cells (fM t p q r y).toArray 29)).heap.size = w1.heap.size + 1 := al;have HA2 := ae (HA1.out.guard (O' := fun b => b = w1.heap.size) hx fun b e => .inr ⟨by omega, by omega⟩);obtain ⟨bp, hbp⟩ : ∃ bp, w1.heap.size = bp := ⟨_, rfl⟩;rw [hbp] at HP2 HA2 ⊢;clear hbp hx hsz;generalize w1.alloc (.cells (fM t p q r y).toArray 29) = w2 at *;refine aF 1 ?_;go_upto_region 2 with fail;refine aH 3 ?_;refine ajI (ax rfl ajL kM) ?_;refine ajI (aC rfl ajL (kL ((aP HP2) 0 _ rfl))) ?_;refine ajI (je rfl evk (ah6 _)) ?_;refine ajI (aeu rfl ajL) ?_;refine ajI (aeP rfl evk evk) ?_;refine ajI (je rfl evk (afx _)) ?_;refine ajI (ae8 rfl ajL ajL) ?_;refine ajI (adR rfl ajL ajL) ?_;refine aw ajw (aA call6 rfl (evc ajL (evc evk (evc ajL evn)))) ?_;refine (HA2.out.ajb (Q := 1) kc1 kc2 (by omega) (by omega)).mono ?_;rintro e w3 ⟨rfl, a_, k_⟩;rw [show js bs0 1 [kc1, kc2] = 0 from bq1];have HA3 := ae a_;have HP3 := ae ((k_ bp rfl).trans HP2);clear a_ k_;refine aQ ?_;refine ajI (aJ false rfl ajL evk rfl) ?_;refine aF 1 ?_;go_upto_region 4 with fail;refine af ?_;refine ajB (ax rfl ajL kM) ?_;refine ajB (aC rfl ajL (kL ((aP HP3) 0 _ rfl))) ?_;refine ajB (ax rfl ajL pI) ?_;refine ajB (aC rfl ajL (pL ((aP HP3) 1 _ rfl))) ?_;refine aw rfl (aA call13 rfl (evc ajL (evc ajL (evc evk evn)))) ?_;refine (SAt.afw I 6 HA3 (HR0.out.less (by omega)) HE6).mono ?_;rintro e w4 ⟨rfl, a_, k_⟩;have HA4 := ae a_;have HP4 := ae ((k_ bp rfl).trans HP3);clear a_ k_;refine aQ ?_;refine aF 1 ?_;go_upto_region 5 with fail;refine af ?_;refine ajB (ax rfl ajL kM) ?_;refine ajB (aC rfl ajL (kL ((aP HP4) 0 _ rfl))) ?_;refine ajB (ax rfl ajL pI) ?_;refine ajB (aC rfl ajL (pL ((aP HP4) 1 _ rfl))) ?_;refine aw rfl (aA call13 rfl (evc ajL (evc ajL (evc evk evn)))) ?_;refine (SAt.afw I ((0 : Nat) : Int) HA4 (HR0.out.less (by omega)) HE0).mono ?_;rintro e w5 ⟨rfl, a_, k_⟩;have HA5 := ae a_;have HP5 := ae ((k_ bp rfl).trans HP4);clear a_ k_;refine aQ ?_;refine aF 1 ?_;go_upto_region 6 with fail;refine af ?_;refine ajB (ax rfl ajL kM) ?_;refine ajB (aC rfl ajL (kL ((aP HP5) 0 _ rfl))) ?_;refine aw rfl (aA call7 rfl (evc ajL evn)) ?_;refine (SAt.look HA5 fun S hS => D.da hS).mono ?_;rintro e w6 ⟨v6, rfl, hm6, b6⟩;rw [show (dF bs1 ((0 : Nat) : Int)).da = [1] from bd1] at hm6;obtain ⟨A6, c6, rfl, h61, h62⟩ := hm6.form;have HR6 := ae hm6.rd;have HA6 := ae (HA5.out.below b6);have HP6 := ae (aB HP5 b6);clear hm6 b6 h61 h62;refine aQ ?_;refine ajB (el (E := bN) (a := 1) rfl evk rfl (by decide)) ?_;refine aw rfl (aA call27 rfl (evc ajL (evc ajL evn))) ?_;refine (aaS _ _ _ _ _ _ (w6.heap.size + 1) [1] [1] _ (HR6.out.up _) (fI (E := bN) (l := [1]) w6 #[.int .i64 1] 3 rfl) (by rw [World.size_alloc]; exact aj) (by unfold maxLen; decide)).mono ?_;rintro e w7 ⟨rfl, b7⟩;have hb7 := ((Below.refl w6.heap.size w6).alloc aj (.cells #[.int .i64 1] 3)).trans (b7.mono (by rw [World.size_alloc]; omega));have HA7 := ae (HA6.out.below hb7);have HP7 := ae (aB HP6 hb7);clear b7 hb7;rw [show m6 [1] [1] = true from rfl];refine aQ ?_;refine aF 1 ?_;go_upto_region 7 with fail;refine af ?_;refine ajB (ax rfl ajL kM) ?_;refine ajB (aC rfl ajL (kL ((aP HP7) 0 _ rfl))) ?_;refine ajB (ax rfl ajL pI) ?_;refine ajB (aC rfl ajL (pL ((aP HP7) 1 _ rfl))) ?_;refine aw rfl (aA call11 rfl (evc ajL (evc ajL evn))) ?_;refine (SAt.home I HA7 (HR1.out.less (by rw [HT6.out]; omega)) HEA).mono ?_;rintro e w8 ⟨rfl, a_, k_⟩;have HA8 := ae a_;have HP8 := ae ((k_ bp rfl).trans HP7);clear a_ k_;refine aQ ?_;refine aF 1 ?_;go_upto_region 8 with fail;refine af ?_;refine ajB (ax rfl ajL aik) ?_;refine ajB (aC rfl ajL (aiB ((aP HP8) 2 _ rfl))) ?_;refine aw rfl (aA call12 rfl (evc ajL (evc evk (evc evk evn)))) ?_;refine (SAt.aiq HA8 fun F hF => C.R.sure 2 3 hF).mono ?_;rintro e w9 ⟨rfl, b9⟩;rw [HSB.out.1, HSB.out.2];have HA9 := ae (HA8.out.below b9);have HP9 := ae (aB HP8 b9);clear b9;refine aQ ?_;refine runs 3 ?_;refine ajB (bW rfl) ?_;refine aG rfl (jA (c := hb2) rfl (ev rfl) (ev rfl)) ?_;simp only [aa];have hx := (Below.refl w9.heap.size w9).alloc aj (.cells (cel hb2).toArray 44);have HQ10 := ae (heap_alloc_new w9 (.cells (cel hb2).toArray 44));have HA10 := ae (HA9.out.below hx);have HP10 := ae (aB HP9 hx);clear hx;generalize w9.alloc (.cells (cel hb2).toArray 44) = w10 at *;refine aF 1 ?_;go_upto_region 9 with fail;refine aH 1 ?_;refine ajB (aE true rfl ajL evk rfl) ?_;refine runs 2 ?_;refine ajI (aE true rfl ajL evk rfl) ?_;refine runs 3 ?_;refine runs 3 ?_;refine ajI (aE true rfl ajL evk rfl) ?_;refine runs 2 ?_;refine ajI (ax rfl ajL kM) ?_;refine ajI (aC rfl ajL (kL ((aP HP10) 0 _ rfl))) ?_;refine aw ajw (aA call7 rfl (evc ajL evn)) ?_;refine (SAt.look HA10 fun S hS => D.da hS).mono ?_;rintro e w11 ⟨v11, rfl, hm11, b11⟩;rw [HD2.out] at hm11;obtain ⟨A11, c11, rfl, h111, h112⟩ := hm11.form;have HA11 := ae (HA10.out.below b11);have HQ11 := ae (aB HQ10 b11);clear hm11 b11 h111 h112;refine aQ ?_;refine ajI (mv underlying35 rfl ajL) ?_;refine ajI (aE true rfl ajL evk rfl) ?_;refine runs 2 ?_;refine ajI (bJ (c := hb2) rfl ajL (aP HQ11)) ?_;refine ajI (je rfl evk (afx _)) ?_;refine ajI (zM true rfl ajL ajL (ao rfl)) ?_;refine runs 3 ?_;refine ajI (aE true rfl ajL evk rfl) ?_;refine aF 2 ?_;go_wp2_with fail;go_ret;exact ⟨rfl, HA11.out.bel⟩
theorem SAt.yw {C : eF} {D : ShI C} {w0 w : World} {B q p t K : Nat} {O : Nat -> Prop} {h : HuS} {s : ShS} {I : FuncId} {vs : Array Value} {Q : Ending -> World -> Prop} (a : SAt C D w0 B O w q p t K h s) (hc : ∀ G, C.J w G q p h -> Calls prog I vs w Q) : Calls prog I vs w Q := by
 obtain ⟨G, S, h1, h2, _⟩ := a;exact hc G h1
theorem aie (C : eF) (D : ShI C) (I : aaK C D) (n : Int) (z : Bool) (w : World) (T : Tab w) : Calls prog 4 #[.int .i64 n, .bool z] w fun e w' => e = .returned (.bool true) /\ Below w.heap.size w w' := by
 have HT := ae T;clear T;go_enter func4, ntmps4;go_upto_region 0 with fail;refine bU 1 ?_;go_upto_region 1 with fail;refine af ?_;refine aw rfl (aA call5 rfl (evc evk evn)) ?_;refine (sN C D 0 3 w HT (by omega) rfl).mono ?_;rintro e w1 ⟨t, p, q, r, y, rfl, a1⟩;have HA1 := ae a1;clear a1;refine aQ ?_;refine runs 3 ?_;refine ajB (c9 (cs := jG) wG rfl) ?_;refine aG rfl (fx (cs := fM t p q r y) (ds := jG) (by kernel_rfl) rfl mq rfl (ev rfl) (ev rfl)) ?_;simp only [aa];have hx := (Below.refl w1.heap.size w1).alloc aj (.cells (fM t p q r y).toArray 29);have HP2 := ae (heap_alloc_new w1 (.cells (fM t p q r y).toArray 29));have HA2 := ae (HA1.out.below hx);clear hx;obtain ⟨bp, hbp⟩ : ∃ bp, w1.heap.size = bp := ⟨_, rfl⟩;rw [hbp] at HP2 ⊢;clear hbp;generalize w1.alloc (.cells (fM t p q r y).toArray 29) = w2 at *;refine aF 1 ?_;go_upto_region 2 with fail;refine bU 1 ?_;go_upto_region 3 with fail;refine bU 1 ?_;cases z
 ·go_upto_region 4 with fail;refine bU 1 ?_;have HS2 := ae (D.no_nil w2);have HH2 := ae (C.no_nil w2);go_upto_region 6 with fail;refine aH 3 ?_;refine ajI (ax rfl ajL pI) ?_;refine ajI (aC rfl ajL (pL ((aP HP2) 1 _ rfl))) ?_;refine runs 1 ?_;refine aw ajw (aA call13 rfl (evc ajL (evc ajL (evc ajL evn)))) ?_;refine (SAt.yw HA2 fun G hG => I.no_stripe _ n HS2 hG).mono ?_;rintro e w3 ⟨rfl, b_⟩;have HA3 := ae (HA2.out.below b_);have HP3 := ae (aB HP2 b_);have HS3 := ae (D.no_below HS2 b_);have HH3 := ae (C.no_below HH2 b_);clear b_;refine aQ ?_;refine ajI (aE true rfl ajL evk rfl) ?_;refine runs 3 ?_;refine ajI (ax rfl ajL pI) ?_;refine ajI (aC rfl ajL (pL ((aP HP3) 1 _ rfl))) ?_;refine aw ajw (aA call11 rfl (evc ajL (evc ajL evn))) ?_;refine (SAt.yw HA3 fun G hG => I.no_all _ HS3 hG).mono ?_;rintro e w4 ⟨rfl, b_⟩;have HA4 := ae (HA3.out.below b_);have HP4 := ae (aB HP3 b_);have HS4 := ae (D.no_below HS3 b_);have HH4 := ae (C.no_below HH3 b_);clear b_;refine aQ ?_;refine ajI (aE true rfl ajL evk rfl) ?_;refine runs 2 ?_;refine ajI (ax rfl ajL kM) ?_;refine ajI (aC rfl ajL (kL ((aP HP4) 0 _ rfl))) ?_;refine runs 2 ?_;refine aw ajw (aA call13 rfl (evc ajL (evc ajL (evc ajL evn)))) ?_;refine (SAt.look HA4 fun S hS => I.nh_stripe _ n hS HH4).mono ?_;rintro e w5 ⟨rfl, b_⟩;have HA5 := ae (HA4.out.below b_);have HP5 := ae (aB HP4 b_);have HS5 := ae (D.no_below HS4 b_);have HH5 := ae (C.no_below HH4 b_);clear b_;refine aQ ?_;refine ajI (aE true rfl ajL evk rfl) ?_;refine runs 2 ?_;refine ajI (ax rfl ajL kM) ?_;refine ajI (aC rfl ajL (kL ((aP HP5) 0 _ rfl))) ?_;refine runs 1 ?_;refine aw ajw (aA call11 rfl (evc ajL (evc ajL evn))) ?_;refine (SAt.look HA5 fun S hS => I.nh_all _ hS HH5).mono ?_;rintro e w6 ⟨rfl, b_⟩;have HA6 := ae (HA5.out.below b_);have HP6 := ae (aB HP5 b_);have HS6 := ae (D.no_below HS5 b_);have HH6 := ae (C.no_below HH5 b_);clear b_;refine aQ ?_;refine ajI (aE true rfl ajL evk rfl) ?_;refine runs 2 ?_;refine aw ajw (aA call8 rfl evn) ?_;have HT6 : Hid (Tab w6) := ae fun i hi => (World.cell?_of_block (w := w) (HA6.out.bel.block _ (ot.start HT).lo)).trans (HT.out i hi)
  refine (yj C D I w6 HT6).mono ?_;rintro e wz ⟨rfl, b_⟩;have HZ := ae (HA6.out.bel.trans (b_.mono HA6.out.bel.size));clear b_;refine aQ ?_;refine aF 2 ?_;go_wp2_with fail;go_ret;exact ⟨rfl, HZ⟩
 ·go_upto_region 4 with fail;refine bU 1 ?_;go_upto_region 5 with fail;refine af ?_;refine ajB (i4 rfl (D.bld0 _)) ?_;refine ajB (cw (cs := D.zc) rfl ajL) ?_;have hx := (Below.refl w2.heap.size w2).alloc aj (.cells D.zc.toArray 55);have HS3 := ae (D.no_zero w2);have HA3 := ae (HA2.out.below hx);have HP3 := ae (aB HP2 hx);clear hx;generalize w2.alloc (.cells D.zc.toArray 55) = w3 at *;refine ajB (i4 rfl (C.bld0 _)) ?_;refine ajB (cw (cs := C.zc) rfl ajL) ?_;have hx := (Below.refl w3.heap.size w3).alloc aj (.cells C.zc.toArray 60);have HH4 := ae (C.no_zero w3);have HS4 := ae (D.no_below HS3 hx);have HA4 := ae (HA3.out.below hx);have HP4 := ae (aB HP3 hx);clear hx;generalize w3.alloc (.cells C.zc.toArray 60) = w4 at *;refine aF 2 ?_;go_upto_region 6 with fail;refine aH 3 ?_;refine ajI (ax rfl ajL pI) ?_;refine ajI (aC rfl ajL (pL ((aP HP4) 1 _ rfl))) ?_;refine runs 1 ?_;refine aw ajw (aA call13 rfl (evc ajL (evc ajL (evc ajL evn)))) ?_;refine (SAt.yw HA4 fun G hG => I.no_stripe _ n HS4 hG).mono ?_;rintro e w5 ⟨rfl, b_⟩;have HA5 := ae (HA4.out.below b_);have HP5 := ae (aB HP4 b_);have HS5 := ae (D.no_below HS4 b_);have HH5 := ae (C.no_below HH4 b_);clear b_;refine aQ ?_;refine ajI (aE true rfl ajL evk rfl) ?_;refine runs 3 ?_;refine ajI (ax rfl ajL pI) ?_;refine ajI (aC rfl ajL (pL ((aP HP5) 1 _ rfl))) ?_;refine aw ajw (aA call11 rfl (evc ajL (evc ajL evn))) ?_;refine (SAt.yw HA5 fun G hG => I.no_all _ HS5 hG).mono ?_;rintro e w6 ⟨rfl, b_⟩;have HA6 := ae (HA5.out.below b_);have HP6 := ae (aB HP5 b_);have HS6 := ae (D.no_below HS5 b_);have HH6 := ae (C.no_below HH5 b_);clear b_;refine aQ ?_;refine ajI (aE true rfl ajL evk rfl) ?_;refine runs 2 ?_;refine ajI (ax rfl ajL kM) ?_;refine ajI (aC rfl ajL (kL ((aP HP6) 0 _ rfl))) ?_;refine runs 2 ?_;refine aw ajw (aA call13 rfl (evc ajL (evc ajL (evc ajL evn)))) ?_;refine (SAt.look HA6 fun S hS => I.nh_stripe _ n hS HH6).mono ?_;rintro e w7 ⟨rfl, b_⟩;have HA7 := ae (HA6.out.below b_);have HP7 := ae (aB HP6 b_);have HS7 := ae (D.no_below HS6 b_);have HH7 := ae (C.no_below HH6 b_);clear b_;refine aQ ?_;refine ajI (aE true rfl ajL evk rfl) ?_;refine runs 2 ?_;refine ajI (ax rfl ajL kM) ?_;refine ajI (aC rfl ajL (kL ((aP HP7) 0 _ rfl))) ?_;refine runs 1 ?_;refine aw ajw (aA call11 rfl (evc ajL (evc ajL evn))) ?_;refine (SAt.look HA7 fun S hS => I.nh_all _ hS HH7).mono ?_;rintro e w8 ⟨rfl, b_⟩;have HA8 := ae (HA7.out.below b_);have HP8 := ae (aB HP7 b_);have HS8 := ae (D.no_below HS7 b_);have HH8 := ae (C.no_below HH7 b_);clear b_;refine aQ ?_;refine ajI (aE true rfl ajL evk rfl) ?_;refine runs 2 ?_;refine aw ajw (aA call8 rfl evn) ?_;have HT8 : Hid (Tab w8) := ae fun i hi => (World.cell?_of_block (w := w) (HA8.out.bel.block _ (ot.start HT).lo)).trans (HT.out i hi)
  refine (yj C D I w8 HT8).mono ?_;rintro e wz ⟨rfl, b_⟩;have HZ := ae (HA8.out.bel.trans (b_.mono HA8.out.bel.size));clear b_;refine aQ ?_;refine aF 2 ?_;go_wp2_with fail;go_ret;exact ⟨rfl, HZ⟩
theorem aeT (a b : Blk) (k : Nat) (w : World) (T : Tab w) (h : mo a b = k) : Calls prog 143 #[blk a, blk b] w fun e w' => e = .returned (.int .i64 (k : Nat)) /\ Below w.heap.size w w' := by
 subst h;exact ahX a b w T
structure HpS where
 id : Nat
 ev : Nat
 us : Nat
 R : Ros
def phC (qa : Option Addr) (x : HpS) : List Value := .pointer qa :: .int .u64 (x.id : Int) :: .int .u64 (x.ev : Int) :: (aX x.R ++ [.int .u64 (x.us : Int)])
theorem afg (qa : Option Addr) (x : HpS) : (phC qa x).length = 25 := by simp [phC, bq]
def PHo (w : World) (p : Nat) (qa : Option Addr) (x : HpS) : Prop := w.heap[p]? = some (.cells (phC qa x).toArray 60 (0, 0))
abbrev PHu (w : World) (p q : Nat) (x : HpS) : Prop := PHo w p (some ⟨q, 0, none⟩) x
section
variable {w w' : World} {p : Nat} {qa : Option Addr} {x : HpS} {G : Nat -> Prop}
theorem PHo.only (h : PHo w p qa x) (ho : Only G w w') (hn : ¬ G p) : PHo w' p qa x := ho.keep h hn
theorem PHo.below (h : PHo w p qa x) (hb : Below w.heap.size w w') : PHo w' p qa x := aB h hb
theorem PHo.lt (h : PHo w p qa x) : p < w.heap.size := aT h
theorem PHo.c0 (h : PHo w p qa x) : w.cell? ⟨p, 0, none⟩ = some (.pointer qa) := (aP h) 0 _ rfl
theorem PHo.c1 (h : PHo w p qa x) : w.cell? ⟨p, 1, none⟩ = some (.int .u64 (x.id : Int)) := (aP h) 1 _ rfl
theorem PHo.c2 (h : PHo w p qa x) : w.cell? ⟨p, 2, none⟩ = some (.int .u64 (x.ev : Int)) := (aP h) 2 _ rfl
theorem PHo.c24 (h : PHo w p qa x) : w.cell? ⟨p, 24, none⟩ = some (.int .u64 (x.us : Int)) := (aP h) 24 _ (by
 show (aX x.R ++ [_])[21]? = _
 rw [List.getElem?_append_right (by rw [bq]; exact aj), bq]; rfl)
theorem PHo.ros (h : PHo w p qa x) : w.rangeAt p 3 (aX x.R) := by
 have := eS (k := 3) (ds := [.pointer qa, .int .u64 (x.id : Int), .int .u64 (x.ev : Int)]) (es := aX x.R) (fs := [.int .u64 (x.us : Int)]) (aP h) (by simp [phC]) rfl;rwa [Nat.zero_add] at this
theorem PHo.geo (h : PHo w p qa x) : w.rangeAt p 3 (dR x.R) := eS (cs := aX x.R) (ds := []) (k := 0) h.ros rfl rfl
theorem PHo.ab3 (h : PHo w p qa x) (j : Nat) : w.frozen? ⟨p, j, none⟩ = false := frozen_of_row w p j _ _ h
theorem PHo.there (h : PHo w p qa x) {o n : Nat} (hn : o + n <= 25) : w.there p o n := dQ h (by rw [afg]; exact hn)
theorem oJ : (Instr.fieldAt 60 (.pointer (some ⟨p, 0, none⟩)) 0).run prog w = .ok (.pointer (some ⟨p, 0, none⟩)) w := by kernel_rfl
theorem afC : (Instr.fieldAt 60 (.pointer (some ⟨p, 0, none⟩)) 1).run prog w = .ok (.pointer (some ⟨p, 1, none⟩)) w := by kernel_rfl
theorem aiD : (Instr.fieldAt 60 (.pointer (some ⟨p, 0, none⟩)) 2).run prog w = .ok (.pointer (some ⟨p, 2, none⟩)) w := by kernel_rfl
theorem pF : (Instr.fieldAt 60 (.pointer (some ⟨p, 0, none⟩)) 3).run prog w = .ok (.pointer (some ⟨p, 3, none⟩)) w := by kernel_rfl
theorem acl : (Instr.fieldAt 60 (.pointer (some ⟨p, 0, none⟩)) 4).run prog w = .ok (.pointer (some ⟨p, 24, none⟩)) w := by kernel_rfl
theorem aif : (Instr.fieldAt 58 (.pointer (some ⟨p, 3, none⟩)) 0).run prog w = .ok (.pointer (some ⟨p, 3, none⟩)) w := by kernel_rfl
theorem vj {ad : Addr} {a : Option Addr} (h : w.cell? ad = some (.pointer a)) : (Instr.loadAt 25 (.pointer (some ad))).run prog w = .ok (.pointer a) w := by simp [go_sem, h]
theorem la {ad : Addr} {a : Option Addr} (h : w.cell? ad = some (.pointer a)) : (Instr.loadAt 24 (.pointer (some ad))).run prog w = .ok (.pointer a) w := by simp [go_sem, h]
theorem PHo.set {y : HpS} (h : PHo w p qa x) {j : Nat} {u : Value} (hy : (phC qa x).set j u = phC qa y) : PHo (w.setCell ⟨p, j, none⟩ u) p qa y := by
 have := heap_setCell_same w p j _ 60 u h;rw [List.setIfInBounds_toArray, hy] at this;exact this
theorem PHo.put (h : PHo w p qa x) (y : Ros) : PHo (w.setCells p 3 (aX y)) p qa { x with R := y } :=
 heap_put p 60 [.int .u64 (x.us : Int)] (aX y) (aX x.R) [.pointer qa, .int .u64 (x.id : Int), .int .u64 (x.ev : Int)] w (by rw [bq, bq]) h
theorem ag5 (qa : Option Addr) (x : HpS) (e : Nat) : (phC qa x).set 2 (.int .u64 (e : Int)) = phC qa { x with ev := e } := rfl
theorem abT (qa : Option Addr) (x : HpS) (e : Nat) : (phC qa x).set 24 (.int .u64 (e : Int)) = phC qa { x with us := e } := by
 show _ :: _ :: _ :: (aX x.R ++ [_]).set 21 _ = _
 rw [List.set_append_right _ _ (by rw [bq]; exact aj), bq]
 rfl
end
def HJ (w0 : World) (H K : Nat -> Prop) (w : World) (p q : Nat) (M : aV) (x : HpS) : Prop :=
 ∃ G, bu.Bn w G q M /\ PHu w p q x /\ ¬ G p /\ Only H w0 w /\ Grow w0 H (fun b => G b \/ b = p) /\ (∀ b, K b -> ¬ G b /\ b ≠ p /\ b < w.heap.size) /\ CrG w0 H
section
variable {w0 w w' : World} {H K K' : Nat -> Prop} {p q : Nat} {M : aV} {x y : HpS}
theorem HJ.hul (h : HJ w0 H K w p q M x) : PHu w p q x := by obtain ⟨_, _, h, _⟩ := h; exact h
theorem HJ.tab (h : HJ w0 H K w p q M x) : Tab w := by
 obtain ⟨_, _, _, _, h, _, _, hT⟩ := h;intro i hi;have := hT.t i hi;exact (h.cell (p := ⟨0, i, none⟩) (f7 this) hT.off).trans this
theorem HJ.lt (h : HJ w0 H K w p q M x) {b : Nat} (hb : K b) : b < w.heap.size := by obtain ⟨_, _, _, _, _, _, h, _⟩ := h; exact (h b hb).2.2
theorem HJ.ne (h : HJ w0 H K w p q M x) {b : Nat} (hb : K b) : b ≠ p := by obtain ⟨_, _, _, _, _, _, h, _⟩ := h; exact (h b hb).2.1
theorem HJ.size (h : HJ w0 H K w p q M x) : w0.heap.size <= w.heap.size := by obtain ⟨_, _, _, _, h, _⟩ := h; exact h.size
theorem HJ.guard (h : HJ w0 H K w p q M x) (hb : Below w.heap.size w w') (hK : ∀ b, K' b -> K b \/ (w.heap.size <= b /\ b < w'.heap.size)) : HJ w0 H K' w' p q M x := by
 obtain ⟨G, h1, h2, h3, h4, h5, h6, h7⟩ := h;have hlt := bu.lt h1;have hp := h2.lt;have hs := hb.size;refine ⟨G, bu.below h1 hb, h2.below hb, h3, h4.jn hb, h5, fun b e => ?_, h7⟩;rcases hK b e with e | ⟨e1, e2⟩
 ·obtain ⟨g1, g2, g3⟩ := h6 b e;exact ⟨g1, g2, by omega⟩
 ·exact ⟨fun hg => by have := hlt b hg; omega, by omega, e2⟩
theorem HJ.below (h : HJ w0 H K w p q M x) (hb : Below w.heap.size w w') : HJ w0 H K w' p q M x := h.guard hb fun b e => .inl e
theorem HJ.drew (h : HJ w0 H K w p q M x) : HJ w0 H K w.drew p q M x := h.below (bd ak)
theorem HJ.less (h : HJ w0 H K w p q M x) (hK : ∀ b, K' b -> K b) : HJ w0 H K' w p q M x := h.guard ak fun b e => .inl (hK b e)
def up (K : Nat -> Prop) (n m : Nat) : Nat -> Prop := fun b => K b \/ (n <= b /\ b < m)
theorem HJ.up (h : HJ w0 H K w p q M x) (hb : Below w.heap.size w w') : HJ w0 H (Proofs.YtlmdklakcmnaiaaGreatDoor.up K w.heap.size w'.heap.size) w' p q M x := h.guard hb fun b e => e
theorem HJ.kept (h : HJ w0 H K w p q M x) (hb : Below w.heap.size w w') : cq K w w' := fun b e => hb.block b (h.lt e)
theorem HJ.turn {G G' : Nat -> Prop} {M' : aV} (h1 : bu.Bn w G q M) (h2 : PHu w p q x) (h3 : ¬ G p) (h4 : Only H w0 w) (h5 : Grow w0 H (fun b => G b \/ b = p)) (h6 : ∀ b, K b -> ¬ G b /\ b ≠ p /\ b < w.heap.size) (h7 : CrG w0 H)
  (k1 : bu.Bn w' G' q M') (k2 : Only G w w') (k3 : Grow w G G') : HJ w0 H K w' p q M' x /\ cq K w w' := by
 have hs := k2.size;have hs0 := h4.size;have hp := h2.lt;refine ⟨⟨G', k1, h2.only k2 h3, fun e => ?_, h4.trans k2 fun b e => h5 b (.inl e), fun b e => ?_, fun b e => ?_, h7⟩, fun b e => k2.block b (h6 b e).2.2 (h6 b e).1⟩
 ·rcases k3 p e with e | e
  ·exact h3 e
  ·omega
 ·rcases e with e | e
  ·rcases k3 b e with e | e
   ·exact h5 b (.inl e)
   ·exact .inr (by omega)
  ·exact h5 b (.inr e)
 ·obtain ⟨g1, g2, g3⟩ := h6 b e;refine ⟨fun hg => ?_, g2, by omega⟩;rcases k3 b hg with e | e
  ·exact g1 e
  ·omega
theorem HJ.write (d n : Int) (b : Blk) (hr : Room M 1) (h : HJ w0 H K w p q M x) : Calls prog 76 #[.pointer (some ⟨q, 0, none⟩), .int .i64 d, .int .i64 n, blk b] w fun e w' => e = .returned (.int .i64 (ex M d n)) /\ HJ w0 H K w' p q (dP M d n b) x /\ cq K w w' := by
 obtain ⟨G, h1, h2, h3, h4, h5, h6, h7⟩ := h;exact (bu.write d n b hr h1).mono fun e w' ⟨k0, G', k1, k2, k3⟩ => ⟨k0, HJ.turn h1 h2 h3 h4 h5 h6 h7 k1 k2 k3⟩
theorem HJ.flush (d : Int) (hr : Room M 1) (h : HJ w0 H K w p q M x) : Calls prog 72 #[.pointer (some ⟨q, 0, none⟩), .int .i64 d] w fun e w' => e = .returned (.int .i64 (ez M d)) /\ HJ w0 H K w' p q (fC M d) x /\ cq K w w' := by
 obtain ⟨G, h1, h2, h3, h4, h5, h6, h7⟩ := h;exact (bu.flush d hr h1).mono fun e w' ⟨k0, G', k1, k2, k3⟩ => ⟨k0, HJ.turn h1 h2 h3 h4 h5 h6 h7 k1 k2 k3⟩
theorem HJ.read (d n : Int) (h : HJ w0 H K w p q M x) : Calls prog 141 #[.pointer (some ⟨q, 0, none⟩), .int .i64 d, .int .i64 n] w fun e w' => e = .returned (.tuple #[blk (gq M d n), .int .i64 (di M d n)]) /\ Below w.heap.size w w' := by
 obtain ⟨G, h1, _⟩ := h;exact bu.read d n h1
theorem HJ.obj (h : HJ w0 H K w p q M x) (ho : Only (fun b => b = p) w w') (hp : PHu w' p q y) : HJ w0 H K w' p q M y /\ cq K w w' := by
 obtain ⟨G, h1, h2, h3, h4, h5, h6, h7⟩ := h;have hs := ho.size;refine ⟨⟨G, bu.only h1 ho fun b hb e => h3 (e ▸ hb), hp, h3, h4.trans ho fun b e => h5 b (.inr e), h5, fun b e => ?_, h7⟩, fun b e => ho.block b (h6 b e).2.2 (h6 b e).2.1⟩;obtain ⟨g1, g2, g3⟩ := h6 b e;exact ⟨g1, g2, by omega⟩
theorem HJ.mine {g : Nat} (h : HJ w0 H K w p q M x) (hg : K g) (hg0 : w0.heap.size <= g) (ho : Only (fun b => b = g) w w') : HJ w0 H K w' p q M x := by
 obtain ⟨G, h1, h2, h3, h4, h5, h6, h7⟩ := h;have hs := ho.size;obtain ⟨g1, g2, g3⟩ := h6 g hg;refine ⟨G, bu.only h1 ho fun b hb e => g1 (e ▸ hb), h2.only ho fun e => g2 e.symm, h3, h4.trans ho fun b e => .inr (by omega), h5, fun b e => ?_, h7⟩;obtain ⟨g1, g2, g3⟩ := h6 b e;exact ⟨g1, g2, by omega⟩
end
structure Fu where
 f : FuncId
 cap : List Value
 ok : ∀ (args : Array Value) (w : World), (callFunc f args).run prog w = .ok (.enter f args) w
def Fu.val (s : Fu) : Value := .func (.func s.f) #[] s.cap.toArray
section
variable {ρ : Operand -> Value} {o : Oper} {x y : Operand} {w : World} {s : Fu} {v : Value}
theorem aim {ad : Addr} (h : w.cell? ad = some s.val) : (Instr.loadAt 38 (.pointer (some ad))).run prog w = .ok s.val w := by unfold Fu.val at *; simp [go_sem, h]
theorem uf {a : Act} {ats : Array TypeId} (ho : o.op = .call { callee := .value x, args := #[], argTypes := ats }) (hx : a.eval x = s.val) : (execOp a.eval o).run prog w = .ok (.enter s.f s.cap.toArray) w := by
 unfold Fu.val at hx;unfold execOp;simp [ho, resolve, Deferred.ofValue, invoke, hx, s.ok]
theorem mX {a : Act} {ats : Array TypeId} (ho : o.op = .call { callee := .value x, args := #[y], argTypes := ats }) (hx : a.eval x = s.val) (hy : a.eval y = v) : (execOp a.eval o).run prog w = .ok (.enter s.f (v :: s.cap).toArray) w := by
 unfold Fu.val at hx;unfold execOp;simp [ho, resolve, Deferred.ofValue, invoke, hx, hy, s.ok]
end
def ik (m s r : Int) : Value := .agg #[.int .i64 m, .int .i64 s, .int .i64 r]
def eE (s m : Int) : Value := .agg #[.int .i64 s, .int .i64 m]
def may (m s r : Int) : Bool := decide (3 <= m /\ m <= 16 /\ 1 <= s /\ s <= 64 /\ 40 <= r /\ r <= 256)
theorem im {m s r : Int} : may m s r = true ↔ (3 <= m /\ m <= 16 /\ 1 <= s /\ s <= 64 /\ 40 <= r /\ r <= 256) := by unfold may; rw [decide_eq_true_iff]
theorem afv {m s r : Int} : may m s r = false ↔ ¬(3 <= m /\ m <= 16 /\ 1 <= s /\ s <= 64 /\ 40 <= r /\ r <= 256) := by unfold may; rw [decide_eq_false_iff_not]
def has (s t : Int) : Bool := decide (0 <= t /\ t < s)
theorem fW {s t : Int} : has s t = true ↔ (0 <= t /\ t < s) := by unfold has; rw [decide_eq_true_iff]
theorem adS {s t : Int} : has s t = false ↔ ¬(0 <= t /\ t < s) := by unfold has; rw [decide_eq_false_iff_not]
theorem i9 (m s r : Int) (w : World) : Calls prog 47 #[ik m s r] w fun e w' => e = .returned (.bool (may m s r)) /\ Below w.heap.size w w' := by
 unfold ik;go_enter func47, ntmps47;go_wp2
 all_goals
  go_ret;refine ⟨a8 ?_, ak.alloc aj _⟩
  first
   |(refine Eq.symm (afv.2 ?_); omega)
   |(rw [Bool.eq_iff_iff, im, decide_eq_true_iff]; omega)
theorem j5 (m s r t : Int) (w : World) : Calls prog 119 #[ik m s r, .int .i64 t] w fun e w' => e = .returned (.bool (has s t)) /\ Below w.heap.size w w' := by
 unfold ik;go_enter func119, ntmps119;go_wp2
 all_goals
  go_ret;refine ⟨a8 ?_, ak.alloc aj _⟩
  first
   |(refine Eq.symm (adS.2 ?_); omega)
   |(rw [Bool.eq_iff_iff, fW, decide_eq_true_iff]; omega)
theorem uZ (M : Nat) (s r : Int) (w : World) (h3 : 3 <= M) (h16 : M <= 16) : Calls prog 121 #[ik M s r] w fun e w' => e = .returned (.int .i64 ((M - 1 : Nat) : Int)) /\ Below w.heap.size w w' := by
 unfold ik;go_enter func121, ntmps121;go_wp2;go_ret;exact ⟨dk (by omega), ak.alloc aj _⟩
def par (M T : Nat) : Nat := M - 1 - T % M
def dat (M T d : Nat) : Nat := (par M T + 1 + d) % M
section
variable {fn : Func} {p u : Tmp} {x y z : Int} {tmps : Array Value} {w : World} {b : Nat}
theorem wv (h0 : w.cell? ⟨b, 0, none⟩ = some (.int .i64 x)) (h1 : w.cell? ⟨b, 1, none⟩ = some (.int .i64 y)) : (loadVar 42 ⟨b, 0, none⟩).run prog w = .ok (eE x y) w := by
 simp [go_sem, loadVar, h0, h1, eE]
 done
end
section
variable {fn : Func} {p u : Tmp} {x y z : Int} {tmps : Array Value} {w : World} {b : Nat}
theorem za (h : fn.results = #[.cell p 42]) (hp : tmps.getD p undef = .pointer (some ⟨b, 0, none⟩)) (h0 : w.cell? ⟨b, 0, none⟩ = some (.int .i64 x)) (h1 : w.cell? ⟨b, 1, none⟩ = some (.int .i64 y)) :
  (results fn tmps).run prog w = .ok (eE x y) w := by
 have hp' : tmps[p]?.getD undef = .pointer (some ⟨b, 0, none⟩) := by simpa using hp
 simp [results, h, hp', asAddr, wv h0 h1]
end
theorem ady {M : Nat} (T : Nat) (h3 : 3 <= M) : (M : Int) - 1 - (T : Int) % (M : Int) = ((par M T : Nat) : Int) := by
 have hlt : T % M < M := Nat.mod_lt _ (by omega);have e : (T : Int) % (M : Int) = ((T % M : Nat) : Int) := rfl;rw [e];unfold par;omega
theorem mc {M : Nat} (T : Nat) (h3 : 3 <= M) : par M T < M := by unfold par; omega
section
variable {w : World} {a : Addr} {b : Nat} {m s r : Int}
theorem afE : (Instr.fieldAt 51 (.pointer (some ⟨b, 0, none⟩)) 0).run prog w = .ok (.pointer (some ⟨b, 0, none⟩)) w := by kernel_rfl
theorem xJ : (Instr.fieldAt 42 (.pointer (some ⟨b, 0, none⟩)) 0).run prog w = .ok (.pointer (some ⟨b, 0, none⟩)) w := by kernel_rfl
theorem x8 : (Instr.fieldAt 42 (.pointer (some ⟨b, 0, none⟩)) 1).run prog w = .ok (.pointer (some ⟨b, 1, none⟩)) w := by kernel_rfl
theorem aje {k : IntKind} {x : Int} (h : w.cell? a = some (.int k x)) : (Instr.loadAt 3 (.pointer (some a))).run prog w = .ok (.int k x) w := by
 simp [go_sem, h]
theorem ajr (h0 : w.cell? ⟨b, 0, none⟩ = some (.int .i64 m)) (h1 : w.cell? ⟨b, 1, none⟩ = some (.int .i64 s)) (h2 : w.cell? ⟨b, 2, none⟩ = some (.int .i64 r)) : (Instr.loadAt 51 (.pointer (some ⟨b, 0, none⟩))).run prog w = .ok (ik m s r) w := by
 simp [go_sem, h0, h1, h2, ik]
end
theorem aen (x y : Int) : ∀ w : World, (Instr.field 42 (.agg #[.int .i64 x, .int .i64 y]) 1).run prog w = .ok (.int .i64 y) w := fun _ => by kernel_rfl
theorem n6 (M T : Nat) (s r : Int) (w : World) (h3 : 3 <= M) (h16 : M <= 16) (ht : T <= 64) : Calls prog 120 #[ik M s r, .int .i64 T] w fun e w' => e = .returned (eE T (par M T)) /\ Below w.heap.size w w' := by
 have hne : (M : Int) ≠ 0 := by omega
 unfold ik;go_enter func120, ntmps120;go_wp2
 go_region
 go_wp2;refine bodyPost_ret (za (b := w.heap.size + 1) (x := T) (y := par M T) rfl rfl (by go_simp) (by go_simp; rw [ady T h3]; exact wq (by have := mc T h3; omega))) rfl ⟨rfl, ?_⟩;exact bd ((ak.alloc aj _).alloc (by go_simp) _)
theorem adL {M S : Nat} (h3 : 3 <= M) (h16 : M <= 16) (h64 : S <= 64) : IntKind.i64.wrap ((S : Int) * ((M - 1 : Nat) : Int)) = ((S * (M - 1) : Nat) : Int) := by
 have h := Nat.mul_le_mul h64 (show M - 1 <= 15 by omega);rw [<- Int.natCast_mul];exact IntWalk.i64_in _ (by omega)
theorem adW {m s r : Int} (h : may m s r = true) : ∃ M S : Nat, m = M /\ s = S /\ 3 <= M /\ M <= 16 /\ 1 <= S /\ S <= 64 := by
 have := im.1 h;exact ⟨m.toNat, s.toNat, by omega, by omega, by omega, by omega, by omega, by omega⟩
def aaq (t : Int) : Int := if has 64 t = true then 2 + t else 0
def zQ (t : Int) : Int := if has 64 t = true then 0 else 12
theorem mS (t : Int) (w : World) : Calls prog 80 #[.int .i64 t] w fun e w' => e = .returned (.tuple #[.int .i64 (aaq t), .int .i64 (zQ t)]) /\ Below w.heap.size w w' := by
 go_enter func80, ntmps80;go_wp2
 all_goals
  go_ret2;refine ⟨uB ?_ ?_, ak⟩
  all_goals
   first
   |unfold aaq
   |unfold zQ
   first
   |rw [if_pos (fW.2 (by omega))]
   |rw [if_neg (by rw [fW]; omega)]
section
variable {M T d m : Nat}
theorem ahW {x M : Nat} (h : x < 2 * M) : x % M = if x < M then x else x - M := by
 split
 ·exact Nat.mod_eq_of_lt (by assumption)
 ·rw [Nat.mod_eq_sub_mod (by omega), Nat.mod_eq_of_lt (by omega)]
def nth (M T m : Nat) : Nat := (m + M - par M T - 1) % M
theorem ahR (h3 : 3 <= M) (hd : d < M - 1) : dat M T d = if par M T + 1 + d < M then par M T + 1 + d else par M T + 1 + d - M := ahW (by have := mc T h3; omega)
theorem acx (h3 : 3 <= M) (hm : m < M) : nth M T m = if par M T < m then m - par M T - 1 else m + M - par M T - 1 := by
 unfold nth;have := mc T h3;rw [ahW (by omega)]
 split <;> split <;> omega
theorem aeg (h3 : 3 <= M) (hm : m < M) (hne : m ≠ par M T) : nth M T m < M - 1 /\ dat M T (nth M T m) = m := by
 have := mc T h3;have h1 : nth M T m < M - 1 := by rw [acx h3 hm]; split <;> omega
 refine ⟨h1, ?_⟩;rw [ahR h3 h1, acx h3 hm]
 split <;> split <;> omega
theorem afc {M : Nat} (T m : Nat) (h3 : 3 <= M) : ((m : Int) + (M : Int) - ((par M T : Nat) : Int) - 1) % (M : Int) = ((nth M T m : Nat) : Int) := by
 have := mc T h3;have e : ((m : Int) + (M : Int) - ((par M T : Nat) : Int) - 1) = ((m + M - par M T - 1 : Nat) : Int) := by omega
 rw [e]; rfl
end
def inP (m s t k : Int) : Bool := decide (0 <= t /\ t < s /\ 0 <= k /\ k < m)
theorem nI {m s t k : Int} : inP m s t k = true ↔ (0 <= t /\ t < s /\ 0 <= k /\ k < m) := by unfold inP; rw [decide_eq_true_iff]
theorem xP {m s t k : Int} : inP m s t k = false ↔ ¬(0 <= t /\ t < s /\ 0 <= k /\ k < m) := by unfold inP; rw [decide_eq_false_iff_not]
def blE (m s r t k : Int) : Int := if may m s r = true then (if inP m s t k = true then (if k.toNat = par m.toNat t.toNat then 7 else 0) else 12) else 2
def blN (m s r t k : Int) : Int := if may m s r = true then (if inP m s t k = true then (if k.toNat = par m.toNat t.toNat then 0 else ((t.toNat * (m.toNat - 1) + nth m.toNat t.toNat k.toNat : Nat) : Int)) else 0) else 0
def blV (m s r t k : Int) : Value := .tuple #[.int .i64 (blN m s r t k), .int .i64 (blE m s r t k)]
theorem afZ {m s r : Int} (t k : Int) (h : may m s r = false) : blV m s r t k = .tuple #[.int .i64 0, .int .i64 2] := by simp [blV, blN, blE, h]
theorem ads {m s r t k : Int} (h : may m s r = true) (h' : inP m s t k = false) : blV m s r t k = .tuple #[.int .i64 0, .int .i64 12] := by simp [blV, blN, blE, h, h']
theorem aeI {M S T k : Nat} {r : Int} (h : may M S r = true) (h' : inP M S T k = true) (hp : k = par M T) : blV M S r T k = .tuple #[.int .i64 0, .int .i64 7] := by
 unfold blV blN blE;simp only [h, h', if_true];rw [if_pos (show (k : Int).toNat = par (M : Int).toNat (T : Int).toNat from hp), if_pos (show (k : Int).toNat = par (M : Int).toNat (T : Int).toNat from hp)]
theorem af5 {M S T k : Nat} {r : Int} (h : may M S r = true) (h' : inP M S T k = true) (hp : k ≠ par M T) : blV M S r T k = .tuple #[.int .i64 ((T * (M - 1) + nth M T k : Nat) : Int), .int .i64 0] := by
 unfold blV blN blE;simp only [h, h', if_true];rw [if_neg (show (k : Int).toNat ≠ par (M : Int).toNat (T : Int).toNat from hp), if_neg (show (k : Int).toNat ≠ par (M : Int).toNat (T : Int).toNat from hp)]
 rfl
theorem acT (m s r t k : Int) (w : World) (h : may m s r = false) : Calls prog 83 #[ik m s r, eE t k] w fun e w' => e = .returned (blV m s r t k) /\ Below w.heap.size w w' := by
 rw [afZ t k h];have H := ae h;clear h;unfold ik eE;go_enter func83, ntmps83;go_wp2_with fail;refine (i9 m s r _).mono ?_;rintro e w1 ⟨rfl, hb1⟩;rw [H.out];obtain ⟨K0, K1, hs, HB⟩ := jd hb1 (ly ..) (abt ..);clear hb1;go_wp2;go_ret2;exact ⟨rfl, HB⟩
theorem zt (m s r t k : Int) (w : World) (h : may m s r = true) (h' : inP m s t k = false) : Calls prog 83 #[ik m s r, eE t k] w fun e w' => e = .returned (blV m s r t k) /\ Below w.heap.size w w' := by
 rw [ads h h'];have hn := xP.1 h';have H := ae h;clear h h';have h3 : has s t = false \/ (has s t = true /\ k < 0) \/ (has s t = true /\ 0 <= k /\ m <= k) := by
  cases hh : has s t
  ·exact .inl rfl
  ·have := fW.1 hh;by_cases hk : k < 0
   ·exact .inr (.inl ⟨rfl, hk⟩)
   ·exact .inr (.inr ⟨rfl, by omega, by omega⟩)
 clear hn;have go : ∀ (b : Bool), has s t = b -> (b = true -> (k < 0 \/ (0 <= k /\ m <= k))) -> Calls prog 83 #[ik m s r, eE t k] w fun e w' => e = .returned (.tuple #[.int .i64 0, .int .i64 12]) /\ Below w.heap.size w w' := by
  intro b hb hor;have HBo := ae hb;unfold ik eE;cases b
  ·clear hor h3 hb;go_enter func83, ntmps83;go_wp2_with fail;refine (i9 m s r _).mono ?_;rintro e w1 ⟨rfl, hb1⟩;rw [H.out];obtain ⟨K0, K1, hs, HB⟩ := jd hb1 (ly ..) (abt ..);obtain ⟨c0, c1, c2⟩ := cells3 K0;obtain ⟨p0, p1, f0, f1⟩ := iM K1;clear hb1;go_wp2_with fail;refine (j5 m s r t _).mono ?_;rintro e w2 ⟨rfl, hb2⟩;rw [HBo.out];go_wp2;go_ret2;exact ⟨rfl, HB.out.trans (hb2.mono HB.out.size)⟩
  ·have hor := hor rfl;clear h3 hb;rcases hor with hk | ⟨hk, hk'⟩
   all_goals
    go_enter func83, ntmps83;go_wp2_with fail;refine (i9 m s r _).mono ?_;rintro e w1 ⟨rfl, hb1⟩;rw [H.out];obtain ⟨K0, K1, hs, HB⟩ := jd hb1 (ly ..) (abt ..);obtain ⟨c0, c1, c2⟩ := cells3 K0;obtain ⟨p0, p1, f0, f1⟩ := iM K1;clear hb1;go_wp2_with fail;refine (j5 m s r t _).mono ?_;rintro e w2 ⟨rfl, hb2⟩;rw [HBo.out];obtain ⟨d0, d1, d2⟩ := cells3 (aB K0 hb2);obtain ⟨q0, q1, g0, g1⟩ := iM (aB K1 hb2);have HB2 := ae (HB.out.trans (hb2.mono HB.out.size));clear hb2 c0 c1 c2 p0 p1 f0 f1;go_wp2;go_ret2;exact ⟨rfl, HB2⟩
 rcases h3 with hh | ⟨hh, hk⟩ | ⟨hh, hk⟩
 ·exact go false hh (fun e => by cases e)
 ·exact go true hh (fun _ => .inl hk)
 ·exact go true hh (fun _ => .inr hk)
theorem zW (M S T k : Nat) (r : Int) (w : World) (h : may M S r = true) (h' : inP M S T k = true) (hp : k = par M T) : Calls prog 83 #[ik M S r, eE T k] w fun e w' => e = .returned (blV M S r T k) /\ Below w.heap.size w w' := by
 rw [aeI h h' hp];have hn := nI.1 h';have hm := im.1 h;have HH := ae (show has S T = true from fW.2 (by omega));have H := ae h;clear h h';have HP := ae hp;clear hp;unfold ik eE;go_enter func83, ntmps83;go_wp2_with fail;refine (i9 M S r _).mono ?_;rintro e w1 ⟨rfl, hb1⟩;rw [H.out];obtain ⟨K0, K1, hs, HB⟩ := jd hb1 (ly ..) (abt ..);obtain ⟨c0, c1, c2⟩ := cells3 K0;obtain ⟨p0, p1, f0, f1⟩ := iM K1;clear hb1;go_wp2_with fail;refine (j5 M S r T _).mono ?_;rintro e w2 ⟨rfl, hb2⟩;rw [HH.out];have K02 := ae (aB K0 hb2);have K12 := ae (aB K1 hb2);obtain ⟨d0, d1, d2⟩ := cells3 K02;obtain ⟨q0, q1, g0, g1⟩ := iM K12;have HB2 := ae (HB.out.trans (hb2.mono HB.out.size));clear hb2 c0 c1 c2 p0 p1 f0 f1 K0 K1;go_wp2_with fail;refine (n6 M T S r _ (by omega) (by omega) (by omega)).mono ?_;rintro e w3 ⟨rfl, hb3⟩;unfold eE;rw [<- HP.out];have K03 := ae (aB K02 hb3);have K13 := ae (aB K12 hb3);obtain ⟨c0, c1, c2⟩ := cells3 K03;obtain ⟨p0, p1, f0, f1⟩ := iM K13;have hs3 : w.heap.size + 1 < w3.heap.size := aT K13;have hs4 : w.heap.size < w3.heap.size := aT K03;have HB3 := ae (HB2.out.trans (hb3.mono HB2.out.size));clear hb3 d0 d1 d2 q0 q1 g0 g1 K02 K12 hs;go_wp2;go_ret2;exact ⟨rfl, HB3.out.alloc HB3.out.size _⟩
theorem aaz (M S T k : Nat) (r : Int) (w : World) (h : may M S r = true) (h' : inP M S T k = true) (hp : k ≠ par M T) : Calls prog 83 #[ik M S r, eE T k] w fun e w' => e = .returned (blV M S r T k) /\ Below w.heap.size w w' := by
 rw [af5 h h' hp];have hn := nI.1 h';have hm := im.1 h;have HH := ae (show has S T = true from fW.2 (by omega));have H := ae h;clear h h';have hpl := mc T (M := M) (by omega);have hni := afc (M := M) T k (by omega);have hnl : nth M T k < M - 1 := (aeg (T := T) (by omega) (by omega) hp).1;have HNI := ae hni;have HM := ae (adL (M := M) (S := T) (by omega) (by omega) (by omega));have HA := ae (show IntKind.i64.wrap (((T * (M - 1) : Nat) : Int) + ((nth M T k : Nat) : Int)) = ((T * (M - 1) + nth M T k : Nat) : Int) by
  have h := Nat.mul_le_mul (show T <= 64 by omega) (show M - 1 <= 15 by omega);generalize T * (M - 1) = q at *;rw [<- Int.natCast_add];exact IntWalk.i64_in _ (by omega))
 clear hni;generalize hpq : par M T = P at *;have HPQ := ae hpq;clear hpq;unfold ik eE;go_enter func83, ntmps83;go_wp2_with fail;refine (i9 M S r _).mono ?_;rintro e w1 ⟨rfl, hb1⟩;rw [H.out];obtain ⟨K0, K1, hs, HB⟩ := jd hb1 (ly ..) (abt ..);obtain ⟨c0, c1, c2⟩ := cells3 K0;obtain ⟨p0, p1, f0, f1⟩ := iM K1;clear hb1;go_wp2_with fail;refine (j5 M S r T _).mono ?_;rintro e w2 ⟨rfl, hb2⟩;rw [HH.out];have K02 := ae (aB K0 hb2);have K12 := ae (aB K1 hb2);obtain ⟨d0, d1, d2⟩ := cells3 K02;obtain ⟨q0, q1, g0, g1⟩ := iM K12;have HB2 := ae (HB.out.trans (hb2.mono HB.out.size));clear hb2 c0 c1 c2 p0 p1 f0 f1 K0 K1;go_wp2_with fail;refine (n6 M T S r _ (by omega) (by omega) (by omega)).mono ?_;rintro e w3 ⟨rfl, hb3⟩;unfold eE;rw [HPQ.out];have K03 := ae (aB K02 hb3);have K13 := ae (aB K12 hb3);obtain ⟨c0, c1, c2⟩ := cells3 K03;obtain ⟨p0, p1, f0, f1⟩ := iM K13;have hs3 : w.heap.size + 1 < w3.heap.size := aT K13;have hs4 : w.heap.size < w3.heap.size := aT K03;have HB3 := ae (HB2.out.trans (hb3.mono HB2.out.size));clear hb3 d0 d1 d2 q0 q1 g0 g1 K02 K12 hs;go_wp2;rw [HNI.out];have K04 := ae (br K03 (.cells #[.int .i64 T, .int .i64 P] 42));have K14 := ae (br K13 (.cells #[.int .i64 T, .int .i64 P] 42));have HB4 := ae (HB3.out.alloc HB3.out.size (.cells #[.int .i64 T, .int .i64 P] 42));clear c0 c1 c2 p0 p1 f0 f1 hs3 hs4 K03 K13 HB3;generalize w3.alloc (.cells #[.int .i64 T, .int .i64 P] 42) = w4 at *;have CC := fun (w' : World) (hw : Below w4.heap.size w4 w') => cells3 (aB K04 hw)
 have PP := fun (w' : World) (hw : Below w4.heap.size w4 w') => iM (aB K14 hw)
 refine aR (B := w4.heap.size) (by kernel_rfl) ?_;refine ajJ (fun _ hw => ax rfl ajL xJ) ?_;refine ajJ (fun w' hw => aC rfl ajL (aje (PP w' hw).1)) ?_;refine ajJ (fun w' hw => aC rfl ajL (ajr (CC w' hw).1 (CC w' hw).2.1 (CC w' hw).2.2)) ?_;refine bO rfl (fun _ => aA call121 rfl (evc ajL evn)) (bw aj fun w' hw => uZ M S r w' (by omega) (by omega)) ?_;simp only [aa];refine ajJ (fun _ hw => acw rfl ajL ajL HM) ?_;refine cy 1 ?_;refine ajJ (fun _ hw => bL rfl ajL ajL HA) ?_;refine cy 2 ?_;refine wpQuiet_nil ?_;intro w5 hw5;go_wp2_with fail;go_ret2;exact ⟨rfl, HB4.out.trans (hw5.mono HB4.out.size)⟩
theorem oC (m s r t k : Int) (w : World) : Calls prog 83 #[ik m s r, eE t k] w fun e w' => e = .returned (blV m s r t k) /\ Below w.heap.size w w' := by
 cases h : may m s r
 ·exact acT m s r t k w h
 ·cases h' : inP m s t k
  ·exact zt m s r t k w h h'
  ·obtain ⟨M, S, rfl, rfl, _⟩ := adW h;have hn := nI.1 h';obtain ⟨T, rfl⟩ := Int.eq_ofNat_of_zero_le hn.1;obtain ⟨j, rfl⟩ := Int.eq_ofNat_of_zero_le hn.2.2.1;by_cases hp : j = par M T
   ·exact zW M S T j r w h h' hp
   ·exact aaz M S T j r w h h' hp
end Go.Proofs.YtlmdklakcmnaiaaGreatDoor
