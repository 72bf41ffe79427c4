import Derived.Test.YtdmhelalbemlcaaGreatDoorSkah
import Derived.Maps.OwnSet
namespace Go.Proofs.YtdmhelalbemlcaaGreatDoor
set_option maxHeartbeats 8000000
open Go.Proofs.Tryz
open Go.RowKit
set_option linter.unusedVariables false
set_option linter.unusedSimpArgs false
set_option maxRecDepth 100000
theorem tL {b : Nat} {w : World} : (Instr.fieldAt 43 (.pointer (some ⟨b, 0, none⟩)) 0).run prog w = .ok (.pointer (some ⟨b, 0, none⟩)) w := by kernel_rfl
theorem acX {b : Nat} {w : World} : (Instr.fieldAt 43 (.pointer (some ⟨b, 0, none⟩)) 1).run prog w = .ok (.pointer (some ⟨b, 1, none⟩)) w := by kernel_rfl
theorem ad7 {b : Nat} {w : World} : (Instr.fieldAt 24 (.pointer (some ⟨b, 0, none⟩)) 0).run prog w = .ok (.pointer (some ⟨b, 0, none⟩)) w := by kernel_rfl
theorem aia {b : Nat} {w : World} : (Instr.fieldAt 24 (.pointer (some ⟨b, 0, none⟩)) 1).run prog w = .ok (.pointer (some ⟨b, 1, none⟩)) w := by kernel_rfl
theorem zF {α β γ : Type} {F : α -> β -> γ -> Prop} {G : Prop} {T : α -> β -> γ -> Prop} (k : (∀ a b c, F a b c -> T a b c) -> G) (h : ∀ a b c, F a b c -> T a b c) : G := k h
theorem rt {ρ : Operand -> Value} {o : Oper} {x y : Operand} {w : World} {b j : Nat} {u : Value} {n : Int} (ho : o.op = .store 3 x y) (hx : ρ x = .pointer (some ⟨b, j, none⟩)) (hy : ρ y = .int .i64 n) (h : w.cell? ⟨b, j, none⟩ = some u) (hf : w.frozen? ⟨b, j, none⟩ = false) : (execOp ρ o).run prog w = .ok .skip (w.setCell ⟨b, j, none⟩ (.int .i64 n)) :=
 dh ho hx hy (by simp [go_sem, h, hf])
theorem aav (x : Ros) : ∀ v ∈ el x, v.oneCell' = true := by
 intro v hv;simp only [el, List.mem_cons, List.not_mem_nil, or_false] at hv;rcases hv with rfl | rfl | rfl <;> rfl
section
variable {C : gZ} {D : ShI C} {w0 w w' : World} {B q p t K : Nat} {O : Nat -> Prop} {h : HuS} {s : ShS}
theorem SAt.ben {I : FuncId} {vs : Array Value} {v : Value} {M' : aZ} (a : SAt C D w0 B O w q p t K h s) (hc : ∀ {w F}, C.R.Bn w F q h.M -> Calls prog I vs w fun e w' => e = .returned v /\ ∃ F', C.R.Bn w' F' q M' /\ Only F w w' /\ Grow w F F') : Calls prog I vs w fun e w' => e = .returned v /\ SAt C D w0 B O w' q p t K { h with M := M' } s /\ ci O w w' :=
 a.ajx fun G hj _ => by
  obtain ⟨Gb, b1, b2, b3⟩ := C.ben hj;refine (hc b1).mono fun e w' ⟨he, F', k1, k2, k3⟩ => ?_
  obtain ⟨G', g1, g2, g3⟩ := b3 w' F' M' k1 k2 k3;exact ⟨he, G', g1, g2, g3⟩
theorem SAt.cP (a : SAt C D w0 B O w q p t K h s) : Calls prog 17 #[.pointer (some ⟨t, 0, none⟩)] w fun e w' => ∃ v, e = .returned v /\ aQ bg w' w.heap.size v s.cP /\ Below w.heap.size w w' := a.look fun S hS => D.cP hS
theorem SAt.mw (a : SAt C D w0 B O w q p t K h s) : Calls prog 18 #[.pointer (some ⟨t, 0, none⟩)] w fun e w' => ∃ v, e = .returned v /\ aQ bg w' w.heap.size v s.strs /\ Below w.heap.size w w' := a.look fun S hS => D.mw hS
end
theorem r5 {w : World} {b : Nat} {x y u : Value} {t : TypeId} (h : w.heap[b]? = some (.cells ([x, y] : List Value).toArray t (0, 0))) : (w.setCell ⟨b, 0, none⟩ u).heap[b]? = some (.cells ([u, y] : List Value).toArray t (0, 0)) /\ (w.setCell ⟨b, 1, none⟩ u).heap[b]? = some (.cells ([x, u] : List Value).toArray t (0, 0)) := by
 have h1 := heap_setCell_same w b 0 _ t u h;have h2 := heap_setCell_same w b 1 _ t u h;exact ⟨h1, h2⟩
theorem ahG (C : gZ) (D : ShI C) (a dd : Nat) (n0 m0 : Int) (y : Blk) (A : Option Addr) (nn cc : Nat) (l : List (Int × Int)) (w : World) (T : Tab w) (ha : a < 256) (hdd : dd < 256) (hl : RdE adr w w.heap.size A nn l) (hn : nn <= maxLen) : Calls prog 4 #[.int .u8 (a : Int), .agg #[.int .i64 n0, .int .i64 m0], blk y, .slice A nn cc, .int .u8 (dd : Int)] w fun e w' => e = .returned (.bool true) /\ Below w.heap.size w w' := by
 unfold maxLen at hn;obtain ⟨NN, hNN⟩ : ∃ NN, 3 + a % 4 = NN := ⟨_, rfl⟩;obtain ⟨k, hk8, hkr⟩ := zB n0 8 (by omega);obtain ⟨i0, hi0, hir⟩ := zB m0 NN (by omega);obtain ⟨du, hdu⟩ : ∃ du, dd % NN = du := ⟨_, rfl⟩;have HA := ae ha;have HNN := ae hNN;have HN36 : Hid (3 <= NN /\ NN <= 16 /\ NN <= 6) := ae (by omega);have HK8 := ae hk8;have HI0 := ae hi0;have HKR : Hid ((IntKind.u64.wrap n0).tmod 8 = (k : Int)) := ae hkr;have HIR := ae hir;have HKW : Hid (IntKind.i64.wrap (k : Int) = (k : Int)) := ae (eF (by omega));have HIW : Hid (IntKind.i64.wrap (i0 : Int) = (i0 : Int)) := ae (eF (by omega));have HNU : Hid (IntKind.u64.wrap (NN : Int) = (NN : Int)) := ae (IntWalk.u64_in _ ⟨by omega, by omega⟩);have H8U : Hid (IntKind.u64.wrap 8 = 8) := ae rfl;have HN0 : Hid ((NN : Int) ≠ 0) := ae (by omega);have HDC : Hid (IntKind.i64.wrap (dd : Int) = (dd : Int)) := ae (eF (by omega));have HDR : Hid ((dd : Int).tmod (NN : Int) = (du : Int)) := ae (by rw [<- hdu]; rfl);have HT := ae T;have HL := ae hl;have HLN := ae hn;have HRK : Hid (HR (17 * 60) ⟨fI (szK NN 8), 9, 0, neR NN 8⟩) := ae (HR.new (by omega) (by omega) (by omega) (by omega) (by omega) 9);have HST := ae (KpI.start (N := NN) (by omega) (by omega) hk8 hi0 y);have HOK0 : Hid (dW (gx NN 8 40) = true) := ae (by
  have := eD (mu (N := NN) (s := 8) (by omega) (by omega) (by omega) (by omega));exact ao (by show 3 <= (NN : Int) /\ (NN : Int) <= 16 /\ 1 <= ((8 : Nat) : Int) /\ ((8 : Nat) : Int) <= 64 /\ (40 : Int) <= 40 /\ (40 : Int) <= 256; omega))
 clear T ha hdd hl hn hk8 hkr hi0 hir hNN hdu;go_enter func4, ntmps4;go_upto_region 0 with fail;refine af ?_;refine alM (ct (cs := ([.int .i64 n0, .int .i64 m0] : List Value)) rfl alW) ?_;have hbx := (Below.refl w.heap.size w).alloc aj (.cells ([.int .i64 n0, .int .i64 m0] : List Value).toArray 43);have P1 := ae (heap_alloc_new w (.cells ([.int .i64 n0, .int .i64 m0] : List Value).toArray 43));have HB1 := ae hbx;obtain ⟨b6, hb6⟩ : ∃ b6, w.heap.size = b6 := ⟨_, rfl⟩;have HGb6 : Hid (w.heap.size <= b6) := ae (by rw [<- hb6]; exact aj);rw [hb6] at P1 ⊢;clear hbx hb6;generalize w.alloc (.cells ([.int .i64 n0, .int .i64 m0] : List Value).toArray 43) = w1 at *;refine alM (cm (c := y) rfl alW) ?_;have hbx := (Below.refl w1.heap.size w1).alloc aj (.cells (cel y).toArray 45);have Y2 := ae (heap_alloc_new w1 (.cells (cel y).toArray 45));have HB2 := ae (HB1.out.trans (hbx.mono HB1.out.size));have P2 := ae (aC P1 hbx);obtain ⟨b7, hb7⟩ : ∃ b7, w1.heap.size = b7 := ⟨_, rfl⟩;have HGb7 : Hid (w.heap.size <= b7) := ae (by rw [<- hb7]; exact HB1.out.size);rw [hb7] at Y2 ⊢;clear hbx hb7;generalize w1.alloc (.cells (cel y).toArray 45) = w2 at *;refine aH 1 ?_;go_upto_region 1 with fail;refine aJ 1 ?_;refine ay rfl (aB call6 rfl (evc alW evn)) ?_;refine (y8 a NN w2 HA HNN).mono ?_;rintro e w3 ⟨rfl, b3⟩;have HB3 := ae (HB2.out.trans (b3.mono HB2.out.size));have P3 := ae (aC P2 b3);have Y3 := ae (aC Y2 b3);clear b3;refine aR ?_;refine alM (dR (cs := [.int .i64 0, .int .i64 0, .int .i64 0]) acE rfl) ?_;refine aG rfl (gF (cs := el (neR NN 8)) (ds := [.int .i64 0, .int .i64 0, .int .i64 0]) (by kernel_rfl) rfl (aav _) rfl (ev rfl) (ev rfl)) ?_;simp only [aa];have hbx := (Below.refl w3.heap.size w3).alloc aj (.cells (el (neR NN 8)).toArray 24);have G4 := ae (heap_alloc_new w3 (.cells (el (neR NN 8)).toArray 24));have HB4 := ae (HB3.out.trans (hbx.mono HB3.out.size));have P4 := ae (aC P3 hbx);have Y4 := ae (aC Y3 hbx);obtain ⟨b11, hb11⟩ : ∃ b11, w3.heap.size = b11 := ⟨_, rfl⟩;have HGb11 : Hid (w.heap.size <= b11) := ae (by rw [<- hb11]; exact HB3.out.size);rw [hb11] at G4 ⊢;clear hbx hb11;generalize w3.alloc (.cells (el (neR NN 8)).toArray 24) = w4 at *;refine ah ?_;go_upto_region 2 with fail;refine af ?_;refine alM (bN (cs := el (neR NN 8)) underlying24 rfl (by kernel_rfl) rfl alW (aP G4)) ?_;refine ay rfl (aB call7 rfl (evc alW (evc evk evn))) ?_;refine (D.new_ok (N := NN) (T := 8) (room := 2) (r := 40) w4 HOK0 (by omega) (by omega)).mono ?_;rintro e w5 ⟨t, S, rfl, p5, b5, s5⟩;have HB5 := ae (HB4.out.trans (b5.mono HB4.out.size));have P5 := ae (aC P4 b5);have Y5 := ae (aC Y4 b5);have G5 := ae (aC G4 b5);have HP5 := ae p5;have HS5 : Hid (∀ b, S b -> w4.heap.size <= b) := ae s5;clear p5 b5 s5;refine aR ?_;refine runs 3 ?_;refine aH 2 ?_;go_upto_region 3 with fail;refine af ?_;refine alM (bN (cs := el (neR NN 8)) underlying24 rfl (by kernel_rfl) rfl alW (aP G5)) ?_;refine ay rfl (aB call10 rfl (evc alW evn)) ?_;refine (adQ C NN w5 (fun i hi => (World.cell?_of_block (w := w) (HB5.out.block _ (ol.start HT).lo)).trans (HT.out i hi)) HN36.out.1 HN36.out.2.1).mono ?_;rintro e w6 ⟨p, q, p2, q2, F2, rfl, a6, _⟩;have b6_ := a6.bel;have HB6 := ae (HB5.out.trans (b6_.mono HB5.out.size));have P6 := ae (aC P5 b6_);have Y6 := ae (aC Y5 b6_);have G6 := ae (aC G5 b6_);have HS6 : Hid (SAt C D w w.heap.size (fun b => b = b6 \/ b = b7 \/ b = b11) w6 q p t 0 ⟨fI (szK NN 8), 9, 0, neR NN 8⟩ (fe NN 8 2)) := ae (by
  obtain ⟨G6, g1, g2, g3, g4, g5⟩ := a6;have l5 := D.lt HP5;refine SAt.start HT g1 (D.below HP5 b6_) (fun b e => ar HB5.out.size (g2 b e)) (fun b e => ar HB4.out.size (HS5.out b e)) (fun b e1 e2 => by have := g2 b e1; have := l5 b e2; omega) HB6 fun b e => ?_
  have h6 := aS P5;have h7 := aS Y5;have h11 := aS G5;have i6 := aS P4;have i7 := aS Y4;have i11 := aS G4;have hz := b6_.size;rcases e with e | e | e <;> subst e <;> exact ⟨fun z => by have := g2 _ z; omega, fun z => by have := HS5.out _ z; omega, by omega⟩)
 clear a6 b6_;refine aR ?_;refine runs 3 ?_;refine runs 3 ?_;refine aH 1 ?_;go_upto_region 4 with fail;refine aJ 1 ?_;refine alM (aN false rfl alW evk rfl) ?_;refine runs 2 ?_;refine alT (cR false underlying34 rfl alW evk rfl) ?_;refine aH 1 ?_;have HNE : Hid (b7 ≠ b6 /\ b11 ≠ b6) := ae (by
  refine ⟨fun e => ?_, fun e => ?_⟩
  ·subst e;have h3 := P6.out;rw [Y6.out] at h3;injection h3 with h3;injection h3 with _ h3;exact absurd h3 (by decide)
  ·subst e;have h3 := P6.out;rw [G6.out] at h3;injection h3 with h3;injection h3 with _ h3;exact absurd h3 (by decide))
 go_upto_region 6 with fail;refine af ?_;refine alM (ax rfl alW tL) ?_;refine alM (aE rfl alW (bV (k := n0) ((aP P6) 0 _ rfl))) ?_;refine alM (pL rfl alW) ?_;refine alM (ax rfl alW aia) ?_;refine alM (aE rfl alW (bV (k := 8) ((aP G6) 1 _ rfl))) ?_;refine alM (tY rfl alW H8U) ?_;refine alM (sm rfl alW alW (by decide) HKR) ?_;refine alM (tX rfl alW HKW) ?_;refine alM (ax rfl alW tL) ?_;refine aG rfl (rt rfl (ev rfl) (ev rfl) ((aP P6.out) 0 _ rfl) (frozen_of_row w6 b6 0 _ _ P6.out)) ?_;simp only [aa];have ho : Only (fun b => b = b6) w6 (w6.setCell ⟨b6, 0, none⟩ (.int .i64 (k : Int))) := (Only.refl (fun b => b = b6) w6).setCell (p := ⟨b6, 0, none⟩) (.inl rfl) _;have P7 := ae (r5 (u := .int .i64 (k : Int)) P6).1;replace P7 := ae P7;have Y7 := ae (ho.keep Y6 HNE.out.1);have G7 := ae (ho.keep G6 HNE.out.2);have HS7 := ae (HS6.out.mine (.inl rfl) HGb6 ho);clear ho;generalize w6.setCell ⟨b6, 0, none⟩ (.int .i64 (k : Int)) = w7 at *;refine ah ?_;go_upto_region 7 with fail;refine af ?_;refine alM (ax rfl alW acX) ?_;refine alM (aE rfl alW (bV (k := m0) ((aP P7) 1 _ rfl))) ?_;refine alM (pL rfl alW) ?_;refine alM (ax rfl alW ad7) ?_;refine alM (aE rfl alW (bV (k := (NN : Int)) ((aP G7) 0 _ rfl))) ?_;refine alM (tY rfl alW HNU) ?_;refine alM (sm rfl alW alW HN0 HIR) ?_;refine alM (tX rfl alW HIW) ?_;refine alM (ax rfl alW acX) ?_;refine aG rfl (rt rfl (ev rfl) (ev rfl) ((aP P7.out) 1 _ rfl) (frozen_of_row w7 b6 1 _ _ P7.out)) ?_;simp only [aa];have ho : Only (fun b => b = b6) w7 (w7.setCell ⟨b6, 1, none⟩ (.int .i64 (i0 : Int))) := (Only.refl (fun b => b = b6) w7).setCell (p := ⟨b6, 1, none⟩) (.inl rfl) _;have P8 := ae (r5 (u := .int .i64 (i0 : Int)) P7).2;replace P8 := ae P8;have Y8 := ae (ho.keep Y7 HNE.out.1);have G8 := ae (ho.keep G7 HNE.out.2);have HS8 := ae (HS7.out.mine (.inl rfl) HGb6 ho);clear ho;generalize w7.setCell ⟨b6, 1, none⟩ (.int .i64 (i0 : Int)) = w8 at *;refine ah ?_;go_upto_region 8 with fail;refine aJ 1 ?_;refine alM (bN (cs := ([.int .i64 (k : Int), .int .i64 (i0 : Int)] : List Value)) underlying43 rfl (by kernel_rfl) rfl alW (aP P8)) ?_;refine alM (aV (c := y) rfl alW (aP Y8)) ?_;refine alM (rY (s := (k : Int)) (m := (i0 : Int)) (b := y) rfl alW alW) ?_;refine alM (da (E := cd) (a := cG ⟨(k : Int), (i0 : Int), y⟩) rfl alW rfl (by decide)) ?_;refine ay rfl (aB call13 rfl (evc alW (evc evk (evc alW evn)))) ?_;refine (HS8.out.dr (Q := 1) ⟨(k : Int), (i0 : Int), y⟩ (by omega) (by omega)).mono ?_;rintro e w9 ⟨rfl, a9, kk⟩;rw [HST.out.1];have HS9 := ae a9;have P9 := ae (kk.at_ (.inl rfl) P8);have Y9 := ae (kk.at_ (.inr (.inl rfl)) Y8);have G9 := ae (kk.at_ (.inr (.inr rfl)) G8);clear a9 kk;refine aR ?_;refine alM (aN false rfl alW evk rfl) ?_;refine ah ?_;obtain ⟨s9, hs9⟩ : ∃ s9, ji (fe NN 8 2) 1 [⟨(k : Int), (i0 : Int), y⟩] = s9 := ⟨_, rfl⟩;have HKP : Hid (KpI NN k i0 y s9) := ae (hs9 ▸ HST.out.2);rw [hs9] at HS9;clear HST hs9;go_upto_region 10 with fail;refine aJ 2 ?_;refine alM (vE rfl alW HDC) ?_;refine alM (ax rfl alW ad7) ?_;refine alM (aE rfl alW (bV (k := (NN : Int)) ((aP G9) 0 _ rfl))) ?_;refine alM (aer rfl alW alW HN0 HDR) ?_;refine ay rfl (aB call14 rfl (evc alW (evc alW evn))) ?_;refine (HS9.out.ben fun hb => C.R.fail ((du : Nat) : Int) hb).mono ?_;rintro e w10 ⟨rfl, a10, kk⟩;have HS10 := ae a10;have P10 := ae (kk.at_ (.inl rfl) P9);have Y10 := ae (kk.at_ (.inr (.inl rfl)) Y9);clear a10 kk;refine aR ?_;refine ah ?_;obtain ⟨h10, hh10⟩ : ∃ h10 : HuS, ({ (⟨fI (szK NN 8), 9, 0, neR NN 8⟩ : HuS) with M := ki (⟨fI (szK NN 8), 9, 0, neR NN 8⟩ : HuS).M ((du : Nat) : Int) } : HuS) = h10 := ⟨_, rfl⟩;have HR10 : Hid (HR (17 * 60) h10) := ae (hh10 ▸ HRK.out.fail _);rw [hh10] at HS10;clear HRK hh10;go_upto_region 11 with fail;refine cC 1 ?_;go_wp2_with fail
 go_loopw [17] (fun z wr => ∃ (i : Nat) (hu : HuS) (su : ShS), z = .int .i64 i /\ i <= nn /\ i <= 40 /\ SAt C D w w.heap.size (fun b => b = b6 \/ b = b7 \/ b = b11) wr q p t 1 hu su /\ HR (17 * (59 - i)) hu /\ KpI NN k i0 y su /\ (wr.heap[b6]? = some (.cells ([.int .i64 (k : Int), .int .i64 (i0 : Int)] : List Value).toArray 43 (0, 0))) /\ wr.heap[b7]? = some (.cells (cel y).toArray 45 (0, 0))) (fun z _ => 40 - (intOf z).toNat)
 case atStart => exact ⟨0, h10, s9, by go_num, Nat.zero_le _, Nat.zero_le _, HS10, HR10.out.less (by omega), HKP, P10, Y10⟩
 case round =>
  clear HS10 HR10 HKP P10 Y10;obtain ⟨i, hu, su, rfl, hi1, hi2, sr, hr, hkp, pr, yr⟩ := hrel;have HI1 := ae hi1;have HI2 := ae hi2;have HSr := ae sr;have HRr := ae hr;have HKr := ae hkp;have Pr := ae pr;have Yr := ae yr;clear hi1 hi2 sr hr hkp pr yr;by_cases hlt : i < nn /\ i < 40
  ·have HI := ae hlt;have HLT1 : Hid (decide ((i : Int) < (nn : Int)) = true) := ae (ao (by omega));have HLT2 : Hid (decide ((i : Int) < 40) = true) := ae (ao (by omega));have HIA : Hid (IntKind.i64.wrap ((i : Int) + 1) = ((i + 1 : Nat) : Int)) := ae (by rw [eF ⟨by omega, by omega⟩]; omega);obtain ⟨bA, oA, rfl, hbA, hcA⟩ := (HL.out.below HSr.out.bel).plc hlt.1;obtain ⟨⟨pn, pm⟩, hpp⟩ : ∃ z, l.getD i (0, 0) = z := ⟨_, rfl⟩;rw [hpp] at hcA;have HCA := ae hcA;obtain ⟨g1, g2⟩ := HR.rd (k := 17 * (59 - (i + 1))) (h := hu) (s := su) (by rw [show 17 * (59 - (i + 1)) + 17 = 17 * (59 - i) by omega]; exact HRr) pn pm;have HG1 := ae g1;have HG2 := ae g2;have HKn := ae (HKr.out.read hu pn pm);clear hlt hbA hcA g1 g2 hpp;go_upto_region 12 with fail;refine aJ 2 ?_;refine alM (lD underlying52 rfl alW) ?_;refine alM (aY true rfl alW alW HLT1) ?_;refine runs 2 ?_;refine alT (aY true rfl alW evk HLT2) ?_;refine aH 1 ?_;go_upto_region 14 with fail;refine aJ 3 ?_;refine runs 1 ?_;refine alM (cu (E := adr) rfl alW alW HI.out.1) ?_;refine alM (bN (cs := er pn pm) underlying43 rfl (by kernel_rfl) rfl alW HCA) ?_;refine ay rfl (aB call15 rfl (evc alW (evc alW (evc alW evn)))) ?_;refine (HSr.out.read pn pm HG1 rfl).mono ?_;rintro e wq ⟨rfl, aq, kk⟩;have HSq := ae aq;have Pq := ae (kk.at_ (.inl rfl) Pr);have Yq := ae (kk.at_ (.inr (.inl rfl)) Yr);clear aq kk;refine aR ?_;refine ah ?_;go_upto_region 13 with fail;refine aJ 1 ?_;refine alM (bP rfl alW evk HIA) ?_;refine aH 1 ?_;go_wp2_with fail;go_roundw
   case rel => exact ⟨i + 1, _, _, by go_num, HI.out.1, HI.out.2, HSq, HG2, HKn, Pq, Yq⟩
   case measure => have := HI.out; simp [intOf]; omega
  obtain ⟨X, hX⟩ : ∃ X, fC su hu (k : Int) (i0 : Int) = X := ⟨_, rfl⟩;have hown := HKr.out.own hu;rw [hX] at hown;have HOW := ae hown.1;have HOP := ae hown.2;have HX := ae hX;have hkf : KpI NN k i0 y (su.tch k) := HKr.out.tch HK8;have HKF := ae hkf;clear hown hX hkf;have hcase : (¬ i < nn) \/ (i < nn /\ ¬ i < 40) := by omega
  clear hlt;go_upto_region 12 with fail;refine aJ 2 ?_;refine alM (lD underlying52 rfl alW) ?_;rcases hcase with hq | hq
  ·have HLT1 : Hid (decide ((i : Int) < (nn : Int)) = false) := ae (am (by omega));clear hq;refine alM (aY false rfl alW alW HLT1) ?_;refine bq 2 rfl (aL rfl alW) (by kernel_rfl) ?_;simp only [bX, ac, aa];refine aH 1 ?_;go_upto_region 15 with fail;refine aJ 2 ?_;refine alM (bN (cs := ([.int .i64 (k : Int), .int .i64 (i0 : Int)] : List Value)) underlying43 rfl (by kernel_rfl) rfl alW (aP Pr)) ?_;refine ay rfl (aB call15 rfl (evc alW (evc alW (evc alW evn)))) ?_;refine (HSr.out.read (k : Int) (i0 : Int) HOP HX).mono ?_;rintro e w5' ⟨rfl, a5, kk⟩;rw [HOW.out] at a5 ⊢;have HSz := ae a5;have Pz := ae (kk.at_ (.inl rfl) Pr);have Yz := ae (kk.at_ (.inr (.inl rfl)) Yr);clear a5 kk;refine aR ?_;refine runs 3 ?_;refine alM (aX rfl) ?_;refine aG rfl (eC (c := y) rfl (ev rfl) (ev rfl)) ?_;simp only [aa];have hbx := (Below.refl w5'.heap.size w5').alloc aj (.cells (cel y).toArray 45);have Zt := ae (heap_alloc_new w5' (.cells (cel y).toArray 45));have HSt := ae (HSz.out.below hbx);have Pt := ae (aC Pz hbx);have Yt := ae (aC Yz hbx);obtain ⟨b18, hb18⟩ : ∃ b18, w5'.heap.size = b18 := ⟨_, rfl⟩;rw [hb18] at Zt ⊢;clear hbx hb18;generalize w5'.alloc (.cells (cel y).toArray 45) = wt at *;refine aH 1 ?_;go_upto_region 16 with fail;have HBt : Hid (Below wt.heap.size wt (World.drew wt)) := ae (bd ak);refine wp_region_held (S := fun w' => Below wt.heap.size wt w') (by kernel_rfl) ?_;change wpAnyH _ _ _ _ _ 25 _ _ wt.drew;refine al9 0 rfl HBt ?_;refine alP 1 rfl (fun _ hw => aI true rfl alW evk rfl) HBt ?_;refine al9 2 rfl HBt ?_;refine aD 3 rfl (by kernel_rfl) (by kernel_rfl) (by kernel_rfl) alH (fun _ hw => aV (c := y) rfl alW (aP (aC Zt hw))) (fun _ _ _ h => h) HBt ?_;simp only [aa];refine aD 4 rfl (by kernel_rfl) (by kernel_rfl) (by kernel_rfl) alH (fun _ hw => aV (c := y) rfl alW (aP (aC Yt hw))) (fun _ _ _ h => h) HBt ?_;simp only [aa];refine aD 5 rfl (by kernel_rfl) (by kernel_rfl) (by kernel_rfl) alH (fun _ hw => rV true rfl alW alW (ao rfl)) (fun _ _ _ h => h) HBt ?_;simp only [aa];refine alP 6 rfl (fun _ hw => im rfl alW alW) HBt ?_;refine al9 7 rfl HBt ?_;refine aD 8 rfl (by kernel_rfl) (by kernel_rfl) (by kernel_rfl) alH (fun _ hw => aL rfl alW) (fun _ _ _ h => h) HBt ?_;simp only [aa];refine aD 10 rfl (by kernel_rfl) (by kernel_rfl) (by kernel_rfl) alH (fun _ hw => ax rfl alW tL) (fun _ _ _ h => h) HBt ?_;simp only [aa];refine aD 11 rfl (by kernel_rfl) (by kernel_rfl) (by kernel_rfl) alH (fun _ hw => aE rfl alW (bV (k := (k : Int)) ((aP (aC Pt hw)) 0 _ rfl))) (fun _ _ _ h => h) HBt ?_;simp only [aa];apply zF (F := fun (vD vB : Value) (wz : World) => ∃ A1 c1 A2 c2, vD = .slice A1 1 c1 /\ vB = .slice A2 1 c2 /\ RdE bg wz wz.heap.size A1 1 [(k : Int)] /\ RdE bg wz wz.heap.size A2 1 [(k : Int)] /\ Below wt.heap.size wt wz)
   ·intro kk;refine i3 9 12 rfl rfl (by kernel_rfl) alH alH (aB call17 rfl (evc alW evn)) ?_ (da (E := bg) (a := (k : Int)) rfl alW rfl (by decide)) (HBt.out.alloc HBt.out.size _) ?_
    ·refine (HSt.out.below HBt).cP.mono ?_;rintro e wA ⟨vA, rfl, mA, bA⟩;rw [HKF.out.cP] at mA;obtain ⟨A1, c1, hvA, g1, g2⟩ := mA.form;replace hvA : vA = .slice A1 1 c1 := hvA;subst hvA;have HSA := ae (HBt.out.trans (bA.mono HBt.out.size));have HRA := ae mA.rd;clear bA mA g1 g2;refine ⟨_, rfl, HSA, ?_⟩;simp only [aa];refine lG 12 rfl (by kernel_rfl) alH (da (E := bg) (a := (k : Int)) rfl alW rfl (by decide)) (HSA.out.alloc HSA.out.size _) ?_;simp only [aa];have hz : RdE bg (wA.alloc (.cells (bg.cel (k : Int)).toArray bg.t)) (wA.heap.size + 1) (some ⟨wA.heap.size, 0, none⟩) 1 [(k : Int)] := eB (E := bg) (l := [(k : Int)]) wA (bg.cel (k : Int)).toArray 3 rfl;have hsz : (wA.alloc (.cells (bg.cel (k : Int)).toArray bg.t)).heap.size = wA.heap.size + 1 := al;have r1 : RdE bg (wA.alloc (.cells (bg.cel (k : Int)).toArray bg.t)) (wA.alloc (.cells (bg.cel (k : Int)).toArray bg.t)).heap.size A1 1 [(k : Int)] := by rw [hsz]; exact HRA.out.up _
     rw [<- hsz] at hz;have bz := HSA.out.alloc HSA.out.size (.cells (bg.cel (k : Int)).toArray bg.t);generalize wA.alloc (.cells (bg.cel (k : Int)).toArray bg.t) = wz at *;obtain ⟨vD, hvD⟩ : ∃ vD, Value.slice A1 1 c1 = vD := ⟨_, rfl⟩;obtain ⟨vB, hvB⟩ : ∃ vB, Value.slice (some ⟨wA.heap.size, 0, none⟩) 1 1 = vB := ⟨_, rfl⟩;rw [hvD, hvB];exact kk vD vB wz ⟨_, _, _, _, hvD.symm, hvB.symm, r1, hz, bz⟩
    ·skip
     simp only [aa];have hbx := HBt.out.alloc HBt.out.size (.cells (bg.cel (k : Int)).toArray bg.t);have hz : RdE bg ((World.drew wt).alloc (.cells (bg.cel (k : Int)).toArray bg.t)) ((World.drew wt).heap.size + 1) (some ⟨(World.drew wt).heap.size, 0, none⟩) 1 [(k : Int)] := eB (E := bg) (l := [(k : Int)]) (World.drew wt) (bg.cel (k : Int)).toArray 3 rfl;have hsz : ((World.drew wt).alloc (.cells (bg.cel (k : Int)).toArray bg.t)).heap.size = (World.drew wt).heap.size + 1 := al;refine cW 9 rfl (by kernel_rfl) alH (aB call17 rfl (evc alW evn)) ?_;refine (HSt.out.below hbx).cP.mono ?_;rintro e wA ⟨vA, rfl, mA, bA⟩;rw [HKF.out.cP] at mA;obtain ⟨A1, c1, hvA, g1, g2⟩ := mA.form;replace hvA : vA = .slice A1 1 c1 := hvA;subst hvA;have hSA := hbx.trans (bA.mono hbx.size);refine ⟨_, rfl, hSA, ?_⟩;simp only [aa];have r1 : RdE bg wA wA.heap.size A1 1 [(k : Int)] := mA.rd;have r2 := (hz.below (bA.mono (Nat.le_of_eq hsz.symm))).more (B' := wA.heap.size) (by have := bA.size; omega);obtain ⟨vD, hvD⟩ : ∃ vD, Value.slice A1 1 c1 = vD := ⟨_, rfl⟩;obtain ⟨vB, hvB⟩ : ∃ vB, Value.slice (some ⟨(World.drew wt).heap.size, 0, none⟩) 1 1 = vB := ⟨_, rfl⟩;rw [hvD, hvB];exact kk vD vB wA ⟨_, _, _, _, hvD.symm, hvB.symm, r1, r2, hSA⟩
   ·rintro vD vB wz ⟨A1, c1, A2, c2, hv1, hv2, r1, r2, bz⟩;subst hv1;subst hv2;have HR1 := ae r1;have HR2 := ae r2;have HBz := ae bz;clear r1 r2 bz;refine cW 13 rfl (by kernel_rfl) alH (aB call16 rfl (evc alW (evc alW evn))) ?_;refine (o9 A1 A2 1 1 c1 c2 wz.heap.size [(k : Int)] [(k : Int)] wz HR1 HR2 aj (by unfold maxLen; decide)).mono ?_;rintro e wy ⟨rfl, by_⟩;have HBy := ae (HBz.out.trans (by_.mono HBz.out.size));rw [show lU [(k : Int)] [(k : Int)] = true from beq_self_eq_true _];clear by_;refine ⟨_, rfl, HBy, ?_⟩;simp only [aa];refine alP 14 rfl (fun _ hw => im rfl alW alW) HBy ?_;refine al9 15 rfl HBy ?_;refine aD 16 rfl (by kernel_rfl) (by kernel_rfl) (by kernel_rfl) alH (fun _ hw => aL rfl alW) (fun _ _ _ h => h) HBy ?_;simp only [aa];refine cW 17 rfl (by kernel_rfl) alH (aB call18 rfl (evc alW evn)) ?_;refine (HSt.out.below HBy).mw.mono ?_;rintro e wx ⟨vx, rfl, mx, bx_⟩;obtain ⟨A3, c3, rfl, g1, g2⟩ := mx.form;have HBx := ae (HBy.out.trans (bx_.mono HBy.out.size));have HLE : Hid (decide (((su.tch k).strs.length : Int) <= 2) = true) := ae (ao (by have := HKF.out.strs; omega));clear mx bx_ g1 g2;refine ⟨_, rfl, HBx, ?_⟩;simp only [aa];refine aD 18 rfl (by kernel_rfl) (by kernel_rfl) (by kernel_rfl) alH (fun _ hw => lD underlying48 rfl alW) (fun _ _ _ h => h) HBx ?_;simp only [aa];refine aD 19 rfl (by kernel_rfl) (by kernel_rfl) (by kernel_rfl) alH (fun _ hw => jy true rfl alW evk HLE) (fun _ _ _ h => h) HBx ?_;simp only [aa];refine alP 20 rfl (fun _ hw => im rfl alW alW) HBx ?_;refine al9 21 rfl HBx ?_;refine cW 22 rfl (by kernel_rfl) alH (aB call9 rfl evn) ?_;refine (zP D.toShPr wx).mono ?_;rintro e wu ⟨rfl, bu⟩;have HBu := ae (HBx.out.trans (bu.mono HBx.out.size));clear bu;refine ⟨_, rfl, HBu, ?_⟩;simp only [aa];refine alP 23 rfl (fun _ hw => im rfl alW alW) HBu ?_;refine ama 24 rfl HBu ?_;refine wpAnyH_done (by kernel_rfl) ?_ _;go_wp2_with fail;go_ret;exact ⟨rfl, HSt.out.bel.trans (HBu.out.mono HSt.out.bel.size)⟩
  ·have HLT1 : Hid (decide ((i : Int) < (nn : Int)) = true) := ae (ao (by omega));have HLT2 : Hid (decide ((i : Int) < 40) = false) := ae (am (by omega));clear hq;refine alM (aY true rfl alW alW HLT1) ?_;refine runs 2 ?_;refine alT (aY false rfl alW evk HLT2) ?_;refine aH 1 ?_;go_upto_region 15 with fail;refine aJ 2 ?_;refine alM (bN (cs := ([.int .i64 (k : Int), .int .i64 (i0 : Int)] : List Value)) underlying43 rfl (by kernel_rfl) rfl alW (aP Pr)) ?_;refine ay rfl (aB call15 rfl (evc alW (evc alW (evc alW evn)))) ?_;refine (HSr.out.read (k : Int) (i0 : Int) HOP HX).mono ?_;rintro e w5' ⟨rfl, a5, kk⟩;rw [HOW.out] at a5 ⊢;have HSz := ae a5;have Pz := ae (kk.at_ (.inl rfl) Pr);have Yz := ae (kk.at_ (.inr (.inl rfl)) Yr);clear a5 kk;refine aR ?_;refine runs 3 ?_;refine alM (aX rfl) ?_;refine aG rfl (eC (c := y) rfl (ev rfl) (ev rfl)) ?_;simp only [aa];have hbx := (Below.refl w5'.heap.size w5').alloc aj (.cells (cel y).toArray 45);have Zt := ae (heap_alloc_new w5' (.cells (cel y).toArray 45));have HSt := ae (HSz.out.below hbx);have Pt := ae (aC Pz hbx);have Yt := ae (aC Yz hbx);obtain ⟨b18, hb18⟩ : ∃ b18, w5'.heap.size = b18 := ⟨_, rfl⟩;rw [hb18] at Zt ⊢;clear hbx hb18;generalize w5'.alloc (.cells (cel y).toArray 45) = wt at *;refine aH 1 ?_;go_upto_region 16 with fail;have HBt : Hid (Below wt.heap.size wt (World.drew wt)) := ae (bd ak);refine wp_region_held (S := fun w' => Below wt.heap.size wt w') (by kernel_rfl) ?_;change wpAnyH _ _ _ _ _ 25 _ _ wt.drew;refine al9 0 rfl HBt ?_;refine alP 1 rfl (fun _ hw => aI true rfl alW evk rfl) HBt ?_;refine al9 2 rfl HBt ?_;refine aD 3 rfl (by kernel_rfl) (by kernel_rfl) (by kernel_rfl) alH (fun _ hw => aV (c := y) rfl alW (aP (aC Zt hw))) (fun _ _ _ h => h) HBt ?_;simp only [aa];refine aD 4 rfl (by kernel_rfl) (by kernel_rfl) (by kernel_rfl) alH (fun _ hw => aV (c := y) rfl alW (aP (aC Yt hw))) (fun _ _ _ h => h) HBt ?_;simp only [aa];refine aD 5 rfl (by kernel_rfl) (by kernel_rfl) (by kernel_rfl) alH (fun _ hw => rV true rfl alW alW (ao rfl)) (fun _ _ _ h => h) HBt ?_;simp only [aa];refine alP 6 rfl (fun _ hw => im rfl alW alW) HBt ?_;refine al9 7 rfl HBt ?_;refine aD 8 rfl (by kernel_rfl) (by kernel_rfl) (by kernel_rfl) alH (fun _ hw => aL rfl alW) (fun _ _ _ h => h) HBt ?_;simp only [aa];refine aD 10 rfl (by kernel_rfl) (by kernel_rfl) (by kernel_rfl) alH (fun _ hw => ax rfl alW tL) (fun _ _ _ h => h) HBt ?_;simp only [aa];refine aD 11 rfl (by kernel_rfl) (by kernel_rfl) (by kernel_rfl) alH (fun _ hw => aE rfl alW (bV (k := (k : Int)) ((aP (aC Pt hw)) 0 _ rfl))) (fun _ _ _ h => h) HBt ?_;simp only [aa];apply zF (F := fun (vD vB : Value) (wz : World) => ∃ A1 c1 A2 c2, vD = .slice A1 1 c1 /\ vB = .slice A2 1 c2 /\ RdE bg wz wz.heap.size A1 1 [(k : Int)] /\ RdE bg wz wz.heap.size A2 1 [(k : Int)] /\ Below wt.heap.size wt wz)
   ·intro kk;refine i3 9 12 rfl rfl (by kernel_rfl) alH alH (aB call17 rfl (evc alW evn)) ?_ (da (E := bg) (a := (k : Int)) rfl alW rfl (by decide)) (HBt.out.alloc HBt.out.size _) ?_
    ·refine (HSt.out.below HBt).cP.mono ?_;rintro e wA ⟨vA, rfl, mA, bA⟩;rw [HKF.out.cP] at mA;obtain ⟨A1, c1, hvA, g1, g2⟩ := mA.form;replace hvA : vA = .slice A1 1 c1 := hvA;subst hvA;have HSA := ae (HBt.out.trans (bA.mono HBt.out.size));have HRA := ae mA.rd;clear bA mA g1 g2;refine ⟨_, rfl, HSA, ?_⟩;simp only [aa];refine lG 12 rfl (by kernel_rfl) alH (da (E := bg) (a := (k : Int)) rfl alW rfl (by decide)) (HSA.out.alloc HSA.out.size _) ?_;simp only [aa];have hz : RdE bg (wA.alloc (.cells (bg.cel (k : Int)).toArray bg.t)) (wA.heap.size + 1) (some ⟨wA.heap.size, 0, none⟩) 1 [(k : Int)] := eB (E := bg) (l := [(k : Int)]) wA (bg.cel (k : Int)).toArray 3 rfl;have hsz : (wA.alloc (.cells (bg.cel (k : Int)).toArray bg.t)).heap.size = wA.heap.size + 1 := al;have r1 : RdE bg (wA.alloc (.cells (bg.cel (k : Int)).toArray bg.t)) (wA.alloc (.cells (bg.cel (k : Int)).toArray bg.t)).heap.size A1 1 [(k : Int)] := by rw [hsz]; exact HRA.out.up _
     rw [<- hsz] at hz;have bz := HSA.out.alloc HSA.out.size (.cells (bg.cel (k : Int)).toArray bg.t);generalize wA.alloc (.cells (bg.cel (k : Int)).toArray bg.t) = wz at *;obtain ⟨vD, hvD⟩ : ∃ vD, Value.slice A1 1 c1 = vD := ⟨_, rfl⟩;obtain ⟨vB, hvB⟩ : ∃ vB, Value.slice (some ⟨wA.heap.size, 0, none⟩) 1 1 = vB := ⟨_, rfl⟩;rw [hvD, hvB];exact kk vD vB wz ⟨_, _, _, _, hvD.symm, hvB.symm, r1, hz, bz⟩
    ·skip
     simp only [aa];have hbx := HBt.out.alloc HBt.out.size (.cells (bg.cel (k : Int)).toArray bg.t);have hz : RdE bg ((World.drew wt).alloc (.cells (bg.cel (k : Int)).toArray bg.t)) ((World.drew wt).heap.size + 1) (some ⟨(World.drew wt).heap.size, 0, none⟩) 1 [(k : Int)] := eB (E := bg) (l := [(k : Int)]) (World.drew wt) (bg.cel (k : Int)).toArray 3 rfl;have hsz : ((World.drew wt).alloc (.cells (bg.cel (k : Int)).toArray bg.t)).heap.size = (World.drew wt).heap.size + 1 := al;refine cW 9 rfl (by kernel_rfl) alH (aB call17 rfl (evc alW evn)) ?_;refine (HSt.out.below hbx).cP.mono ?_;rintro e wA ⟨vA, rfl, mA, bA⟩;rw [HKF.out.cP] at mA;obtain ⟨A1, c1, hvA, g1, g2⟩ := mA.form;replace hvA : vA = .slice A1 1 c1 := hvA;subst hvA;have hSA := hbx.trans (bA.mono hbx.size);refine ⟨_, rfl, hSA, ?_⟩;simp only [aa];have r1 : RdE bg wA wA.heap.size A1 1 [(k : Int)] := mA.rd;have r2 := (hz.below (bA.mono (Nat.le_of_eq hsz.symm))).more (B' := wA.heap.size) (by have := bA.size; omega);obtain ⟨vD, hvD⟩ : ∃ vD, Value.slice A1 1 c1 = vD := ⟨_, rfl⟩;obtain ⟨vB, hvB⟩ : ∃ vB, Value.slice (some ⟨(World.drew wt).heap.size, 0, none⟩) 1 1 = vB := ⟨_, rfl⟩;rw [hvD, hvB];exact kk vD vB wA ⟨_, _, _, _, hvD.symm, hvB.symm, r1, r2, hSA⟩
   ·rintro vD vB wz ⟨A1, c1, A2, c2, hv1, hv2, r1, r2, bz⟩;subst hv1;subst hv2;have HR1 := ae r1;have HR2 := ae r2;have HBz := ae bz;clear r1 r2 bz;refine cW 13 rfl (by kernel_rfl) alH (aB call16 rfl (evc alW (evc alW evn))) ?_;refine (o9 A1 A2 1 1 c1 c2 wz.heap.size [(k : Int)] [(k : Int)] wz HR1 HR2 aj (by unfold maxLen; decide)).mono ?_;rintro e wy ⟨rfl, by_⟩;have HBy := ae (HBz.out.trans (by_.mono HBz.out.size));rw [show lU [(k : Int)] [(k : Int)] = true from beq_self_eq_true _];clear by_;refine ⟨_, rfl, HBy, ?_⟩;simp only [aa];refine alP 14 rfl (fun _ hw => im rfl alW alW) HBy ?_;refine al9 15 rfl HBy ?_;refine aD 16 rfl (by kernel_rfl) (by kernel_rfl) (by kernel_rfl) alH (fun _ hw => aL rfl alW) (fun _ _ _ h => h) HBy ?_;simp only [aa];refine cW 17 rfl (by kernel_rfl) alH (aB call18 rfl (evc alW evn)) ?_;refine (HSt.out.below HBy).mw.mono ?_;rintro e wx ⟨vx, rfl, mx, bx_⟩;obtain ⟨A3, c3, rfl, g1, g2⟩ := mx.form;have HBx := ae (HBy.out.trans (bx_.mono HBy.out.size));have HLE : Hid (decide (((su.tch k).strs.length : Int) <= 2) = true) := ae (ao (by have := HKF.out.strs; omega));clear mx bx_ g1 g2;refine ⟨_, rfl, HBx, ?_⟩;simp only [aa];refine aD 18 rfl (by kernel_rfl) (by kernel_rfl) (by kernel_rfl) alH (fun _ hw => lD underlying48 rfl alW) (fun _ _ _ h => h) HBx ?_;simp only [aa];refine aD 19 rfl (by kernel_rfl) (by kernel_rfl) (by kernel_rfl) alH (fun _ hw => jy true rfl alW evk HLE) (fun _ _ _ h => h) HBx ?_;simp only [aa];refine alP 20 rfl (fun _ hw => im rfl alW alW) HBx ?_;refine al9 21 rfl HBx ?_;refine cW 22 rfl (by kernel_rfl) alH (aB call9 rfl evn) ?_;refine (zP D.toShPr wx).mono ?_;rintro e wu ⟨rfl, bu⟩;have HBu := ae (HBx.out.trans (bu.mono HBx.out.size));clear bu;refine ⟨_, rfl, HBu, ?_⟩;simp only [aa];refine alP 23 rfl (fun _ hw => im rfl alW alW) HBu ?_;refine ama 24 rfl HBu ?_;refine wpAnyH_done (by kernel_rfl) ?_ _;go_wp2_with fail;go_ret;exact ⟨rfl, HSt.out.bel.trans (HBu.out.mono HSt.out.bel.size)⟩
def kyL (d : Nat -> Bool) (o : List Nat) : List Ky := o.map fun (n : Nat) => (⟨(n : Int), d n⟩ : Ky)
section
variable {d e : Nat -> Bool} {o : List Nat} {n i room : Nat} {s : ShS}
theorem db : (kyL d o).length = o.length := List.length_map _
theorem sY : fM (kyL d o) = o.map fun (n : Nat) => (n : Int) := by unfold fM kyL; rw [List.map_map]; rfl
theorem nr (hi : i < o.length) : (kyL d o).getD i ky0 = ⟨((o.getD i 0 : Nat) : Int), d (o.getD i 0)⟩ := getD_map (fun (n : Nat) => (⟨(n : Int), d n⟩ : Ky)) o 0 ky0 hi
theorem rD (h : ∀ n ∈ o, d n = e n) : kyL d o = kyL e o := List.map_congr_left fun n hn => by rw [h n hn]
theorem dl : plc (n : Int) (kyL d o) < (kyL d o).length ↔ n ∈ o := by
 rw [mq, sY, List.mem_map]
 constructor
 ·rintro ⟨j, h1, h2⟩;have : j = n := by omega
  subst this; exact h1
 ·intro h; exact ⟨n, h, rfl⟩
theorem mo (h : n ∈ o) : o.getD (plc (n : Int) (kyL d o)) 0 = n := by
 have h1 := dl (d := d).2 h;have h2 := pP h1;rw [nr (by rw [db] at h1; exact h1)] at h2;exact Int.ofNat.inj h2
theorem sI : ∀ {o : List Nat} {i : Nat}, o.Nodup -> i < o.length -> wo o i = dL o (o.getD i 0)
 |[], i, _, hi => by simp at hi
 |x :: r, 0, hd, _ => by
  obtain ⟨h1, h2⟩ := List.nodup_cons.1 hd;have e : dL (x :: r) x = dL r x := by unfold dL; simp
  show wo (x :: r) 0 = dL (x :: r) x
  rw [e, jZ h1]
  rfl
 |x :: r, i + 1, hd, hi => by
  obtain ⟨h1, h2⟩ := List.nodup_cons.1 hd;have hi' : i < r.length := by simpa using hi
  have ih := sI h2 hi';have hm : r.getD i 0 ∈ r := cO hi';have hne : x ≠ r.getD i 0 := fun e => h1 (by rw [e]; exact hm)
  show wo (x :: r) (i + 1) = dL (x :: r) (r.getD i 0)
  have e : dL (x :: r) (r.getD i 0) = x :: dL r (r.getD i 0) := by
   unfold dL;rw [List.filter_cons, if_pos (by rw [am hne]; rfl)]
  rw [e, <- ih];unfold wo;simp
theorem xN (hd : o.Nodup) (hi : i < o.length) : wo (kyL d o) i = kyL d (dL o (o.getD i 0)) := by
 rw [<- sI hd hi];exact (nD _ o i).symm
theorem tw : lu (kyL d o) = luD d o := acg _ _ (by unfold kyL; rw [List.map_map]; rfl) fun k hk n hn => by
 obtain ⟨j, _, rfl⟩ := List.mem_map.1 hk;have : j = n := Int.ofNat.inj hn;subst this; rfl
theorem zC (hd : o.Nodup) (n : Nat) : yp (n : Int) (kyL d o) = kyL d (dL o n) := by
 unfold yp;by_cases h : n ∈ o
 ·rw [if_pos (dl.2 h), xN hd (by have := dl (d := d).2 h; rw [db] at this; exact this), mo h]
 ·rw [if_neg (fun e => h (dl.1 e)), jZ h]
theorem z6 (hd : o.Nodup) (n : Nat) (is : Bool) : nK (n : Int) is (kyL d o) = kyL (dr d n is) o := by
 unfold nK;by_cases h : n ∈ o
 ·have hl := dl (d := d).2 h;have hl' : plc (n : Int) (kyL d o) < o.length := by rw [db] at hl; exact hl
  have hp := mo (d := d) h;rw [if_pos hl];refine List.ext_getElem (by rw [List.length_set, db, db]) fun j h1 h2 => ?_
  have hj : j < o.length := by rw [db] at h2; exact h2
  rw [List.getElem_set];have g : (kyL (dr d n is) o)[j] = ⟨((o.getD j 0 : Nat) : Int), dr d n is (o.getD j 0)⟩ := by
   rw [<- nr hj, List.getD, List.getElem?_eq_getElem h2]; rfl
  rw [g]
  split
  ·rename_i e; rw [<- e, hp, dq]
  ·rename_i e
   have g2 : (kyL d o)[j]'(by rw [db]; exact hj) = ⟨((o.getD j 0 : Nat) : Int), d (o.getD j 0)⟩ := by
    rw [<- nr hj, List.getD, List.getElem?_eq_getElem (by rw [db]; exact hj)]; rfl
   rw [g2, cq];intro e2;have p1 := lA hd hj;rw [e2, <- hp, lA hd hl'] at p1;exact e p1
 ·rw [if_neg (fun e => h (dl.1 e))];exact rD fun j hj => (cq d is fun e => h (by rw [<- e]; exact hj)).symm
theorem afK (h : co s) (n : Nat) : qW (n : Int) (kyL s.dty s.o) = s.dty n := by
 unfold qW;by_cases hn : n ∈ s.o
 ·have hl := dl (d := s.dty).2 hn;rw [ao hl, nr (by rw [db] at hl; exact hl), mo hn]
  rfl
 ·rw [am fun e => hn (dl.1 e)];cases e : s.dty n
  ·rfl
  ·exact absurd ((h.mem n).2 (eQ e)) hn
theorem co.kJ (h : co s) (n : Nat) : (s.ln n).isNone = true ↔ n ∉ s.o := by
 rw [h.mem n]; cases s.ln n <;> simp
theorem jp (h : co s) (n : Nat) :
  (n ∈ s.o /\ s.goes n = false /\ s.eH n = true /\ s.cut n = s) \/
  (n ∉ s.o /\ s.o.length < s.room /\ s.goes n = false /\ s.eH n = true /\ s.cut n = s) \/
  (n ∉ s.o /\ ¬ s.o.length < s.room /\ luD s.dty s.o = 0 /\ s.goes n = true /\ s.eH n = false) \/
  (n ∉ s.o /\ ¬ s.o.length < s.room /\ 0 < luD s.dty s.o /\ s.goes n = true /\ s.eH n = true /\ s.cut n = { s.dk s.gone none with o := dL s.o s.gone }) := by
 have hb : ∀ g, s.goes n = g -> s.eH n = !(g && decide (luD s.dty s.o = 0)) := fun g e => by unfold ShS.eH; rw [e]
 have hc : s.goes n = false -> s.cut n = s := fun e => by unfold ShS.cut; rw [e]; rfl
 by_cases hn : n ∈ s.o
 ·have g : s.goes n = false := by
   unfold ShS.goes;cases e : (s.ln n).isNone
   ·rfl
   ·exact absurd hn ((h.kJ n).1 e)
  exact .inl ⟨hn, g, by rw [hb _ g]; rfl, hc g⟩
 ·have hi := (h.kJ n).2 hn;by_cases hl : s.o.length < s.room
  ·have g : s.goes n = false := by unfold ShS.goes; rw [hi, am (by omega)]; rfl
   exact .inr (.inl ⟨hn, hl, g, by rw [hb _ g]; rfl, hc g⟩)
  ·have g : s.goes n = true := by unfold ShS.goes; rw [hi, ao (by omega)]; rfl
   rcases Nat.eq_zero_or_pos (luD s.dty s.o) with h0 | h0
   ·exact .inr (.inr (.inl ⟨hn, hl, h0, g, by rw [hb _ g, ao h0]; rfl⟩))
   ·exact .inr (.inr (.inr ⟨hn, hl, h0, g, by rw [hb _ g, am (by omega)]; rfl, by unfold ShS.cut; rw [if_pos g]⟩))
theorem ae2 (h : co s) (n : Nat) : xd s.room n (kyL s.dty s.o) = if s.eH n = true then 0 else 10 := by
 unfold xd;rw [tw, db];rcases jp h n with ⟨h1, _, h3, _⟩ | ⟨h1, h2, _, h3, _⟩ | ⟨h1, h2, h4, _, h3⟩ | ⟨h1, h2, h4, _, h3, _⟩
 ·rw [if_pos (by have := dl (d := s.dty).2 h1; rwa [db] at this), if_pos h3]
 ·rw [if_neg (fun e => h1 (dl (d := s.dty).1 (by rw [db]; exact e))), if_pos h2, if_pos h3]
 ·rw [if_neg (fun e => h1 (dl (d := s.dty).1 (by rw [db]; exact e))), if_neg h2, if_pos h4, h3]; rfl
 ·rw [if_neg (fun e => h1 (dl (d := s.dty).1 (by rw [db]; exact e))), if_neg h2, if_neg (by omega), if_pos h3]
theorem aet (h : co s) (n : Nat) : xZ s.room n (kyL s.dty s.o) = (s.goes n && s.eH n) := by
 unfold xZ;rw [tw, db];rcases jp h n with ⟨h1, g, h3, _⟩ | ⟨h1, h2, g, h3, _⟩ | ⟨h1, h2, h4, g, h3⟩ | ⟨h1, h2, h4, g, h3, _⟩
 ·rw [if_pos (by have := dl (d := s.dty).2 h1; rwa [db] at this), g]; rfl
 ·rw [if_neg (fun e => h1 (dl (d := s.dty).1 (by rw [db]; exact e))), if_pos h2, g]; rfl
 ·rw [if_neg (fun e => h1 (dl (d := s.dty).1 (by rw [db]; exact e))), if_neg h2, if_pos h4, g, h3]; rfl
 ·rw [if_neg (fun e => h1 (dl (d := s.dty).1 (by rw [db]; exact e))), if_neg h2, if_neg (by omega), g, h3]; rfl
theorem ael (h : co s) (n : Nat) (hg : s.goes n = true) (hb : s.eH n = true) : uQ s.room n (kyL s.dty s.o) = (s.gone : Int) := by
 unfold uQ;rw [tw, db];rcases jp h n with ⟨h1, g, h3, _⟩ | ⟨h1, h2, g, h3, _⟩ | ⟨h1, h2, h4, g, h3⟩ | ⟨h1, h2, h4, g, h3, _⟩
 ·rw [hg] at g; cases g
 ·rw [hg] at g; cases g
 ·rw [hb] at h3; cases h3
 ·have := yt (d := s.dty) s.o;rw [if_neg (fun e => h1 (dl (d := s.dty).1 (by rw [db]; exact e))), if_neg h2, if_neg (by omega), nr (by omega)]
  rfl
theorem vN (s : ShS) (n : Nat) : (s.tch n).o = if s.eH n = true then n :: dL (s.cut n).o n else s.o := by unfold ShS.tch; split <;> rfl
theorem adj (h : co s) (n : Nat) : wE s.room n (kyL s.dty s.o) = kyL s.dty (s.tch n).o := by
 unfold wE;rw [tw, db, vN];have d0 : n ∉ s.o -> s.dty n = false := fun hn => by
  cases e : s.dty n
  ·rfl
  ·exact absurd ((h.mem n).2 (eQ e)) hn
 rcases jp h n with ⟨h1, g, h3, hc⟩ | ⟨h1, h2, g, h3, hc⟩ | ⟨h1, h2, h4, g, h3⟩ | ⟨h1, h2, h4, g, h3, hc⟩
 ·have hl : plc (n : Int) (kyL s.dty s.o) < s.o.length := by have := dl (d := s.dty).2 h1; rwa [db] at this
  rw [if_pos hl, if_pos h3, hc, xN h.nd hl, nr hl, mo h1]
  rfl
 ·rw [if_neg (fun e => h1 (dl (d := s.dty).1 (by rw [db]; exact e))), if_pos h2, if_pos h3, hc, jZ h1]
  show _ = (⟨(n : Int), s.dty n⟩ : Ky) :: kyL s.dty s.o
  rw [d0 h1]
 ·rw [if_neg (fun e => h1 (dl (d := s.dty).1 (by rw [db]; exact e))), if_neg h2, if_pos h4, h3]; rfl
 ·have hle := yt (d := s.dty) s.o;rw [if_neg (fun e => h1 (dl (d := s.dty).1 (by rw [db]; exact e))), if_neg h2, if_neg (by omega), if_pos h3, hc, xN h.nd (by omega)]
  show _ = (⟨(n : Int), s.dty n⟩ : Ky) :: kyL s.dty (dL (dL s.o s.gone) n)
  rw [d0 h1, jZ (n := n) (o := dL s.o s.gone) fun e => h1 (gY.1 e).1]
  rfl
end
open Go.Maps (Keyed)
def ptO : Option Nat -> Value
 |none => .pointer none
 |some b => .pointer (some ⟨b, 0, none⟩)
def ptD : Option Nat -> DataW Unit
 |none => .nil
 |some b => .lit (.int .i64 (b : Int))
def ptR : Value -> Option (DataW Unit × List MemPlace)
 |.pointer none => some (.nil, [])
 |.pointer (some ⟨b, 0, none⟩) => some (.lit (.int .i64 (b : Int)), [])
 |_ => none
theorem aeD (m : Option Nat) : ptR (ptO m) = some (ptD m, []) := by cases m <;> rfl
theorem zU {v : Value} {m : Option Nat} {ps : List MemPlace} (h : ptR v = some (ptD m, ps)) : v = ptO m := by
 unfold ptR at h
 split at h
 ·cases m with
  |none => rfl
  |some b => simp [ptD] at h
 ·rename_i b
  cases m with
  |none => simp [ptD] at h
  |some b' =>
   simp [ptD] at h;have : b = b' := by omega
   subst this; rfl
 ·cases h
theorem fN : Keyed prog 3 := Maps.int_keyed underlying3
theorem qZ {k : Int} (hw : (Lit.int .i64 k).wf = true) : keyOf prog 3 (.int .i64 k) = some (.int .i64 k) := Maps.keyOf_int_mk underlying3 hw
theorem akT (w : World) : (zeroValue 118).run prog w = .ok (.pointer none) w := by kernel_rfl
def dU (w : World) (b N : Nat) (M : Int -> Option Nat) : Prop :=
 ∃ D : DataW Unit, w.ownsMap prog 3 ptR b N D /\ Maps.size D = N /\ ∀ k, (Lit.int .i64 k).wf = true -> D.atKey (.int .i64 k) .nil = ptD (M k) /\ Maps.has D (.int .i64 k) = (M k).isSome
theorem my {w : World} {b n : Nat} {D : DataW Unit} (h : w.ownsMap prog 3 ptR b n D) : w.ownsMap prog 3 ptR b (Maps.size D) D := by
 obtain ⟨es, clock, hb, F, hs, rfl⟩ := h;exact ⟨es, clock, hb, F, by simp [Maps.size, length_sorted], rfl⟩
section
variable {w w' : World} {b N : Nat} {M : Int -> Option Nat} {k : Int}
theorem dU.kept (h : dU w b N M) (hk : ∀ es c, w.heap[b]? = some (.map es c) -> w'.heap[b]? = some (.map es c)) : dU w' b N M := by
 obtain ⟨D, ⟨es, c, hb, r⟩, h2⟩ := h;exact ⟨D, ⟨es, c, hk es c hb, r⟩, h2⟩
theorem dU.obj (h : dU w b N M) : ∃ es c, w.heap[b]? = some (.map es c) := by
 obtain ⟨D, ⟨es, c, hb, r⟩, h2⟩ := h;exact ⟨es, c, hb⟩
theorem dU.made (w : World) : dU (w.alloc (.map #[] 0)) w.heap.size 0 (fun _ => none) :=
 ⟨.map [], World.ownsMap_made _ _ _ _, rfl, fun k _ => ⟨rfl, rfl⟩⟩
theorem dU.look (h : dU w b N M) (hw : (Lit.int .i64 k).wf = true) : (Instr.lookup 121 (.map (some b)) (.int .i64 k) false).run prog w = .ok (ptO (M k)) w := by
 obtain ⟨D, h1, _, h3⟩ := h;obtain ⟨v, ps, hr, hv⟩ := h1.lookup fN underlying121 (akT w) (zd := .nil) (zp := []) rfl (qZ hw);rw [(h3 k hw).1] at hv;rw [hr, zU hv]
theorem dU.len (h : dU w b N M) (ty : TypeId) : (Builtin.len_ #[121] ty #[.map (some b)]).run prog w = .ok (.int .i64 (N : Int)) w := by
 obtain ⟨D, h1, h2, _⟩ := h;rw [h1.len underlying121 ty, h2]
theorem jV {j k : Int} (h : j ≠ k) : Lit.int .i64 j ≠ Lit.int .i64 k := fun e => h (by injection e)
theorem dU.store (h : dU w b N M) (hw : (Lit.int .i64 k).wf = true) (hn : M k = none) (hN : N < maxLen) (q : Nat) :
  ∃ w', (Instr.mapUpdate 121 (.map (some b)) (.int .i64 k) (.pointer (some ⟨q, 0, none⟩))).run prog w = .ok () w' /\ dU w' b (N + 1) (fun j => if j = k then some q else M j) /\ w.mapTurned w' b := by
 obtain ⟨D, h1, h2, h3⟩ := h;obtain ⟨w', hr, ho, ht⟩ := h1.store fN underlying121 hN (qZ hw) (aeD (some q));have hT := h1.tidy fN;have hk : WideAt.IsKeyLit (Lit.int .i64 k) := fN.key (qZ hw);have hs : Maps.size (D.put (.int .i64 k) (ptD (some q))) = N + 1 := by
  rw [Maps.size_put hT, (h3 k hw).2, hn, h2]; rfl
 refine ⟨w', hr, ⟨_, by rw [<- hs]; exact my ho, hs, fun j hj => ?_⟩, ht⟩;by_cases e : j = k
 ·subst e;dsimp only;rw [if_pos rfl, Maps.atKey_put_same hT.isMap hk, Maps.has_put_same hT.isMap hk];exact ⟨rfl, rfl⟩
 ·dsimp only;rw [if_neg e, Maps.atKey_put_other (jV e), Maps.has_put_other (jV e)];exact h3 j hj
theorem dU.del (h : dU w b (N + 1) M) (hw : (Lit.int .i64 k).wf = true) (hn : (M k).isSome = true) (ty : TypeId) :
  ∃ w', (Builtin.delete_ #[121, 3] ty #[.map (some b), .int .i64 k]).run prog w = .ok (.tuple #[]) w' /\ dU w' b N (fun j => if j = k then none else M j) /\ w.mapTurned w' b := by
 obtain ⟨D, h1, h2, h3⟩ := h;obtain ⟨w', hr, ho, ht⟩ := h1.drop fN underlying121 (qZ hw) ty;have hT := h1.tidy fN;have hs : Maps.size (D.del (.int .i64 k)) = N := by
  have := Maps.size_del (k := .int .i64 k) hT;rw [(h3 k hw).2, hn, h2] at this
  simpa using this
 refine ⟨w', hr, ⟨_, by rw [<- hs]; exact my ho, hs, fun j hj => ?_⟩, ht⟩;by_cases e : j = k
 ·subst e;dsimp only;rw [if_pos rfl, Maps.atKey_del_same, Maps.has_del_same];exact ⟨rfl, rfl⟩
 ·dsimp only;rw [if_neg e, Maps.atKey_del_other (jV e), Maps.has_del_other (jV e)];exact h3 j hj
end
section
variable {ρ : Operand -> Value} {o : Oper} {x y z : Operand} {w w' : World} {t r te : TypeId} {b N : Nat} {M : Int -> Option Nat} {p q s v : Value} {ad a1 a2 : Addr}
theorem di (ho : o.op = .lookup t x y false) (hx : ρ x = p) (hy : ρ y = q) (h : (Instr.lookup t p q false).run prog w = .ok v w) : (execOp ρ o).run prog w = .ok (.value v) w := by
 unfold execOp;simp only [ho, hx, hy, Sem.run_bind, h, Result.andThen_ok, Sem.run_pure]
theorem jq (ho : o.op = .mapUpdate t x y z) (hx : ρ x = p) (hy : ρ y = q) (hz : ρ z = s) (h : (Instr.mapUpdate t p q s).run prog w = .ok () w') : (execOp ρ o).run prog w = .ok .skip w' := by
 unfold execOp;simp only [ho, hx, hy, hz, Sem.run_bind, h, Result.andThen_ok, Sem.run_pure]
theorem ph (ho : o.op = .makeMap t none) : (execOp ρ o).run prog w = .ok (.value (.map (some w.heap.size))) (w.alloc (.map #[] 0)) := by
 unfold execOp;simp [ho, run_makeMap, Result.andThen]
theorem nv (ho : o.op = .call { callee := .builtin .len, args := #[x], argTypes := #[121] }) (hx : ρ x = .map (some b)) (h : dU w b N M) : (execOp ρ o).run prog w = .ok (.value (.int .i64 (N : Int))) w := by
 simp [execOp, ho, resolve, invoke, builtin, hx, h.len, Result.andThen]
theorem uu {t1 t2 : TypeId} (ho : o.op = .call { callee := .builtin .delete, args := #[x, y], argTypes := #[t1, t2] }) (hx : ρ x = p) (hy : ρ y = q) (h : (Builtin.delete_ #[t1, t2] o.type #[p, q]).run prog w = .ok v w') : (execOp ρ o).run prog w = .ok (.value v) w' := by
 simp [execOp, ho, resolve, invoke, builtin, hx, hy, h, Result.andThen]
theorem jP {ad : Addr} {a : Option Addr} (h : w.cell? ad = some (.pointer a)) : (Instr.loadAt 118 (.pointer (some ad))).run prog w = .ok (.pointer a) w := by simp [go_sem, h]
theorem qy {ad : Addr} {a : Option Nat} (h : w.cell? ad = some (.map a)) : (Instr.loadAt 121 (.pointer (some ad))).run prog w = .ok (.map a) w := by simp [go_sem, h]
theorem t6 {ad : Addr} {a : Bool} (h : w.cell? ad = some (.bool a)) : (Instr.loadAt 4 (.pointer (some ad))).run prog w = .ok (.bool a) w := by simp [go_sem, h]
theorem abQ {ad : Addr} {u : Value} {a : Option Addr} (h : w.cell? ad = some u) (hf : w.frozen? ad = false) : (Instr.storeAt 118 (.pointer (some ad)) (.pointer a)).run prog w = .ok () (w.setCell ad (.pointer a)) := by simp [go_sem, h, hf]
theorem akx {ad : Addr} {u : Value} {a : Bool} (h : w.cell? ad = some u) (hf : w.frozen? ad = false) : (Instr.storeAt 4 (.pointer (some ad)) (.bool a)).run prog w = .ok () (w.setCell ad (.bool a)) := by simp [go_sem, h, hf]
theorem ade : (Instr.fieldAt 120 (.pointer (some ⟨b, 0, none⟩)) 0).run prog w = .ok (.pointer (some ⟨b, 0, none⟩)) w := by kernel_rfl
theorem zx : (Instr.fieldAt 120 (.pointer (some ⟨b, 0, none⟩)) 1).run prog w = .ok (.pointer (some ⟨b, 1, none⟩)) w := by kernel_rfl
theorem n8 : (Instr.fieldAt 120 (.pointer (some ⟨b, 0, none⟩)) 2).run prog w = .ok (.pointer (some ⟨b, 2, none⟩)) w := by kernel_rfl
theorem m7 : (Instr.fieldAt 120 (.pointer (some ⟨b, 0, none⟩)) 3).run prog w = .ok (.pointer (some ⟨b, 3, none⟩)) w := by kernel_rfl
theorem aez : (Instr.fieldAt 123 (.pointer (some ⟨b, 0, none⟩)) 0).run prog w = .ok (.pointer (some ⟨b, 0, none⟩)) w := by kernel_rfl
theorem nW : (Instr.fieldAt 123 (.pointer (some ⟨b, 0, none⟩)) 1).run prog w = .ok (.pointer (some ⟨b, 1, none⟩)) w := by kernel_rfl
theorem kU : (Instr.fieldAt 123 (.pointer (some ⟨b, 0, none⟩)) 2).run prog w = .ok (.pointer (some ⟨b, 2, none⟩)) w := by kernel_rfl
end
theorem ahJ : ∃ j, prog.info? 120 = some j /\ j.size ≠ 0 := by
 have h : (prog.info? 120).map (·.size) = some 4 := by kernel_rfl
 cases hq : prog.info? 120 with
 |none => rw [hq] at h; cases h
 |some j => rw [hq] at h; exact ⟨j, rfl, by simp at h; omega⟩
def qY (x : Ky) (u v : Value) : List Value := [.int .i64 x.n, .bool x.pin, u, v]
def dJ (w : World) (b : Nat) (x : Ky) (u v : Value) : Prop := w.heap[b]? = some (.cells (qY x u v).toArray 120 (0, 0))
section
variable {w w' : World} {b q : Nat} {x : Ky} {u v : Value}
theorem dJ.c0 (h : dJ w b x u v) : w.cell? ⟨b, 0, none⟩ = some (.int .i64 x.n) := (aP h) 0 _ rfl
theorem dJ.c1 (h : dJ w b x u v) : w.cell? ⟨b, 1, none⟩ = some (.bool x.pin) := (aP h) 1 _ rfl
theorem dJ.c2 (h : dJ w b x u v) : w.cell? ⟨b, 2, none⟩ = some u := (aP h) 2 _ rfl
theorem dJ.c3 (h : dJ w b x u v) : w.cell? ⟨b, 3, none⟩ = some v := (aP h) 3 _ rfl
theorem dJ.fz (h : dJ w b x u v) (j : Nat) : w.frozen? ⟨b, j, none⟩ = false := frozen_of_row w b j _ _ h
theorem dJ.s1 (h : dJ w b x u v) (is : Bool) : dJ (w.setCell ⟨b, 1, none⟩ (.bool is)) b ⟨x.n, is⟩ u v := by
 have := heap_setCell_same w b 1 _ _ (.bool is) h
 simpa [dJ, qY] using this
theorem dJ.s2 (h : dJ w b x u v) (s : Value) : dJ (w.setCell ⟨b, 2, none⟩ s) b x s v := by
 have := heap_setCell_same w b 2 _ _ s h
 simpa [dJ, qY] using this
theorem dJ.s3 (h : dJ w b x u v) (s : Value) : dJ (w.setCell ⟨b, 3, none⟩ s) b x u s := by
 have := heap_setCell_same w b 3 _ _ s h
 simpa [dJ, qY] using this
theorem dJ.other (h : dJ w b x u v) {p : Addr} (hp : b ≠ p.block) (s : Value) : dJ (w.setCell p s) b x u v := by
 unfold dJ;rw [heap_setCell_other w p b s hp];exact h
end
def ptB (b : Nat) : Value := .pointer (some ⟨b, 0, none⟩)
def Lnk (w : World) (ky : Nat -> Ky) (pv nx : Nat -> Nat) (S : List Nat) : Prop := ∀ b ∈ S, dJ w b (ky b) (ptB (pv b)) (ptB (nx b))
section
variable {w w' : World} {ky : Nat -> Ky} {pv nx : Nat -> Nat} {S S' : List Nat} {x y : Nat}
theorem Lnk.sub (h : Lnk w ky pv nx S) (hs : ∀ b ∈ S', b ∈ S) : Lnk w ky pv nx S' := fun b hb => h b (hs b hb)
theorem Lnk.s2 (h : Lnk w ky pv nx S) (y : Nat) (hx : x ∈ S) : Lnk (w.setCell ⟨x, 2, none⟩ (ptB y)) ky (dr pv x y) nx S := fun b hb => by
 by_cases e : b = x
 ·subst e; rw [dq]; exact (h b hb).s2 _
 ·rw [cq _ _ e]; exact (h b hb).other e _
theorem Lnk.s3 (h : Lnk w ky pv nx S) (y : Nat) (hx : x ∈ S) : Lnk (w.setCell ⟨x, 3, none⟩ (ptB y)) ky pv (dr nx x y) S := fun b hb => by
 by_cases e : b = x
 ·subst e; rw [dq]; exact (h b hb).s3 _
 ·rw [cq _ _ e]; exact (h b hb).other e _
theorem Lnk.s1 (h : Lnk w ky pv nx S) (is : Bool) (hx : x ∈ S) : Lnk (w.setCell ⟨x, 1, none⟩ (.bool is)) (dr ky x ⟨(ky x).n, is⟩) pv nx S := fun b hb => by
 by_cases e : b = x
 ·subst e; rw [dq]; exact (h b hb).s1 _
 ·rw [cq _ _ e]; exact (h b hb).other e _
theorem Lnk.add (h : Lnk w ky pv nx S) (hx : dJ w x (ky x) (ptB (pv x)) (ptB (nx x))) : Lnk w ky pv nx (x :: S) := fun b hb => by
 rcases List.mem_cons.1 hb with rfl | hb
 ·exact hx
 ·exact h b hb
theorem Lnk.keep (h : Lnk w ky pv nx S) (hk : ∀ (b : Nat) (cs : Array Value), w.heap[b]? = some (Obj.cells cs 120 (0, 0)) -> w'.heap[b]? = some (Obj.cells cs 120 (0, 0))) : Lnk w' ky pv nx S := fun b hb => hk b _ (h b hb)
end
def uy : Obj -> Prop
 |.map _ _ => True
 |.cells _ t _ => t = 120 \/ t = 123
 |_ => False
section
variable {P : Program} {ops : Array Oper} {Q : Exit -> Act -> World -> Prop} {md : Region.Mode} {S T : World -> Prop} {z : Nat}
def ig (S T : World -> Prop) (z : Nat) (listed : Array Bool) (w : World) : Prop := (listed.getD z false = false -> S w) /\ (listed.getD z false = true -> T w)
def fj (P : Program) (md : Region.Mode) (ops : Array Oper) (Q : Exit -> Act -> World -> Prop) (S T : World -> Prop) (z : Nat) : Nat -> Array Bool -> Act -> World -> Prop
 |0, listed, a, w => Region.ready md ops listed = [] /\ Q .normal a w
 |fuel + 1, listed, a, w =>
  (Region.ready md ops listed = [] -> Q .normal a w) /\
  ∀ i ∈ Region.ready md ops listed, wpOp P ops Q i (fun a' w' => ig S T z (listed.setIfInBounds i true) w' /\ fj P md ops Q S T z fuel (listed.setIfInBounds i true) a' w') a w
theorem pU : ∀ (fuel : Nat) (listed : Array Bool) (a : Act) (w : World), fj P md ops Q S T z fuel listed a w -> wpAny P md ops Q fuel listed a w
 |0, _, _, _, h => h
 |fuel + 1, _, _, _, h => ⟨h.1, fun i hi => wpOp_mono (fun a' w' h' => pU fuel _ a' w' h'.2) (h.2 i hi)⟩
theorem je {l : Array Bool} {i j : Nat} (h : j ≠ i) : (l.setIfInBounds i true).getD j false = l.getD j false := by
 by_cases hj : j < l.size
 ·simp [hj, Array.getElem_setIfInBounds, Ne.symm h]
 ·simp [Array.getElem?_eq_none (Nat.le_of_not_lt hj), hj]
theorem r6 {listed : Array Bool} {w : World} {i : Nat} (h : ig S T z listed w) (hi : i ≠ z) : ig S T z (listed.setIfInBounds i true) w := by
 unfold ig at *;rw [je (Ne.symm hi)];exact h
theorem adu {listed : Array Bool} {w : World} {i : Nat} (h : ig S T z (listed.setIfInBounds i true) w) (hi : i ≠ z) : ig S T z listed w := by
 unfold ig at *;rw [je (Ne.symm hi)] at h;exact h
theorem mW {i : Nat} {oi : Oper} {v : Value} (hi : ops[i]? = some oi) (hsel : ∀ (j : Nat) (o : Oper) cs b, ops[j]? = some o -> o.op ≠ .select cs b)
  (hQ : ∀ c a w, Q (.panic c) (a.put oi.dst v) w -> Q (.panic c) a w) (hiz : i ≠ z) {U : World -> Prop} (hS : ∀ w, S w -> U w) (hT : jc md ops z i = true \/ ∀ w, T w -> U w) :
  ∀ (fuel : Nat) (listed : Array Bool) (a : Act) (w : World),
   (∀ j oj, ops[j]? = some oj -> j ≠ i -> listed.getD j true = false -> (∀ e ∈ oj.after, Region.binds md e = true -> e.on ≠ i) -> oi.apart ops oj = true) ->
   i ∈ Region.ready md ops listed -> (jc md ops z i = true -> listed.getD z false = false) -> YieldsIf P ops U oi v a -> ig S T z listed w ->
   fj P md ops Q S T z fuel (listed.setIfInBounds i true) (a.put oi.dst v) w -> fj P md ops Q S T z (fuel + 1) listed a w := by
 intro fuel;have key : ∀ (listed : Array Bool) (w : World), (jc md ops z i = true -> listed.getD z false = false) -> ig S T z listed w -> U w := fun listed w hz hc => by
  by_cases hl : listed.getD z false = false
  ·exact hS w (hc.1 hl)
  ·rcases hT with h | h
   ·exact absurd (hz h) hl
   ·exact h w (hc.2 (by simpa using hl))
 induction fuel with
 |zero =>
  intro listed a w _ hr hz hy hc H;refine ⟨fun h => (by rw [h] at hr; cases hr), fun j hj => ?_⟩;by_cases hji : j = i
  ·subst hji; exact hy.wpOp hi (key listed w hz hc) ⟨r6 hc hiz, H⟩
  ·have := ready_mono hj hji;rw [H.1] at this;cases this
 |succ fuel ih =>
  intro listed a w hfree hr hz hy hc H;refine ⟨fun h => (by rw [h] at hr; cases hr), fun j hj => ?_⟩;by_cases hji : j = i
  ·subst hji; exact hy.wpOp hi (key listed w hz hc) ⟨r6 hc hiz, H⟩
  ·have h1 := H.2 j (ready_mono hj hji);obtain ⟨hjun, oj, hoj, hall⟩ := mem_ready.1 hj;have hnot : ∀ e ∈ oj.after, Region.binds md e = true -> e.on ≠ i := fun e he hb heq => by
    have h1 := hall e he hb;rw [heq, zo (mem_ready.1 hr).1] at h1;cases h1
   have h2 := wpOp_putIf hoj (hfree j oj hoj hji hjun hnot) (fun cs b => hsel i oi cs b hi) (fun cs b => hsel j oj cs b hoj) hQ hy h1;have hfree' : ∀ k ok, ops[k]? = some ok -> k ≠ i -> (listed.setIfInBounds j true).getD k true = false ->
     (∀ e ∈ ok.after, Region.binds md e = true -> e.on ≠ i) -> oi.apart ops ok = true := fun k ok hk hki hun hno => by
    refine hfree k ok hk hki ?_ hno;by_cases hjk : j = k
    ·subst hjk; exact hjun
    ·rw [getD_set_ne true hjk] at hun; exact hun
   have hz' : jc md ops z i = true -> (listed.setIfInBounds j true).getD z false = false := fun hw => by
    have hjz : j ≠ z := fun e => by
     subst e;exact qi hw (zo (mem_ready.1 hr).1) hj
    rw [je (Ne.symm hjz)];exact hz hw
   refine wpOp_mono (fun a' w' h3 => ?_) h2;have hc' : ig S T z (listed.setIfInBounds j true) w' := by
    have h4 := h3.2.1;rw [Array.setIfInBounds_comm _ _ (Ne.symm hji)] at h4;exact adu h4 hiz
   refine ⟨hc', ih (listed.setIfInBounds j true) a' w' hfree' (ready_mono hr (Ne.symm hji)) hz' h3.1 hc' ?_⟩;rw [Array.setIfInBounds_comm _ _ hji];exact h3.2.2
theorem pe {rs : List Nat} {fuel : Nat} {listed : Array Bool} {a : Act} {w : World} (hr : Region.ready md ops listed = rs) (hne : rs ≠ [])
  (h : ∀ i ∈ rs, wpOp P ops Q i (fun a' w' => ig S T z (listed.setIfInBounds i true) w' /\ fj P md ops Q S T z fuel (listed.setIfInBounds i true) a' w') a w) : fj P md ops Q S T z (fuel + 1) listed a w :=
 ⟨fun h0 => absurd (hr ▸ h0) hne, hr ▸ h⟩
theorem vj {listed : Array Bool} {a : Act} {w : World} (hr : Region.ready md ops listed = []) (h : Q .normal a w) :
  ∀ fuel, fj P md ops Q S T z fuel listed a w
 |0 => ⟨hr, h⟩
 |_ + 1 => ⟨fun _ => h, by rw [hr]; simp⟩
theorem qX {id : Nat} {a : Act} {w : World} (S T : World -> Prop) (z : Nat) (hm : P.follows .mixedOrders = true)
  (h : fj P .any ops Q S T z ops.size (Array.replicate ops.size false) a w.drew) : (Code.region id ops true).wp P Q a w :=
 wp_region_any hm (pU _ _ _ _ h)
end
section
variable {P : Program} {md : Region.Mode} {l : List Oper} {Q : Exit -> Act -> World -> Prop} {S T : World -> Prop} {z fuel : Nat} {listed : Array Bool} {a : Act} {w w' : World} {o : Oper} {v : Value}
theorem jS (i : Nat) (hi : l[i]? = some o) (hs : Region.noSelect l.toArray = true) (hf : Region.free md l.toArray listed i = true) (hr : (Region.ready md l.toArray listed).contains i = true) (hiz : i ≠ z) (hwz : jc md l.toArray z i = true) (hlz : listed.getD z false = false)
  (hw : Region.wanted o (yielded l.toArray a.tmps) = true) (h : ∀ w, S w -> (execOp a.eval o).run P w = .ok (.value v) w) (hQ : ∀ c a w, Q (.panic c) (a.put o.dst v) w -> Q (.panic c) a w) (hS : S w)
  (hk : fj P md l.toArray Q S T z fuel (listed.setIfInBounds i true) (a.put o.dst v) w) : fj P md l.toArray Q S T z (fuel + 1) listed a w :=
 mW (by simpa using hi) (Region.noSelect_spec hs) hQ hiz (U := S) (fun _ h => h) (.inl hwz) fuel listed a w (Region.free_spec (by simpa using hi) hf) (by simpa using hr) (fun _ => hlz) (.inl ⟨hw, h⟩) ⟨fun _ => hS, fun e => absurd (e.symm.trans hlz) (by decide)⟩ hk
theorem alK (i : Nat) (hi : l[i]? = some o) (h : ∀ w, S w -> (execOp a.eval o).run P w = .ok (.value v) w) (hS : S w) (hk : fj P md l.toArray Q S T z fuel (listed.setIfInBounds i true) (a.put o.dst v) w) (hs : Region.noSelect l.toArray = true := by kernel_rfl) (hf : Region.free md l.toArray listed i = true := by kernel_rfl) (hr : (Region.ready md l.toArray listed).contains i = true := by kernel_rfl) (hiz : i ≠ z := by decide) (hwz : jc md l.toArray z i = true := by kernel_rfl) (hlz : listed.getD z false = false := by kernel_rfl) (hw : Region.wanted o (yielded l.toArray a.tmps) = true := by exact rfl) (hQ : ∀ c a w, Q (.panic c) (a.put o.dst v) w -> Q (.panic c) a w := by exact fun _ _ _ h => h) : fj P md l.toArray Q S T z (fuel + 1) listed a w := jS i hi hs hf hr hiz hwz hlz hw h hQ hS hk
theorem alR {l0 l1 : List Value} {ds0 : List Deferred} {i0 : Nat} (i : Nat) (hi : l[i]? = some o) (h : ∀ w, S w -> (execOp (Act.mk l0.toArray ds0).eval o).run P w = .ok (.value v) w) (hS : S w) (hk : fj P md l.toArray Q S T z fuel (listed.setIfInBounds i true) ⟨l1.toArray, ds0⟩ w) (hd : o.dst = some i0 := by exact rfl) (hl : l0.set i0 v = l1 := by simp only [ai] <;> rfl) (hs : Region.noSelect l.toArray = true := by kernel_rfl) (hf : Region.free md l.toArray listed i = true := by kernel_rfl) (hr : (Region.ready md l.toArray listed).contains i = true := by kernel_rfl) (hiz : i ≠ z := by decide) (hwz : jc md l.toArray z i = true := by kernel_rfl) (hlz : listed.getD z false = false := by kernel_rfl) (hw : Region.wanted o (yielded l.toArray l0.toArray) = true := by exact rfl) (hQ : ∀ c a w, Q (.panic c) (a.put o.dst v) w -> Q (.panic c) a w := by exact fun _ _ _ h => h) : fj P md l.toArray Q S T z (fuel + 1) listed ⟨l0.toArray, ds0⟩ w := alK i hi h hS (by have e : Act.put (Act.mk l0.toArray ds0) o.dst v = ⟨l1.toArray, ds0⟩ := (by rw [hd, <- hl]; show Act.mk (l0.toArray.setIfInBounds i0 v) ds0 = _; rw [List.setIfInBounds_toArray]); rw [e]; exact hk) hs hf hr hiz hwz hlz hw hQ
theorem mF (i : Nat) (hi : l[i]? = some o) (hs : Region.noSelect l.toArray = true) (hf : Region.free md l.toArray listed i = true) (hr : (Region.ready md l.toArray listed).contains i = true) (hiz : i ≠ z) (hwz : jc md l.toArray z i = false)
  (hw : Region.wanted o (yielded l.toArray a.tmps) = true) (h : ∀ w, S w \/ T w -> (execOp a.eval o).run P w = .ok (.value v) w) (hQ : ∀ c a w, Q (.panic c) (a.put o.dst v) w -> Q (.panic c) a w) (hc : ig S T z listed w)
  (hk : fj P md l.toArray Q S T z fuel (listed.setIfInBounds i true) (a.put o.dst v) w) : fj P md l.toArray Q S T z (fuel + 1) listed a w :=
 mW (by simpa using hi) (Region.noSelect_spec hs) hQ hiz (U := fun w => S w \/ T w) (fun _ h => .inl h) (.inr fun _ h => .inr h) fuel listed a w (Region.free_spec (by simpa using hi) hf) (by simpa using hr) (fun e => by rw [hwz] at e; cases e) (.inl ⟨hw, h⟩) hc hk
theorem alL (i : Nat) (hi : l[i]? = some o) (h : ∀ w, S w \/ T w -> (execOp a.eval o).run P w = .ok (.value v) w) (hc : ig S T z listed w) (hk : fj P md l.toArray Q S T z fuel (listed.setIfInBounds i true) (a.put o.dst v) w) (hs : Region.noSelect l.toArray = true := by kernel_rfl) (hf : Region.free md l.toArray listed i = true := by kernel_rfl) (hr : (Region.ready md l.toArray listed).contains i = true := by kernel_rfl) (hiz : i ≠ z := by decide) (hwz : jc md l.toArray z i = false := by kernel_rfl) (hw : Region.wanted o (yielded l.toArray a.tmps) = true := by exact rfl) (hQ : ∀ c a w, Q (.panic c) (a.put o.dst v) w -> Q (.panic c) a w := by exact fun _ _ _ h => h) : fj P md l.toArray Q S T z (fuel + 1) listed a w := mF i hi hs hf hr hiz hwz hw h hQ hc hk
theorem alS {l0 l1 : List Value} {ds0 : List Deferred} {i0 : Nat} (i : Nat) (hi : l[i]? = some o) (h : ∀ w, S w \/ T w -> (execOp (Act.mk l0.toArray ds0).eval o).run P w = .ok (.value v) w) (hc : ig S T z listed w) (hk : fj P md l.toArray Q S T z fuel (listed.setIfInBounds i true) ⟨l1.toArray, ds0⟩ w) (hd : o.dst = some i0 := by exact rfl) (hl : l0.set i0 v = l1 := by simp only [ai] <;> rfl) (hs : Region.noSelect l.toArray = true := by kernel_rfl) (hf : Region.free md l.toArray listed i = true := by kernel_rfl) (hr : (Region.ready md l.toArray listed).contains i = true := by kernel_rfl) (hiz : i ≠ z := by decide) (hwz : jc md l.toArray z i = false := by kernel_rfl) (hw : Region.wanted o (yielded l.toArray l0.toArray) = true := by exact rfl) (hQ : ∀ c a w, Q (.panic c) (a.put o.dst v) w -> Q (.panic c) a w := by exact fun _ _ _ h => h) : fj P md l.toArray Q S T z (fuel + 1) listed ⟨l0.toArray, ds0⟩ w := alL i hi h hc (by have e : Act.put (Act.mk l0.toArray ds0) o.dst v = ⟨l1.toArray, ds0⟩ := (by rw [hd, <- hl]; show Act.mk (l0.toArray.setIfInBounds i0 v) ds0 = _; rw [List.setIfInBounds_toArray]); rw [e]; exact hk) hs hf hr hiz hwz hw hQ
theorem wl (i : Nat) (hi : l[i]? = some o) (hr : Region.ready md l.toArray listed = [i]) (hw : Region.wanted o (yielded l.toArray a.tmps) = true) (h : (execOp a.eval o).run P w = .ok (.value v) w')
  (hc : ig S T z (listed.setIfInBounds i true) w') (hk : fj P md l.toArray Q S T z fuel (listed.setIfInBounds i true) (a.put o.dst v) w') : fj P md l.toArray Q S T z (fuel + 1) listed a w :=
 pe hr (by simp) fun j hj => by
  obtain rfl : j = i := by simpa using hj
  unfold wpOp;simp only [List.getElem?_toArray, hi, hw, if_true];refine .inl ?_;unfold Oper.wp;rw [h];exact ⟨hc, hk⟩
theorem yW (i : Nat) (hi : l[i]? = some o) (hr : Region.ready md l.toArray listed = [i]) (hw : Region.wanted o (yielded l.toArray a.tmps) = true) (h : (execOp a.eval o).run P w = .ok .skip w')
  (hc : ig S T z (listed.setIfInBounds i true) w') (hk : fj P md l.toArray Q S T z fuel (listed.setIfInBounds i true) (a.put o.dst undef) w') : fj P md l.toArray Q S T z (fuel + 1) listed a w :=
 pe hr (by simp) fun j hj => by
  obtain rfl : j = i := by simpa using hj
  unfold wpOp;simp only [List.getElem?_toArray, hi, hw, if_true];refine .inl ?_;unfold Oper.wp;rw [h];exact ⟨hc, hk⟩
theorem jj (hl : listed.getD z false = false) (h : S w) : ig S T z listed w := ⟨fun _ => h, fun e => absurd (e.symm.trans hl) (by decide)⟩
theorem jJ (hl : listed.getD z false = true) (h : T w) : ig S T z listed w := ⟨fun e => absurd (e.symm.trans hl) (by decide), fun _ => h⟩
end
def od : Obj -> Prop
 |.cells _ t _ => t = 120
 |_ => False
theorem zI (o : Obj) (h : od o) : uy o := by
 cases o <;> first | exact h.elim | exact .inl h
def cf (I : Obj -> Prop) (F : Nat -> Prop) (w w' : World) : Prop := Only (fun b => F b /\ ∀ o, w.heap[b]? = some o -> I o) w w'
section
variable {I J : Obj -> Prop} {F : Nat -> Prop} {w w1 w2 : World} {o : Obj} {b : Nat}
theorem cf.refl (I : Obj -> Prop) (F : Nat -> Prop) (w : World) : cf I F w w := Only.refl _ _
theorem cf.size (h : cf I F w w1) : w.heap.size <= w1.heap.size := Only.size h
theorem cf.only (h : cf I F w w1) : Only F w w1 := Only.widen h fun b hb => hb.1
theorem cf.keep (h : cf I F w w1) (hb : w.heap[b]? = some o) (hn : ¬ I o) : w1.heap[b]? = some o := Only.keep h hb fun e => hn (e.2 o hb)
theorem cf.trans (h : cf I F w w1) (k : cf I F w1 w2) : cf I F w w2 := by
 refine Only.trans h k fun b hb => ?_
 by_cases hl : b < w.heap.size
 ·refine .inl ⟨hb.1, fun o ho => ?_⟩;exact Classical.byContradiction fun hn => hn (hb.2 o (h.keep ho hn))
 ·exact .inr (by omega)
theorem cf.of_below (h : Below w.heap.size w w1) : cf I F w w1 := Only.of_below _ h
theorem cf.drew (h : cf I F w w1) : cf I F w w1.drew := Only.drew h
theorem cf.setCell (h : cf I F w w1) {p : Addr} (hB : F p.block) (ho : w1.heap[p.block]? = some o) (hI : I o) (u : Value) : cf I F w (w1.setCell p u) := by
 refine h.trans (Only.setCell (Only.refl _ _) (.inl ⟨hB, fun o' ho' => ?_⟩) u);rw [ho] at ho';cases ho';exact hI
theorem cf.map {k : TypeId} (h : cf I F w w1) (hB : F b) (hI : ∀ es c, I (.map es c)) (k : w1.mapTurned w2 b) : cf I F w w2 := by
 have hg := k.grown;obtain ⟨es, c, es', c', hb, e⟩ := k;refine h.trans (Only.grown (Only.refl _ _) hg fun j hj => ?_);injection hj with hj;subst hj;refine .inl ⟨hB, fun o ho => ?_⟩;rw [hb] at ho;cases ho;exact hI es c
theorem cf.node {x : Ky} {u v : Value} (h : cf od F w w1) (hB : F b) (hb : dJ w1 b x u v) (j : Nat) (s : Value) : cf od F w (w1.setCell ⟨b, j, none⟩ s) := h.setCell (p := ⟨b, j, none⟩) hB hb rfl s
theorem cf.widen (h : cf I F w w1) (hI : ∀ o, I o -> J o) : cf J F w w1 := Only.widen h fun b hb => ⟨hb.1, fun o ho => hI o (hb.2 o ho)⟩
end
abbrev gD := cf uy
structure dE (w : World) (B : Nat -> Prop) (p room : Nat) (E bm : Nat) (bs : List Nat) (ky : Nat -> Ky) (pv nx : Nat -> Nat) (M : Int -> Option Nat) : Prop where
 at_ : w.heap[p]? = some (.cells #[.int .i64 (room : Int), ptB E, .map (some bm)] 123 (0, 0))
 lnk : Lnk w ky pv nx (E :: bs)
 seg : Seg pv nx E bs E
 one : (E :: bs).Nodup
 map : dU w bm bs.length M
 hit : ∀ b ∈ bs, M (ky b).n = some b
 who : ∀ k b, (Lit.int .i64 k).wf = true -> M k = some b -> b ∈ bs /\ (ky b).n = k
 low : B p /\ B bm /\ ∀ b ∈ E :: bs, B b
 ok : LOk room (bs.map ky)
 rm : 1 <= room /\ room <= 64
def PLF (w : World) (B : Nat -> Prop) (p room : Nat) (L : List Ky) : Prop := ∃ E bm bs ky pv nx M, dE w B p room E bm bs ky pv nx M /\ bs.map ky = L
section
variable {w w' : World} {B : Nat -> Prop} {p room E bm : Nat} {bs : List Nat} {ky : Nat -> Ky} {pv nx : Nat -> Nat} {M : Int -> Option Nat} {L : List Ky}
theorem dE.keep (h : dE w B p room E bm bs ky pv nx M) (hk : ∀ (b : Nat) (o : Obj), w.heap[b]? = some o -> uy o -> w'.heap[b]? = some o) : dE w' B p room E bm bs ky pv nx M :=
 ⟨hk _ _ h.at_ (.inr rfl), h.lnk.keep fun b cs hb => hk b _ hb (.inl rfl), h.seg, h.one, h.map.kept fun es c hb => hk _ _ hb trivial, h.hit, h.who, h.low, h.ok, h.rm⟩
theorem dE.c0 (h : dE w B p room E bm bs ky pv nx M) : w.cell? ⟨p, 0, none⟩ = some (.int .i64 (room : Int)) := (cells3 h.at_).1
theorem dE.c1 (h : dE w B p room E bm bs ky pv nx M) : w.cell? ⟨p, 1, none⟩ = some (.pointer (some ⟨E, 0, none⟩)) := (cells3 h.at_).2.1
theorem dE.c2 (h : dE w B p room E bm bs ky pv nx M) : w.cell? ⟨p, 2, none⟩ = some (.map (some bm)) := (cells3 h.at_).2.2
theorem PLF.keep (h : PLF w B p room L) (hk : ∀ (b : Nat) (o : Obj), w.heap[b]? = some o -> uy o -> w'.heap[b]? = some o) : PLF w' B p room L := by
 obtain ⟨E, bm, bs, ky, pv, nx, M, h, e⟩ := h;exact ⟨E, bm, bs, ky, pv, nx, M, h.keep hk, e⟩
theorem PLF.below (h : PLF w B p room L) (hb : Below w.heap.size w w') : PLF w' B p room L := h.keep fun b o ho _ => aC ho hb
end
section
variable {w w' : World} {B B' : Nat -> Prop} {p room E bm : Nat} {bs : List Nat} {ky : Nat -> Ky} {pv nx : Nat -> Nat} {M : Int -> Option Nat} {L : List Ky}
theorem dU.lt {b N : Nat} (h : dU w b N M) : b < w.heap.size := by obtain ⟨es, c, hb⟩ := h.obj; exact aS hb
theorem dE.mono (h : dE w B p room E bm bs ky pv nx M) (hB : ∀ b, B b -> b < w.heap.size -> B' b) : dE w B' p room E bm bs ky pv nx M :=
 ⟨h.at_, h.lnk, h.seg, h.one, h.map, h.hit, h.who, ⟨hB _ h.low.1 (aS h.at_), hB _ h.low.2.1 h.map.lt, fun b hb => hB _ (h.low.2.2 b hb) (aS (h.lnk b hb))⟩, h.ok, h.rm⟩
theorem PLF.mono (h : PLF w B p room L) (hB : ∀ b, B b -> b < w.heap.size -> B' b) : PLF w B' p room L := by
 obtain ⟨E, bm, bs, ky, pv, nx, M, h, e⟩ := h;exact ⟨E, bm, bs, ky, pv, nx, M, h.mono hB, e⟩
theorem PLF.only {G : Nat -> Prop} (h : PLF w B p room L) (hk : Only G w w') (hG : ∀ b, B b -> ¬ G b) : PLF w' B p room L := by
 obtain ⟨E, bm, bs, ky, pv, nx, M, h, e⟩ := h;refine ⟨E, bm, bs, ky, pv, nx, M, ⟨Only.keep hk h.at_ (hG _ h.low.1), fun b hb => Only.keep hk (h.lnk b hb) (hG b (h.low.2.2 b hb)), h.seg, h.one, h.map.kept fun es c hb => Only.keep hk hb (hG _ h.low.2.1), h.hit, h.who, h.low, h.ok, h.rm⟩, e⟩
end
section
variable {w : World} {B : Nat -> Prop} {n E : Nat} {ky : Nat -> Ky} {pv nx : Nat -> Nat} {S : List Nat}
theorem tW (w : World) (h : Lnk w ky pv nx S) (hn : n ∈ S) (hp : pv n ∈ S) (hx : nx n ∈ S) (hB : ∀ b ∈ S, B b) :
  Calls prog 159 #[.pointer (some ⟨n, 0, none⟩)] w fun e w' => e = .returned (.tuple #[]) /\ Lnk w' ky (dr pv (nx n) (pv n)) (dr nx (pv n) (nx n)) S /\ cf od B w w' := by
 have HN := ae (h n hn);have HP := ae (h (pv n) hp);have h1 : Lnk (w.drew.setCell ⟨pv n, 3, none⟩ (ptB (nx n))) ky pv (dr nx (pv n) (nx n)) S := Lnk.s3 (w := w.drew) h (nx n) hp;have HX1 := ae (h1 (nx n) hx);have H2 := ae (Lnk.s2 h1 (pv n) hx);have HT := ae (((cf.refl od B w).drew.node (hB _ hp) (h (pv n) hp) 3 (ptB (nx n))).node (hB _ hx) (h1 (nx n) hx) 2 (ptB (pv n)));clear h h1 hn hp hx hB;go_enter func159, ntmps159;go_upto_region 0 with fail;refine wp_region_still_tail 16 (by kernel_rfl) (by kernel_rfl) ?_;simp only [ac];refine aM rfl (aL rfl alW) ?_;simp only [aa];refine aM rfl (bj rfl alW) ?_;simp only [aa];refine aM rfl (ax rfl alW n8) ?_;simp only [aa];refine aM rfl (aE rfl alW (jP (HN.out).c2)) ?_;simp only [aa];refine aM rfl (aL rfl alW) ?_;simp only [aa];refine aM rfl (bj rfl alW) ?_;simp only [aa];refine aM rfl (ax rfl alW m7) ?_;simp only [aa];refine aM rfl (aE rfl alW (jP (HN.out).c3)) ?_;simp only [aa];refine aM rfl (aL rfl alW) ?_;simp only [aa];refine aM rfl (bj rfl alW) ?_;simp only [aa];refine aM rfl (ax rfl alW m7) ?_;simp only [aa];refine aM rfl (aE rfl alW (jP (HN.out).c3)) ?_;simp only [aa];refine aM rfl (aL rfl alW) ?_;simp only [aa];refine aM rfl (bj rfl alW) ?_;simp only [aa];refine aM rfl (ax rfl alW n8) ?_;simp only [aa];refine aM rfl (aE rfl alW (jP (HN.out).c2)) ?_;simp only [aa];refine wpStill_nil ?_;change wpList _ _ _ _ _ (World.drew _);refine runs 1 ?_;refine alM (ax rfl alW m7) ?_;refine aG rfl (dh rfl (ev rfl) (ev rfl) (abQ HP.out.c3 (HP.out.fz 3))) ?_;simp only [aa];refine runs 1 ?_;refine alM (ax rfl alW n8) ?_;refine aG rfl (dh rfl (ev rfl) (ev rfl) (abQ HX1.out.c2 (HX1.out.fz 2))) ?_;simp only [aa];refine ah ?_
 go_end0
 exact ⟨rfl, H2, HT⟩
theorem rJ (w : World) (x : Ky) (u v : Value) (h : Lnk w ky pv nx S) (hn : dJ w n x u v) (hnS : n ∉ S) (hE : E ∈ S) (hx : nx E ∈ S) (hB : ∀ b ∈ S, B b) (hBn : B n) :
  Calls prog 160 #[.pointer (some ⟨n, 0, none⟩), .pointer (some ⟨E, 0, none⟩)] w fun e w' => e = .returned (.tuple #[]) /\ Lnk w' (dr ky n x) (dr (dr pv n E) (nx E) n) (dr (dr nx n (nx E)) E n) (n :: S) /\ cf od B w w' := by
 have HN := ae hn;have HE := ae (h E hE);have n1 := hn.s2 (ptB E);have n2 := n1.s3 (ptB (nx E));have HN1 := ae n1;have HN2 := ae n2;have hne : ∀ b ∈ S, b ≠ n := fun b hb e => hnS (by rw [<- e]; exact hb)
 have l2 : Lnk ((w.setCell ⟨n, 2, none⟩ (ptB E)).setCell ⟨n, 3, none⟩ (ptB (nx E))) (dr ky n x) (dr pv n E) (dr nx n (nx E)) S := fun b hb => by
  rw [cq _ _ (hne b hb), cq _ _ (hne b hb), cq _ _ (hne b hb)];exact ((h b hb).other (p := ⟨n, 2, none⟩) (hne b hb) _).other (p := ⟨n, 3, none⟩) (hne b hb) _
 have m2 : Lnk ((w.setCell ⟨n, 2, none⟩ (ptB E)).setCell ⟨n, 3, none⟩ (ptB (nx E))) (dr ky n x) (dr pv n E) (dr nx n (nx E)) (n :: S) := l2.add (by rw [dq, dq, dq]; exact n2);have T2 : cf od B w ((w.setCell ⟨n, 2, none⟩ (ptB E)).setCell ⟨n, 3, none⟩ (ptB (nx E))) := ((cf.refl od B w).node hBn hn 2 (ptB E)).node hBn n1 3 (ptB (nx E));have HM2 := ae m2;have HT2 := ae T2;have HI := ae (And.intro hE (And.intro hx (And.intro hB hBn)));clear h hn hnS hE hx hB hBn n1 n2 hne l2 m2 T2;go_enter func160, ntmps160;go_upto_region 0 with fail;refine aJ 3 ?_;refine runs 2 ?_;refine alM (ax rfl alW m7) ?_;refine alM (aE rfl alW (jP (HE.out).c3)) ?_;refine runs 1 ?_;refine alM (ax rfl alW n8) ?_;refine aG rfl (dh rfl (ev rfl) (ev rfl) (abQ HN.out.c2 (HN.out.fz 2))) ?_;simp only [aa];refine runs 1 ?_;refine alM (ax rfl alW m7) ?_;refine aG rfl (dh rfl (ev rfl) (ev rfl) (abQ HN1.out.c3 (HN1.out.fz 3))) ?_;simp only [aa];refine ah ?_;go_upto_region 1 with fail;obtain ⟨w2, hw2⟩ : ∃ w2, (w.setCell ⟨n, 2, none⟩ (ptB E)).setCell ⟨n, 3, none⟩ (ptB (nx E)) = w2 := ⟨_, rfl⟩;unfold ptB at hw2;rw [hw2];unfold ptB at HM2 HT2 HN2;rw [hw2] at HM2 HT2 HN2;clear HN HN1 HE hw2;have HE2 := ae (HM2.out E (List.mem_cons_of_mem _ HI.out.1));have m3 : Lnk (w2.drew.setCell ⟨E, 3, none⟩ (ptB n)) (dr ky n x) (dr pv n E) (dr (dr nx n (nx E)) E n) (n :: S) := Lnk.s3 (w := w2.drew) HM2 n (List.mem_cons_of_mem _ HI.out.1);have HX3 := ae (m3 (nx E) (List.mem_cons_of_mem _ HI.out.2.1));have HM4 := ae (Lnk.s2 m3 n (List.mem_cons_of_mem _ HI.out.2.1));have HT4 := ae ((HT2.out.drew.node (HI.out.2.2.1 _ HI.out.1) HE2 3 (ptB n)).node (HI.out.2.2.1 _ HI.out.2.1) HX3 2 (ptB n));clear m3;refine qX (fun w' => dJ w' n x (ptB E) (ptB (nx E))) (fun _ => True) 12 (by kernel_rfl) ?_;change fj _ _ _ _ _ _ _ 16 _ _ w2.drew;refine alR 0 rfl (fun _ hw => aL rfl alW) HN2 ?_;refine alR 1 rfl (fun _ hw => bj rfl alW) HN2 ?_;refine alR 2 rfl (fun _ hw => ax rfl alW n8) HN2 ?_;refine alR 3 rfl (fun _ hw => aE rfl alW (jP (hw).c2)) HN2 ?_;refine alS 4 rfl (fun _ hw => aL rfl alW) (jj (by kernel_rfl) HN2) ?_;refine alS 5 rfl (fun _ hw => bj rfl alW) (jj (by kernel_rfl) HN2) ?_;refine alS 6 rfl (fun _ hw => ax rfl alW m7) (jj (by kernel_rfl) HN2) ?_;refine alR 7 rfl (fun _ hw => aE rfl alW (jP (hw).c3)) HN2 ?_;refine alR 8 rfl (fun _ hw => aL rfl alW) HN2 ?_;refine alS 9 rfl (fun _ hw => aL rfl alW) (jj (by kernel_rfl) HN2) ?_;refine alS 10 rfl (fun _ hw => bj rfl alW) (jj (by kernel_rfl) HN2) ?_;refine alR 11 rfl (fun _ hw => ax rfl alW m7) HN2 ?_;refine yW 12 rfl (by kernel_rfl) rfl (dh rfl (ev rfl) (ev rfl) (abQ HE2.out.c3 (HE2.out.fz 3))) (jJ (by kernel_rfl) trivial) ?_;simp only [Act.put];refine wl 13 rfl (by kernel_rfl) rfl (bj rfl alW) (jJ (by kernel_rfl) trivial) ?_;simp only [aa];refine wl 14 rfl (by kernel_rfl) rfl (ax rfl alW n8) (jJ (by kernel_rfl) trivial) ?_;simp only [aa];refine yW 15 rfl (by kernel_rfl) rfl (dh rfl (ev rfl) (ev rfl) (abQ HX3.out.c2 (HX3.out.fz 2))) (jJ (by kernel_rfl) trivial) ?_;simp only [Act.put];refine vj (by kernel_rfl) ?_ _
 go_end0
 exact ⟨rfl, HM4, HT4⟩
end
section
variable {w w' : World} {B p room E bm i : Nat} {bs : List Nat} {ky : Nat -> Ky} {pv nx : Nat -> Nat} {M : Int -> Option Nat} {L : List Ky} {k : Int}
theorem i1 {b : Nat} {o : Obj} (h : w.mapTurned w' bm) (hb : w.heap[b]? = some o) (hn : ∀ es c, o ≠ .map es c) : w'.heap[b]? = some o := by
 have hg := h.grown;obtain ⟨es, c, es', c', hm, e⟩ := h;exact (hg.block b (aS hb) (fun e2 => by injection e2 with e2; subst e2; rw [hm] at hb; cases hb; exact hn _ _ rfl)).trans hb
theorem Lnk.turned {S : List Nat} (h : Lnk w ky pv nx S) (ht : w.mapTurned w' bm) : Lnk w' ky pv nx S := fun b hb => i1 ht (h b hb) fun _ _ e => by cases e
def lsB (bs : List Nat) (L : List Ky) : Option Nat := if lu L = 0 then none else some (bs.getD (lu L - 1) 0)
theorem vc {bs : List Nat} {L : List Ky} (h : lu L = 0) : lsB bs L = none := if_pos h
theorem ur {bs : List Nat} {L : List Ky} {j : Nat} (h : lu L = j + 1) : lsB bs L = some (bs.getD j 0) := by unfold lsB; rw [if_neg (by omega), h]; rfl
theorem uI {ops : Array Oper} {rest : List Oper} {o : Oper} {a : Act} {Q : Exit -> Act -> World -> Prop} {x y : Operand} {N b : Nat} (hg : o.guard = none) (ho : o.op = .call { callee := .builtin .delete, args := #[x, y], argTypes := #[121, 3] })
  (hx : a.eval x = .map (some b)) (hy : a.eval y = .int .i64 k) (h : dU w b (N + 1) M) (hw : (Lit.int .i64 k).wf = true) (hn : (M k).isSome = true)
  (hk : ∀ w', dU w' b N (fun j => if j = k then none else M j) -> w.mapTurned w' b -> wpList prog ops Q rest (a.put o.dst (.tuple #[])) w') : wpList prog ops Q (o :: rest) a w := by
 obtain ⟨w', h1, h2, h3⟩ := h.del hw hn o.type;exact aw hg (uu ho hx hy h1) (hk w' h2 h3)
end
section
variable {w w' : World} {B : Nat -> Prop} {p room E bm i : Nat} {bs : List Nat} {ky : Nat -> Ky} {pv nx : Nat -> Nat} {M : Int -> Option Nat} {L : List Ky} {k : Int}
theorem pp {w0 : World} (h : gD B w0 w) (hB : B bm) (ht : w.mapTurned w' bm) : gD B w0 w' := h.map (k := 0) hB (fun _ _ => trivial) ht
theorem dE.pvm (h : dE w B p room E bm bs ky pv nx M) {b : Nat} (hb : b ∈ E :: bs) : pv b ∈ E :: bs := by
 rcases List.mem_cons.1 hb with rfl | hb
 ·exact sO h.seg
 ·obtain ⟨l, r, e⟩ := List.append_of_mem hb;have hs := h.seg;rw [e] at hs;have := sO (seg_append.1 hs).1;rw [e];rcases List.mem_cons.1 this with e2 | e2
  ·rw [e2]; simp
  ·exact List.mem_cons_of_mem _ (List.mem_append.2 (.inl e2))
theorem dE.nxm (h : dE w B p room E bm bs ky pv nx M) {b : Nat} (hb : b ∈ E :: bs) : nx b ∈ E :: bs := by
 have key : ∀ x, x ∈ bs ++ [E] -> x ∈ E :: bs := fun x hx => by
  rcases List.mem_append.1 hx with e | e
  ·exact List.mem_cons_of_mem _ e
  ·simp at e; rw [e]; simp
 rcases List.mem_cons.1 hb with rfl | hb
 ·exact key _ (sG h.seg)
 ·obtain ⟨l, r, e⟩ := List.append_of_mem hb;have hs := h.seg;rw [e] at hs;have := sG (seg_append.1 hs).2;refine key _ ?_;rw [e];rcases List.mem_append.1 this with e2 | e2
  ·simp [e2]
  ·simp at e2; simp [e2]
theorem dE.ad1 (h : dE w B p room E bm bs ky pv nx M) (hi : plc k (bs.map ky) < bs.length) : M k = some (bs.getD (plc k (bs.map ky)) 0) := by
 have h1 := pP (k := k) (L := bs.map ky) (by simpa using hi);rw [getD_map ky bs 0 ky0 hi] at h1;have := h.hit _ (cO (d := 0) hi);rwa [h1] at this
theorem dE.mh (h : dE w B p room E bm bs ky pv nx M) (hw : (Lit.int .i64 k).wf = true) (hi : ¬ plc k (bs.map ky) < bs.length) : M k = none := by
 cases e : M k with
 |none => rfl
 |some b =>
  obtain ⟨h1, h2⟩ := h.who k b hw e;have : plc k (bs.map ky) < (bs.map ky).length := mq.2 (by unfold fM; rw [List.map_map]; exact List.mem_map.2 ⟨b, h1, h2⟩);rw [List.length_map] at this;exact absurd this hi
theorem dE.kwf (h : dE w B p room E bm bs ky pv nx M) {b : Nat} (hb : b ∈ bs) : (Lit.int .i64 (ky b).n).wf = true := h.ok.wf _ (List.mem_map.2 ⟨b, hb, rfl⟩)
theorem dE.inj (h : dE w B p room E bm bs ky pv nx M) {b c : Nat} (hb : b ∈ bs) (hc : c ∈ bs) (e : (ky b).n = (ky c).n) : b = c := by
 have h1 := h.hit b hb;have h2 := h.hit c hc;rw [e, h2] at h1;injection h1 with h1;exact h1.symm
theorem fV (w : World) (h : dE w B p room E bm bs ky pv nx M) : Calls prog 122 #[.pointer (some ⟨p, 0, none⟩)] w fun e w' => e = .returned (.bool true) /\ w = w' := by
 have c0 := h.c0;have hr := h.rm;have hd : decide (0 < room) = true := ao (by omega);clear h hr;go_enter func122, ntmps122;go_wp2_with fail;go_ret;exact ⟨rfl, rfl⟩
theorem ue (w : World) (h : dE w B p room E bm bs ky pv nx M) (hw : (Lit.int .i64 k).wf = true) {b : Nat} (hm : M k = some b) :
  Calls prog 119 #[.pointer (some ⟨p, 0, none⟩), .int .i64 k] w fun e w' => e = .returned (.tuple #[.pointer (some ⟨b, 0, none⟩), .int .i64 0]) /\ w = w' := by
 have HL := ae h;have HK : Hid ((Instr.lookup 121 (.map (some bm)) (.int .i64 k) false).run prog w = .ok (.pointer (some ⟨b, 0, none⟩)) w) := ae (by have := h.map.look hw; rw [hm] at this; exact this);clear h hw hm;go_enter func119, ntmps119;go_wp2_with fail;refine (fV _ HL).mono ?_;rintro e w1 ⟨rfl, rfl⟩;go_upto_region 3 with fail;refine aJ 2 ?_;refine alM (ax rfl alW kU) ?_;refine alM (aE rfl alW (qy (HL.out).c2)) ?_;refine runs 1 ?_;refine alM (di rfl alW alW HK) ?_;refine aH 1 ?_;go_upto_region 4 with fail;refine aJ 1 ?_;refine alM (cR false underlying118 rfl alW evk rfl) ?_;refine ah ?_;go_wp2_with fail;go_ret2;exact ⟨rfl, rfl⟩
theorem l6 (w : World) (h : dE w B p room E bm bs ky pv nx M) (hw : (Lit.int .i64 k).wf = true) (hm : M k = none) :
  Calls prog 119 #[.pointer (some ⟨p, 0, none⟩), .int .i64 k] w fun e w' => e = .returned (.tuple #[.pointer none, .int .i64 7]) /\ w = w' := by
 have HL := ae h;have HK : Hid ((Instr.lookup 121 (.map (some bm)) (.int .i64 k) false).run prog w = .ok (.pointer none) w) := ae (by have := h.map.look hw; rw [hm] at this; exact this);clear h hw hm;go_enter func119, ntmps119;go_wp2_with fail;refine (fV _ HL).mono ?_;rintro e w1 ⟨rfl, rfl⟩;go_upto_region 3 with fail;refine aJ 2 ?_;refine alM (ax rfl alW kU) ?_;refine alM (aE rfl alW (qy (HL.out).c2)) ?_;refine runs 1 ?_;refine alM (di rfl alW alW HK) ?_;refine aH 1 ?_;go_upto_region 4 with fail;refine aJ 1 ?_;refine alM (cR true underlying118 rfl alW evk rfl) ?_;refine ah ?_;go_wp2_with fail;go_ret2;exact ⟨rfl, rfl⟩
theorem qe (w : World) (h : dE w B p room E bm bs ky pv nx M) :
  Calls prog 161 #[.pointer (some ⟨p, 0, none⟩)] w fun e w' => e = .returned (ptO (lsB bs (bs.map ky))) /\ w = w' := by
 have HL := ae h;have HE := ae (h.lnk E (by simp));have HPV : Hid (∀ i, i <= bs.length -> pv ((bs ++ [E]).getD i 0) = (E :: bs).getD i 0) := ae (afk h.seg);have HEV : Hid (pv E = (E :: bs).getD bs.length 0) := ae (by have := HPV.out bs.length aj; rw [<- this]; simp);have HPS : Hid (∀ i, i <= bs.length -> om ((E :: bs).getD i 0) (E :: bs) = i) := ae fun i hi => lA h.one (by simp; omega)
 have HNO := ae (List.nodup_cons.1 h.one).1;obtain ⟨j0, hj0, hz0⟩ := ahJ;have HJ := ae hj0;have HZ := ae hz0;have HLK := ae h.lnk;clear h hj0 hz0;go_enter func161, ntmps161;go_upto_region 1 with fail;refine aJ 2 ?_;refine alM (ax rfl alW nW) ?_;refine alM (aE rfl alW (jP (HL.out).c1)) ?_;refine runs 1 ?_;refine alM (ax rfl alW n8) ?_;refine alM (aE rfl alW (jP (HE.out).c2)) ?_;refine aH 1 ?_;rw [HEV.out];go_wp2_with fail
 go_loop [3] (fun v => ∃ i, i <= bs.length /\ v = .pointer (some ⟨(E :: bs).getD i 0, 0, none⟩) /\ Hid (∀ j, i <= j -> j < bs.length -> ((bs.map ky).getD j ky0).pin = true)) (fun v => om (ahI v) (E :: bs))
 case atStart => exact ⟨bs.length, aj, rfl, ae fun j h1 h2 => absurd h2 (by omega)⟩
 case round =>
  obtain ⟨i, hi, rfl, hpin⟩ := hrel;cases i with
  |zero =>
   have hlu : lu (bs.map ky) = 0 := agc fun j hj => hpin.out j (Nat.zero_le _) (by simpa using hj)
   have HLU := ae hlu;clear hlu;rw [show (E :: bs).getD 0 0 = E from rfl];go_upto_region 2 with fail;refine aJ 3 ?_;refine alM (ax rfl alW nW) ?_;refine alM (aE rfl alW (jP (HL.out).c1)) ?_;refine alM (lB false underlying118 HJ.out HZ.out rfl (ev rfl) (ev rfl) HE.out HE.out (by simp)) ?_;refine ah ?_;go_wp2_with fail;go_ret;exact ⟨by rw [vc HLU.out]; rfl, rfl⟩
  |succ i =>
   rw [show (E :: bs).getD (i + 1) 0 = bs.getD i 0 from rfl];obtain ⟨b, hb⟩ : ∃ b, bs.getD i 0 = b := ⟨_, rfl⟩;have hm : b ∈ bs := by rw [<- hb]; exact cO hi
   have HN := ae (HLK.out b (List.mem_cons_of_mem _ hm));have HNE : Hid (b ≠ E) := ae fun e => HNO.out (by rw [<- e]; exact hm)
   have HPB : Hid (pv b = (E :: bs).getD i 0) := ae (by
    have := HPV.out i (by omega);rw [<- this, <- hb];simp [List.getD, List.getElem?_append_left (show i < bs.length from hi)])
   have HKY : Hid ((bs.map ky).getD i ky0 = ky b) := ae (by rw [getD_map ky bs 0 ky0 hi, hb]);have HB := ae hb;have HM := ae hm;clear hb hm;rw [HB.out];go_upto_region 2 with fail;refine aJ 3 ?_;refine alM (ax rfl alW nW) ?_;refine alM (aE rfl alW (jP (HL.out).c1)) ?_;refine alM (lB true underlying118 HJ.out HZ.out rfl (ev rfl) (ev rfl) HN.out HE.out (by have := HNE.out; simp [this])) ?_;refine ah ?_;cases hp : (ky b).pin
   ·have HPI := ae hp;have HC1 : Hid (w.cell? ⟨b, 1, none⟩ = some (.bool false)) := ae (by have := HN.out.c1; rwa [hp] at this);have hlu : lu (bs.map ky) = i + 1 := akq (by rw [List.length_map]; omega) (by rw [HKY.out]; exact hp) fun j h1 h2 => hpin.out j (by omega) (by simpa using h2)
    have HLU := ae hlu;clear hlu hp;go_upto_region 4 with fail;refine aJ 2 ?_;refine alM (ax rfl alW zx) ?_;refine alM (aE rfl alW (t6 HC1)) ?_;refine aH 1 ?_;go_wp2_with fail;go_ret;exact ⟨by rw [ur HLU.out, HB.out]; rfl, rfl⟩
   ·have HPI := ae hp;have HC1 : Hid (w.cell? ⟨b, 1, none⟩ = some (.bool true)) := ae (by have := HN.out.c1; rwa [hp] at this);clear hp;go_upto_region 4 with fail;refine aJ 2 ?_;refine alM (ax rfl alW zx) ?_;refine alM (aE rfl alW (t6 HC1)) ?_;refine aH 1 ?_;go_upto_region 3 with fail;refine aJ 2 ?_;refine alM (ax rfl alW n8) ?_;refine alM (aE rfl alW (jP (HN.out).c2)) ?_;refine aH 1 ?_;rw [HPB.out];go_wp2_with fail
    go_round
    case rel =>
     refine ⟨i, by omega, rfl, ae fun j h1 h2 => ?_⟩;by_cases e : j = i
     ·subst e; rw [HKY.out]; exact HPI
     ·exact hpin.out j (by omega) h2
    case measure =>
     show om ((E :: bs).getD i 0) (E :: bs) < om b (E :: bs)
     have h1 := HPS.out i (by omega);have h2 := HPS.out (i + 1) hi;rw [show (E :: bs).getD (i + 1) 0 = bs.getD i 0 from rfl, HB.out] at h2;omega
theorem ru (w : World) (h : dE w B p room E bm bs ky pv nx M) {b : Nat} (hi : i < bs.length) (hb : bs.getD i 0 = b) :
  Calls prog 124 #[.pointer (some ⟨p, 0, none⟩), .pointer (some ⟨b, 0, none⟩)] w fun e w' => e = .returned (.tuple #[]) /\ (∃ pv' nx' M', dE w' B p room E bm (wo bs i) ky pv' nx' M') /\ gD B w w' /\ ∃ u v, dJ w' b (ky b) u v := by
 have hbs : b ∈ bs := by rw [<- hb]; exact cO hi
 have hm : b ∈ E :: bs := List.mem_cons_of_mem _ hbs;have HL := ae h;have HLV := ae (tW (B := B) w h.lnk hm (h.pvm hm) (h.nxm hm) h.low.2.2);have HSG := ae (adc h.seg h.one hi);have HI := ae hi;have HB := ae hb;have HBS := ae hbs;clear h hi hb hm hbs;go_enter func124, ntmps124;go_upto_region 0 with fail;refine aJ 1 ?_;refine ay rfl (aB call159 rfl (evc alW evn)) ?_;refine HLV.out.mono ?_;rintro e w1 ⟨rfl, hl1, ht1⟩;refine aR ?_;refine ah ?_;have hat : w1.heap[p]? = some (.cells #[.int .i64 (room : Int), ptB E, .map (some bm)] 123 (0, 0)) := ht1.keep HL.out.at_ (by show ¬ (123 = 120); decide);have hmp : dU w1 bm bs.length M := HL.out.map.kept fun es c hb => ht1.keep hb fun e => e
 have hlen : bs.length = (wo bs i).length + 1 := (oU HI).symm;rw [hlen] at hmp;have HC2 := ae (cells3 hat).2.2;have HAT := ae hat
 have HMP := ae hmp;have HN := ae (hl1 b (List.mem_cons_of_mem _ HBS));have HLK := ae hl1;have HT := ae (ht1.widen zI);have HWF := ae (HL.out.kwf HBS);have HSM : Hid ((M (ky b).n).isSome = true) := ae (by rw [HL.out.hit b HBS.out]; rfl);clear hat hmp hlen hl1 ht1;go_upto_region 1 with fail;refine wp_region_still_tail 8 (by kernel_rfl) (by kernel_rfl) ?_;simp only [ac];refine aM rfl (aL rfl alW) ?_;simp only [aa];refine aM rfl (bj rfl alW) ?_;simp only [aa];refine aM rfl (ax rfl alW kU) ?_;simp only [aa];refine aM rfl (aE rfl alW (qy HC2)) ?_;simp only [aa];refine aM rfl (aL rfl alW) ?_;simp only [aa];refine aM rfl (bj rfl alW) ?_;simp only [aa];refine aM rfl (ax rfl alW ade) ?_;simp only [aa];refine aM rfl (aE rfl alW (bV (HN.out).c0)) ?_;simp only [aa];refine wpStill_nil ?_;change wpList _ _ _ _ _ (World.drew _);refine uI (w := w1.drew) rfl rfl alW alW (N := (wo bs i).length) HMP HWF HSM ?_;intro w2 hm2 ht2;simp only [Act.put];refine ah ?_
 go_end0
 refine ⟨rfl, ⟨dr pv (nx b) (pv b), dr nx (pv b) (nx b), fun j => if j = (ky b).n then none else M j, ?_⟩, pp HT.out.drew HL.out.low.2.1 ht2, ⟨_, _, i1 ht2 HN fun _ _ e => by cases e⟩⟩;have hsub := ke bs i;have hlk : Lnk w2 ky (dr pv (nx b) (pv b)) (dr nx (pv b) (nx b)) (E :: bs) := Lnk.turned (w := w1.drew) HLK ht2;refine ⟨i1 ht2 HAT (fun _ _ e => by cases e), hlk.sub fun x hx => ?_, by have := HSG.out; rwa [HB.out] at this, HL.out.one.sublist (hsub.cons_cons _), hm2, fun x hx => ?_, fun j x hj hx => ?_, ⟨HL.out.low.1, HL.out.low.2.1, fun x hx => HL.out.low.2.2 x ?_⟩, by rw [nD]; exact HL.out.ok.wo i, HL.out.rm⟩
 ·rcases List.mem_cons.1 hx with rfl | hx
  ·simp
  ·exact List.mem_cons_of_mem _ (hsub.subset hx)
 ·try dsimp only
  rw [if_neg, HL.out.hit x (hsub.subset hx)];intro e;have := HL.out.inj (hsub.subset hx) HBS e;have hn := yG (List.nodup_cons.1 HL.out.one).2 HI;rw [HB.out, <- this] at hn;exact hn hx
 ·try dsimp only at hx
  split at hx
  ·cases hx
  ·rename_i hne
   obtain ⟨h1, h2⟩ := HL.out.who j x hj hx;exact ⟨acR HI h1 (fun e => hne (by rw [<- h2, e, HB.out])), h2⟩
 ·rcases List.mem_cons.1 hx with rfl | hx
  ·simp
  ·exact List.mem_cons_of_mem _ (hsub.subset hx)
theorem acm (w : World) (hsz : B w.heap.size) (h : dE w B p room E bm bs ky pv nx M) (hk : ¬ plc k (bs.map ky) < bs.length) (hl : bs.length < room) (hw : (Lit.int .i64 k).wf = true) :
  Calls prog 162 #[.pointer (some ⟨p, 0, none⟩), .int .i64 k] w fun e w' => e = .returned (.tuple #[]) /\ (∃ n ky' pv' nx' M', dE w' B p room E bm (n :: bs) ky' pv' nx' M' /\ (n :: bs).map ky' = ⟨k, false⟩ :: bs.map ky) /\ gD B w w' := by
 have hn0 := h.mh hw hk;have hnS : w.heap.size ∉ E :: bs := fun e => by have := aS (h.lnk _ e); omega
 obtain ⟨w1, hw1⟩ : ∃ w1, w.alloc (.cells (qY ⟨k, false⟩ (.pointer none) (.pointer none)).toArray 120) = w1 := ⟨_, rfl⟩;have hn1 : dJ w1 w.heap.size ⟨k, false⟩ (.pointer none) (.pointer none) := by rw [<- hw1]; exact heap_alloc_new w _
 have hb1 : Below w.heap.size w w1 := by rw [<- hw1]; exact ak.alloc aj _
 have h1 := h.keep fun b o ho _ => aC ho hb1
 have HF := ae (rJ (B := B) (E := E) w1 ⟨k, false⟩ _ _ h1.lnk hn1 hnS (by simp) (h.nxm (by simp)) h.low.2.2 hsz);have HSG := ae (qp h.seg h.one hnS);have HW1 := ae hw1;have HL := ae h1;have HT1 := ae (cf.of_below (I := uy) (F := B) hb1);have HN0 := ae hn0;have HK := ae hk;have HLT := ae hl;have HWF := ae hw;have HNS := ae hnS;have HSZ := ae hsz;clear h h1 hk hl hw hn0 hsz hnS hw1 hn1 hb1;go_enter func162, ntmps162;go_upto_region 1 with fail;have hw1 := HW1.out;unfold qY at hw1;rw [hw1];clear hw1;refine aJ 3 ?_;refine alM (ax rfl alW nW) ?_;refine alM (aE rfl alW (jP (HL.out).c1)) ?_;refine ay rfl (aB call160 rfl (evc alW (evc alW evn))) ?_;refine HF.out.mono ?_;rintro e w2 ⟨rfl, hl2, ht2⟩;refine aR ?_;refine ah ?_;have hat : w2.heap[p]? = some (.cells #[.int .i64 (room : Int), ptB E, .map (some bm)] 123 (0, 0)) := ht2.keep HL.out.at_ (by show ¬ (123 = 120); decide);have hmp : dU w2 bm bs.length M := HL.out.map.kept fun es c hb => ht2.keep hb fun e => e
 have HC2 := ae (cells3 hat).2.2;have HAT := ae hat
 obtain ⟨w3, hr3, hm3, ht3⟩ := hmp.store HWF HN0 (by unfold maxLen; have := HLT.out; have := HL.out.rm; omega) w.heap.size;have HR3 := ae hr3;have HM3 := ae hm3;have HT3 := ae ht3;have HLK := ae hl2;have HT := ae (HT1.out.trans (ht2.widen zI));clear hat hmp hr3 hm3 ht3 hl2 ht2;go_upto_region 2 with fail;refine aJ 2 ?_;refine alM (ax rfl alW kU) ?_;refine alM (aE rfl alW (qy HC2)) ?_;refine runs 2 ?_;refine aG rfl (jq rfl (ev rfl) (ev rfl) (ev rfl) HR3.out) ?_;simp only [Act.put];refine ah ?_
 go_end0
 have hne : ∀ b ∈ bs, b ≠ w.heap.size := fun b hb e => HNS.out (by rw [<- e]; exact List.mem_cons_of_mem _ hb)
 have hmap : (w.heap.size :: bs).map (dr ky w.heap.size ⟨k, false⟩) = ⟨k, false⟩ :: bs.map ky := by
  rw [List.map_cons, dq]
  congr 1
  exact List.map_congr_left fun b hb => cq _ _ (hne b hb)
 have hkn : k ∉ fM (bs.map ky) := fun e => HK.out (by have := mq.2 e; simpa using this)
 refine ⟨rfl, ⟨w.heap.size, dr ky w.heap.size ⟨k, false⟩, dr (dr pv w.heap.size E) (nx E) w.heap.size, dr (dr nx w.heap.size (nx E)) E w.heap.size, fun j => if j = k then some w.heap.size else M j, ?_, hmap⟩, pp HT HL.out.low.2.1 HT3⟩;have hlk := Lnk.turned HLK HT3;refine ⟨i1 HT3 HAT (fun _ _ e => by cases e), hlk.sub fun x hx => ?_, HSG, ?_, HM3, fun x hx => ?_, fun j x hj hx => ?_, ⟨HL.out.low.1, HL.out.low.2.1, fun x hx => ?_⟩, by rw [hmap]; exact HL.out.ok.cons hkn (by rw [List.length_map]; exact HLT) HWF, HL.out.rm⟩
 ·rcases List.mem_cons.1 hx with rfl | hx
  ·simp
  ·rcases List.mem_cons.1 hx with rfl | hx
   ·simp
   ·simp [hx]
 ·have hd := List.nodup_cons.1 HL.out.one;refine List.nodup_cons.2 ⟨fun e => ?_, List.nodup_cons.2 ⟨fun e => HNS.out (List.mem_cons_of_mem _ e), hd.2⟩⟩;rcases List.mem_cons.1 e with e | e
  ·exact HNS.out (by rw [<- e]; simp)
  ·exact hd.1 e
 ·try dsimp only
  rcases List.mem_cons.1 hx with rfl | hx
  ·rw [dq, if_pos rfl]
  ·rw [cq _ _ (hne x hx), if_neg (fun e => hkn (by rw [<- e]; exact List.mem_map.2 ⟨ky x, List.mem_map.2 ⟨x, hx, rfl⟩, rfl⟩)), HL.out.hit x hx]
 ·try dsimp only at hx
  split at hx
  ·rename_i e
   injection hx with hx;subst hx e;exact ⟨by simp, by rw [dq]⟩
  ·obtain ⟨h1, h2⟩ := HL.out.who j x hj hx;exact ⟨List.mem_cons_of_mem _ h1, by rw [cq _ _ (hne x h1)]; exact h2⟩
 ·rcases List.mem_cons.1 hx with rfl | hx
  ·exact HL.out.low.2.2 _ (by simp)
  ·rcases List.mem_cons.1 hx with rfl | hx
   ·exact HSZ
   ·exact HL.out.low.2.2 _ (List.mem_cons_of_mem _ hx)
end
section
variable {w w' : World} {B p room E bm i : Nat} {bs : List Nat} {ky : Nat -> Ky} {pv nx : Nat -> Nat} {M : Int -> Option Nat} {L : List Ky} {k : Int}
theorem iX {x : Nat} (hi : i < bs.length) : x ∈ bs.getD i 0 :: wo bs i ↔ x ∈ bs := by
 constructor
 ·intro h;rcases List.mem_cons.1 h with rfl | h
  ·exact cO hi
  ·exact (ke bs i).subset h
 ·intro h;by_cases e : x = bs.getD i 0
  ·rw [e]; simp
  ·exact List.mem_cons_of_mem _ (acR hi h e)
theorem uR {i : Nat} (hp : plc k L = i) (hi : i < L.length) : ou k L = 0 := by unfold ou; rw [hp, if_pos hi]
theorem zA (hi : ¬ plc k L < L.length) : ou k L = 7 := if_neg hi
theorem adb {x : Ky} (hd : bs.Nodup) (hi : i < bs.length) : bs.map (dr ky (bs.getD i 0) x) = (bs.map ky).set i x := by
 apply List.ext_getElem (by simp);intro j h1 h2;have hj : j < bs.length := by simpa using h1
 rw [List.getElem_map, List.getElem_set];by_cases e : i = j
 ·subst e;have e0 : bs.getD i 0 = bs[i] := by simp [List.getD, hi]
  rw [if_pos rfl];exact (congrArg (dr ky (bs.getD i 0) x) e0.symm).trans (dq _ _ _)
 ·rw [if_neg e, List.getElem_map, cq];intro e2;have e3 : om (bs.getD j 0) bs = j := lA hd hj;rw [show bs.getD j 0 = bs[j] from by simp [List.getD, hj], e2, lA hd hi] at e3;exact e e3
end
theorem aaU (n : Int) (w : World) (h : ¬ (1 <= n /\ n <= 64)) : Calls prog 26 #[.int .i64 n] w fun e w' => e = .returned (.tuple #[.pointer none, .int .i64 2]) /\ w = w' := by
 by_cases h1 : n < 1
 ·have hd : decide (n < 1) = true := ao h1;go_enter func26, ntmps26;go_wp2_with fail;go_ret2;exact ⟨rfl, rfl⟩
 ·have hd : decide (n < 1) = false := am h1;have hd2 : decide (64 < n) = true := ao (by omega);go_enter func26, ntmps26;go_wp2_with fail;go_ret2;exact ⟨rfl, rfl⟩
end Go.Proofs.YtdmhelalbemlcaaGreatDoor
