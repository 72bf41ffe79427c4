import Derived.Test.YtlmdklakcmnaiaaGreatDoorBhai
namespace Go.Proofs.YtlmdklakcmnaiaaGreatDoor
set_option maxHeartbeats 8000000
open Go.Proofs.Tryz
open Go.RowKit
set_option linter.unusedVariables false
set_option linter.unusedSimpArgs false
set_option maxRecDepth 100000
theorem zS {ρ : Operand -> Value} {o : Oper} {x y : Operand} {w : World} {b j : Nat} {u : Value} {n : Int} (ho : o.op = .store 3 x y) (hx : ρ x = .pointer (some ⟨b, j, none⟩)) (hy : ρ y = .int .i64 n) (h : w.cell? ⟨b, j, none⟩ = some u) (hf : w.frozen? ⟨b, j, none⟩ = false) : (execOp ρ o).run prog w = .ok .skip (w.setCell ⟨b, j, none⟩ (.int .i64 n)) :=
 df ho hx hy (by simp [go_sem, h, hf])
section
variable {M : aV} {d n : Int} {b : Blk}
theorem afG (h : eG M d n = 9) : dW M d n b = M := by
 have hr : dr M d n ≠ 0 := fun e => by
  unfold eG at h;rw [if_pos e] at h;unfold aV.fo at h
  split at h <;> exact absurd h (by decide)
 unfold dW;rw [if_neg hr]
end
def lB (R : Ros) (s m : Int) : Option Int := if nJ R s m = true then (if eH R = true then some 16 else if hasB R m s = true then none else some 7) else some 2
section
variable {w0 ws w w' : World} {H K K' : Nat -> Prop} {p q : Nat} {x : HpS} {R : Ros} {M : aV} {h0 : HuS} {v : Value}
theorem SvQ.from (h : SvQ w0 H K w p q x h0 w') (hk : cj K ws w) : SvQ w0 H K ws p q x h0 w' := ⟨hk.trans h.1, h.2.1, h.2.2⟩
theorem SvQ.hj (h : SvQ w0 H K w p q x h0 w') : ∃ M' y, HJ w0 H K w' p q M' y := by
 by_cases e : fT h0 = 0
 ·exact ⟨_, _, (h.2.1 e).1⟩
 ·obtain ⟨us, _, hj⟩ := h.2.2 e;exact ⟨_, _, hj⟩
theorem SvQ.below {w2 : World} (h : SvQ w0 H K w p q x h0 w') (hb : Below w'.heap.size w' w2) : SvQ w0 H K w p q x h0 w2 := by
 obtain ⟨M', y, hj⟩ := h.hj;exact ⟨h.1.trans (hj.kept hb), fun e => ⟨(h.2.1 e).1.below hb, (h.2.1 e).2⟩, fun e => by obtain ⟨us, h1, h2⟩ := h.2.2 e; exact ⟨us, h1, h2.below hb⟩⟩
theorem aeW (m : Int) (hf : aW x.R = true) (hid : x.id ≠ 0 /\ x.id < 18446744073709551616) (hr : Room M 600) (he : x.us <= 4611686018427387000) (h : HJ w0 H K w p q M x) : Calls prog 104 #[.pointer (some ⟨p, 0, none⟩), .int .i64 m] w fun e w' =>
  e = .returned (.int .i64 (fT ⟨M, x.id, x.us, dM x.R m⟩)) /\ SvQ w0 H K w p q x ⟨M, x.id, x.us, dM x.R m⟩ w' := by
 obtain ⟨y, hy⟩ : ∃ y, dM x.R m = y := ⟨_, rfl⟩;have hfy : aW y = true := by rw [<- hy]; exact l9 m hf
 rw [hy];obtain ⟨lb, hlb⟩ : ∃ lb, lY x.R m = lb := ⟨_, rfl⟩;have HY := ae hy;have HLB := ae hlb;have HFY := ae hfy;have HID := ae hid;have HR := ae hr;have HUS := ae he;have HJ := ae h;clear hf hid hr he h hy hlb hfy;go_enter func104, ntmps104;go_upto_region 1 with fail;refine aI 2 ?_;refine akj (ax rfl akt pW) ?_;refine akj (bi rfl akt (PHo.ros HJ.out.hul)) ?_;refine runs 1 ?_;refine ay rfl (aB call135 rfl (evc akt (evc akt evn))) ?_;refine (xV w HY HLB).mono ?_;rintro e w1 ⟨rfl, b1⟩;have HB1 := ae b1;clear b1;refine aR ?_;refine runs 3 ?_;refine akj (cT rfl) ?_;refine aG rfl (lA rfl (ev rfl) (ev rfl)) ?_;simp only [aa];have HB2 := ae (HB1.out.alloc HB1.out.size (.cells (aZ y).toArray 58));have HR2 := ae (bJ.new w1 y);clear HB1;generalize w1.alloc (.cells (aZ y).toArray 58) = w2 at *;refine aF 1 ?_;go_upto_region 2 with fail;refine aI 1 ?_;refine akj (bi rfl akt HR2.out.range) ?_;refine ay rfl (aB call136 rfl (evc akt (evc akt evn))) ?_;refine (afX HFY HID HR HUS (HJ.out.below HB2)).mono ?_;rintro e w3 ⟨rfl, q3⟩;have HQ := ae (q3.from (HJ.out.kept HB2));clear q3;refine aR ?_;refine aF 1 ?_;go_wp2_with fail;go_ret;exact ⟨rfl, HQ⟩
theorem rM (m : Nat) (s : Fu) (P : Int -> World -> Prop) (hf : aW x.R = true) (hid : x.id ≠ 0 /\ x.id < 18446744073709551616) (hr : Room M 600) (he : x.us <= 4611686018427387000)
  (hdo : Calls prog s.f s.cap.toArray w fun e w' => ∃ E : Int, e = .returned (.int .i64 E) /\ P E w') (h9 : ∀ w', P 9 w' -> HJ w0 H K w' p q M x) : Calls prog 70 #[.pointer (some ⟨p, 0, none⟩), .int .i64 (m : Int), s.val] w fun e w' =>
  (∃ E : Int, E ≠ 9 /\ e = .returned (.int .i64 E) /\ P E w') \/ ∃ w2, P 9 w2 /\ e = .returned (.int .i64 (nG ⟨M, x.id, x.us, x.R⟩ m 7)) /\ SvQ w0 H K w2 p q x ⟨M, x.id, x.us, dM x.R (m : Int)⟩ w' := by
 obtain ⟨h1, hh1⟩ : ∃ h1 : HuS, (⟨M, x.id, x.us, dM x.R (m : Int)⟩ : HuS) = h1 := ⟨_, rfl⟩;obtain ⟨De, hDe⟩ : ∃ De, nG ⟨M, x.id, x.us, x.R⟩ m 7 = De := ⟨_, rfl⟩;have hDd : (if fT h1 = 0 then (if eH (fk h1).R = true then 16 else 7) else fT h1) = De := by rw [<- hDe, <- hh1]; rfl
 have hlo : ∀ w', P 9 w' -> Calls prog 104 #[.pointer (some ⟨p, 0, none⟩), .int .i64 (m : Int)] w' fun e w3 => e = .returned (.int .i64 (fT h1)) /\ SvQ w0 H K w' p q x h1 w3 := fun w' hw => by
  rw [<- hh1]; exact aeW (m : Int) hf hid hr he (h9 w' hw)
 rw [hh1, hDe];have HDD := ae hDd;have HLO := ae hlo;have HDO := ae hdo;clear hf hid hr he hdo h9 hh1 hDe hDd hlo;go_enter func70, ntmps70;go_upto_region 1 with fail;refine aI 1 ?_;refine ay rfl (ux (s := s) rfl akt) ?_;refine (HDO.out).mono ?_;rintro e w2 ⟨E, rfl, hE⟩;have HE := ae hE;clear hE;refine aR ?_;refine aF 1 ?_;go_upto_region 2 with fail;refine cf 1 ?_;by_cases he9 : E = 9;rotate_left 1
 ·have H9 : Hid ((E == 9) = false) := ae (av he9);have HN9 := ae he9;clear he9;go_upto_region 4 with fail;refine af ?_;refine akj (aH false rfl akt evk H9) ?_;refine aF 1 ?_;go_upto_region 3 with fail;refine cf 2 ?_;go_wp2_with fail;go_ret;exact .inl ⟨E, HN9, rfl, HE⟩
 subst he9;go_upto_region 4 with fail;refine af ?_;refine akj (aH true rfl akt evk rfl) ?_;refine aF 1 ?_;obtain ⟨se, hse⟩ : ∃ se, fT h1 = se := ⟨_, rfl⟩;have HSE := ae hse;clear hse;go_upto_region 5 with fail;refine aI 2 ?_;refine ay rfl (aB call104 rfl (evc akt (evc akt evn))) ?_;refine (HLO.out w2 HE).mono ?_;rintro e w3 ⟨rfl, q3⟩;rw [HSE.out];have HQ := ae q3;clear q3;refine aR ?_;refine aF 1 ?_;by_cases hs0 : se = 0;rotate_left 1
 ·have H0 : Hid ((se != 0) = true) := ae (bne_iff_ne.2 hs0);have HDE : Hid (De = se) := ae (by rw [<- HDD.out, HSE.out, if_neg hs0]);clear hs0;go_upto_region 6 with fail;refine aI 1 ?_;refine akj (aK true rfl akt evk H0) ?_;refine ah ?_;go_upto_region 7 with fail;refine cf 2 ?_;go_wp2_with fail;go_ret;exact .inr ⟨w2, HE, by rw [HDE.out]; rfl, HQ⟩
 subst hs0;go_upto_region 6 with fail;refine aI 1 ?_;refine akj (aK false rfl akt evk rfl) ?_;refine ah ?_;obtain ⟨hj3, _⟩ := HQ.out.2.1 HSE;have HJ3 := ae hj3;have HDF : Hid ((if eH (fk h1).R = true then 16 else 7) = De) := ae (by have := HDD.out; rw [HSE.out, if_pos rfl] at this; exact this);clear hj3;cases hfa : eH (fk h1).R
 ·have HFA := ae hfa;have HDE : Hid (De = 7) := ae (by rw [<- HDF.out, hfa]; rfl);clear hfa;go_upto_region 8 with fail;refine aI 1 ?_;refine ay rfl (aB call67 rfl (evc akt evn)) ?_;refine (fA HJ3.out.hul).mono ?_;rintro e w4 ⟨rfl, b4⟩;rw [show (if eH (HpS.mk x.id (fk h1).ev (fk h1).ev (fk h1).R).R = true then (16 : Int) else 0) = 0 from by show (if eH (fk h1).R = true then (16 : Int) else 0) = 0; rw [HFA.out]; rfl];have HQ4 := ae (HQ.out.below b4);clear b4;refine aR ?_;refine aF 1 ?_;go_upto_region 9 with fail;refine aI 1 ?_;refine akj (aK false rfl akt evk rfl) ?_;refine ah ?_;go_upto_region 11 with fail;refine cf 1 ?_;go_wp2_with fail;go_ret;exact .inr ⟨w2, HE, by rw [HDE.out]; rfl, HQ4⟩
 ·have HFA := ae hfa;have HDE : Hid (De = 16) := ae (by rw [<- HDF.out, hfa]; rfl);clear hfa;go_upto_region 8 with fail;refine aI 1 ?_;refine ay rfl (aB call67 rfl (evc akt evn)) ?_;refine (fA HJ3.out.hul).mono ?_;rintro e w4 ⟨rfl, b4⟩;rw [show (if eH (HpS.mk x.id (fk h1).ev (fk h1).ev (fk h1).R).R = true then (16 : Int) else 0) = 16 from by show (if eH (fk h1).R = true then (16 : Int) else 0) = 16; rw [HFA.out]; rfl];have HQ4 := ae (HQ.out.below b4);clear b4;refine aR ?_;refine aF 1 ?_;go_upto_region 9 with fail;refine aI 1 ?_;refine akj (aK true rfl akt evk rfl) ?_;refine ah ?_;go_upto_region 10 with fail;refine cf 2 ?_;go_wp2_with fail;go_ret;exact .inr ⟨w2, HE, by rw [HDE.out]; rfl, HQ4⟩
theorem abD {s m : Int} {sv : Fu} (h : NoH w v) : Calls prog 74 #[v, .agg #[.int .i64 s, .int .i64 m], sv.val] w fun e w' => e = .returned (.int .i64 1) /\ Below w.heap.size w w' := by
 obtain ⟨z0, hz0⟩ : ∃ z0, z0 = w.heap.size := ⟨_, rfl⟩;rw [<- hz0];have HZ0 := ae hz0;have HN := ae h;clear hz0 h;go_enter func74, ntmps74;go_upto_region 0 with fail;refine af ?_;refine akj (cO (cs := ([.int .i64 s, .int .i64 m] : List Value)) rfl akt) ?_;have hb0 := (Below.refl w.heap.size w).alloc aj (.cells ([.int .i64 s, .int .i64 m] : List Value).toArray 42);have HP1 := ae (heap_alloc_new w (.cells ([.int .i64 s, .int .i64 m] : List Value).toArray 42));have HB1 := ae hb0;obtain ⟨b4, hb4⟩ : ∃ b4, w.heap.size = b4 := ⟨_, rfl⟩;have HGb4 : Hid (w.heap.size <= b4) := ae (by rw [<- hb4]; exact aj);rw [hb4] at HP1 ⊢;clear hb4 hb0;generalize w.alloc (.cells ([.int .i64 s, .int .i64 m] : List Value).toArray 42) = w1 at *;refine akj (eW (v := sv.val) rfl rfl akt) ?_;have hb0 := (Below.refl w1.heap.size w1).alloc aj (.cells #[sv.val] 38);have HV2 := ae (heap_alloc_new w1 (.cells #[sv.val] 38));have HP2 := ae (aC HP1 hb0);have HB2 := ae (HB1.out.trans (hb0.mono HB1.out.size));obtain ⟨b5, hb5⟩ : ∃ b5, w1.heap.size = b5 := ⟨_, rfl⟩;have HGb5 : Hid (w.heap.size <= b5) := ae (by rw [<- hb5]; exact HB1.out.size);rw [hb5] at HV2 ⊢;clear hb5 hb0;generalize w1.alloc (.cells #[sv.val] 38) = w2 at *;refine aF 1 ?_;have HN2 := ae (HN.out.below HB2);go_upto_region 1 with fail;refine aI 1 ?_;refine ay rfl (aB call102 rfl (evc akt evn)) ?_;refine (x8 HN2).mono ?_;rintro e w3 ⟨rfl, rfl⟩;refine aR ?_;refine a7 4 rfl (aM rfl akt) (by kernel_rfl) ?_;simp only [bL, ac, aa];refine aF 1 ?_;go_upto_region 3 with fail;refine aI 1 ?_;refine ay rfl (aB call67 rfl (evc akt evn)) ?_;refine (nr HN2).mono ?_;rintro e w3 ⟨rfl, rfl⟩;refine aR ?_;refine aF 1 ?_;go_upto_region 4 with fail;refine aI 1 ?_;refine akj (aK true rfl akt evk rfl) ?_;refine ah ?_;go_upto_region 5 with fail;refine cf 2 ?_;go_wp2_with fail;go_ret;exact ⟨rfl, by rw [HZ0.out]; exact HB2⟩
theorem abx {s m : Int} {sv : Fu} {E : Int} (hg : dH x.R = true) (hE : lB x.R s m = some E) (h : PHo w p (some ⟨q, 0, none⟩) x) : Calls prog 74 #[.pointer (some ⟨p, 0, none⟩), .agg #[.int .i64 s, .int .i64 m], sv.val] w fun e w' => e = .returned (.int .i64 E) /\ Below w.heap.size w w' := by
 obtain ⟨z0, hz0⟩ : ∃ z0, z0 = w.heap.size := ⟨_, rfl⟩;rw [<- hz0];have HZ0 := ae hz0;have HL := ae h;have HGE := ae hg;have HCE := ae hE;clear hz0 h hg hE;go_enter func74, ntmps74;go_upto_region 0 with fail;refine af ?_;refine akj (cO (cs := ([.int .i64 s, .int .i64 m] : List Value)) rfl akt) ?_;have hb0 := (Below.refl w.heap.size w).alloc aj (.cells ([.int .i64 s, .int .i64 m] : List Value).toArray 42);have HP1 := ae (heap_alloc_new w (.cells ([.int .i64 s, .int .i64 m] : List Value).toArray 42));have HB1 := ae hb0;obtain ⟨b4, hb4⟩ : ∃ b4, w.heap.size = b4 := ⟨_, rfl⟩;have HGb4 : Hid (w.heap.size <= b4) := ae (by rw [<- hb4]; exact aj);rw [hb4] at HP1 ⊢;clear hb4 hb0;generalize w.alloc (.cells ([.int .i64 s, .int .i64 m] : List Value).toArray 42) = w1 at *;refine akj (eW (v := sv.val) rfl rfl akt) ?_;have hb0 := (Below.refl w1.heap.size w1).alloc aj (.cells #[sv.val] 38);have HV2 := ae (heap_alloc_new w1 (.cells #[sv.val] 38));have HP2 := ae (aC HP1 hb0);have HB2 := ae (HB1.out.trans (hb0.mono HB1.out.size));obtain ⟨b5, hb5⟩ : ∃ b5, w1.heap.size = b5 := ⟨_, rfl⟩;have HGb5 : Hid (w.heap.size <= b5) := ae (by rw [<- hb5]; exact HB1.out.size);rw [hb5] at HV2 ⊢;clear hb5 hb0;generalize w1.alloc (.cells #[sv.val] 38) = w2 at *;refine aF 1 ?_;have HL2 := ae (HL.out.below HB2);obtain ⟨pb, hpb⟩ : ∃ pb, nJ x.R s m = pb := ⟨_, rfl⟩;have HPB := ae hpb;clear hpb;cases pb
 ·have HEE : Hid (E = 2) := ae (by have := HCE.out; unfold lB at this; rw [HPB.out, if_neg (by decide)] at this; exact (Option.some.inj this).symm);go_upto_region 1 with fail;refine aI 1 ?_;refine ay rfl (aB call102 rfl (evc akt evn)) ?_;refine (kb HL2).mono ?_;rintro e w3 ⟨rfl, rfl⟩;refine aR ?_;refine runs 2 ?_;refine akq (cv (cs := ([.int .i64 s, .int .i64 m] : List Value)) underlying42 rfl (by kernel_rfl) rfl akt (aQ HP2)) ?_;refine ay ake (aB call110 rfl (evc akt (evc akt evn))) ?_;refine (wq s m HGE HL2).mono ?_;rintro e w3 ⟨rfl, b3⟩;rw [HPB.out];have HB3 := ae (HB2.out.trans (b3.mono HB2.out.size));have HL3 := ae (HL2.out.below b3);have HP3 := ae (aC HP2 b3);have HV3 := ae (aC HV2 b3);clear b3;refine aR ?_;refine aF 2 ?_;go_upto_region 2 with fail;refine cf 1 ?_;go_wp2_with fail;go_ret;exact ⟨by rw [HEE.out]; rfl, by rw [HZ0.out]; exact HB3⟩
 go_upto_region 1 with fail;refine aI 1 ?_;refine ay rfl (aB call102 rfl (evc akt evn)) ?_;refine (kb HL2).mono ?_;rintro e w3 ⟨rfl, rfl⟩;refine aR ?_;refine runs 2 ?_;refine akq (cv (cs := ([.int .i64 s, .int .i64 m] : List Value)) underlying42 rfl (by kernel_rfl) rfl akt (aQ HP2)) ?_;refine ay ake (aB call110 rfl (evc akt (evc akt evn))) ?_;refine (wq s m HGE HL2).mono ?_;rintro e w3 ⟨rfl, b3⟩;rw [HPB.out];have HB3 := ae (HB2.out.trans (b3.mono HB2.out.size));have HL3 := ae (HL2.out.below b3);have HP3 := ae (aC HP2 b3);have HV3 := ae (aC HV2 b3);clear b3;refine aR ?_;refine aF 2 ?_;cases hfa : eH x.R;rotate_left 1
 ·have HFA := ae hfa;have HEE : Hid (E = 16) := ae (by have := HCE.out; unfold lB at this; rw [HPB.out, if_pos rfl, hfa, if_pos rfl] at this; exact (Option.some.inj this).symm);clear hfa;go_upto_region 3 with fail;refine aI 1 ?_;refine ay rfl (aB call67 rfl (evc akt evn)) ?_;refine (fA HL3).mono ?_;rintro e w4 ⟨rfl, b4'⟩;rw [show (if eH x.R = true then (16 : Int) else 0) = 16 from by rw [HFA.out]; rfl];have HB4 := ae (HB3.out.trans (b4'.mono HB3.out.size));have HL4 := ae (HL3.out.below b4');have HP4 := ae (aC HP3 b4');have HV4 := ae (aC HV3 b4');clear b4';refine aR ?_;refine aF 1 ?_;go_upto_region 4 with fail;refine aI 1 ?_;refine akj (aK true rfl akt evk rfl) ?_;refine ah ?_;go_upto_region 5 with fail;refine cf 2 ?_;go_wp2_with fail;go_ret;exact ⟨by rw [HEE.out]; rfl, by rw [HZ0.out]; exact HB4⟩
 have HFA := ae hfa;have HHB : Hid (hasB x.R m s = false) := ae (by
  have := HCE.out;unfold lB at this;rw [HPB.out, if_pos rfl, hfa, if_neg (by decide)] at this;cases hh : hasB x.R m s
  ·rfl
  ·rw [hh, if_pos rfl] at this; cases this)
 have HEE : Hid (E = 7) := ae (by have := HCE.out; unfold lB at this; rw [HPB.out, if_pos rfl, hfa, if_neg (by decide), HHB.out, if_neg (by decide)] at this; exact (Option.some.inj this).symm);clear hfa;go_upto_region 3 with fail;refine aI 1 ?_;refine ay rfl (aB call67 rfl (evc akt evn)) ?_;refine (fA HL3).mono ?_;rintro e w4 ⟨rfl, b4'⟩;rw [show (if eH x.R = true then (16 : Int) else 0) = 0 from by rw [HFA.out]; rfl];have HB4 := ae (HB3.out.trans (b4'.mono HB3.out.size));have HL4 := ae (HL3.out.below b4');have HP4 := ae (aC HP3 b4');have HV4 := ae (aC HV3 b4');clear b4';refine aR ?_;refine aF 1 ?_;go_upto_region 4 with fail;refine aI 1 ?_;refine akj (aK false rfl akt evk rfl) ?_;refine ah ?_;go_upto_region 6 with fail;refine aS (B := w4.heap.size) (by kernel_rfl) ?_;refine cC 2 ?_;refine akr (fun _ hw => ax rfl akt pW) ?_;refine akr (fun _ hw => bi rfl akt (PHo.ros (HL4.out.below hw))) ?_;refine akr (fun _ hw => ax rfl akt yy) ?_;refine akr (fun _ hw => aD rfl akt (cd ((aQ (aC HP4 hw)) 1 _ rfl))) ?_;refine akr (fun _ hw => ax rfl akt yc) ?_;refine akr (fun _ hw => aD rfl akt (cd ((aQ (aC HP4 hw)) 0 _ rfl))) ?_;refine bQ rfl (fun _ => aB call111 rfl (evc akt (evc akt (evc akt evn)))) (bz aj fun w' hw => acJ w' HHB) ?_;simp only [aa];refine cC 1 ?_;refine wpQuiet_nil ?_;intro w5 hw;have HB5 := ae (HB4.out.trans (hw.mono HB4.out.size));have HL5 := ae (HL4.out.below hw);have HP5 := ae (aC HP4 hw);have HV5 := ae (aC HV4 hw);clear hw;go_upto_region 7 with fail;refine cf 1 ?_;go_wp2_with fail;go_ret;exact ⟨by rw [HEE.out]; rfl, by rw [HZ0.out]; exact HB5⟩
theorem zP {b5 b8 : Nat} {sv : Fu} {n : Int} {P : Int -> World -> Prop} (h5 : w.heap[b5]? = some (.cells #[sv.val] 38 (0, 0))) (h8 : w.heap[b8]? = some (.cells #[.int .i64 n] 3 (0, 0))) (hdo : Calls prog sv.f (.int .i64 n :: sv.cap).toArray w fun e w' => ∃ E : Int, e = .returned (.int .i64 E) /\ P E w') : Calls prog 112 #[.pointer (some ⟨b5, 0, none⟩), .pointer (some ⟨b8, 0, none⟩)] w fun e w' => ∃ E : Int, e = .returned (.int .i64 E) /\ P E w' := by
 have H5 := ae h5;have H8 := ae h8;have HDO := ae hdo;clear h5 h8 hdo;go_enter func112, ntmps112;go_upto_region 1 with fail;refine af ?_;refine akj (aD rfl akt (ai4 (s := sv) (cell_of_row _ b5 0 _ _ _ H5))) ?_;refine akj (aD rfl akt (cd (cell_of_row _ b8 0 _ _ _ H8))) ?_;refine ay rfl (nj (s := sv) (v := .int .i64 n) rfl akt akt) ?_;refine (HDO.out).mono ?_;rintro e w2 ⟨E, rfl, hE⟩;have HE := ae hE;clear hE;refine aR ?_;refine aF 1 ?_;go_wp2_with fail;go_ret;exact ⟨E, rfl, HE⟩
def clF (b5 b8 : Nat) : Fu := ⟨112, [.pointer (some ⟨b5, 0, none⟩), .pointer (some ⟨b8, 0, none⟩)], call112⟩
theorem kM {R : Ros} {s m : Int} (h : lB R s m = none) : nJ R s m = true /\ eH R = false /\ hasB R m s = true := by
 unfold lB at h
 split at h
 ·rename_i h1
  split at h
  ·cases h
  ·rename_i h2
   split at h
   ·rename_i h3
    exact ⟨h1, by cases hh : eH R; rfl; exact absurd hh h2, h3⟩
   ·cases h
 ·cases h
theorem vo {s m : Int} {sv : Fu} (P : Int -> World -> Prop) (hf : aW x.R = true) (hid : x.id ≠ 0 /\ x.id < 18446744073709551616) (hr : Room M 600) (he : x.us <= 4611686018427387000) (hE : lB x.R s m = none) (h : PHo w p (some ⟨q, 0, none⟩) x)
  (hdo : ∀ w1, Below w.heap.size w w1 -> Calls prog sv.f (.int .i64 (2 + s) :: sv.cap).toArray w1 fun e w' => ∃ E : Int, e = .returned (.int .i64 E) /\ P E w') (h9 : ∀ w', P 9 w' -> HJ w0 H K w' p q M x) : Calls prog 74 #[.pointer (some ⟨p, 0, none⟩), .agg #[.int .i64 s, .int .i64 m], sv.val] w fun e w' => (∃ E : Int, E ≠ 9 /\ e = .returned (.int .i64 E) /\ P E w') \/ ∃ w2, P 9 w2 /\ e = .returned (.int .i64 (nG ⟨M, x.id, x.us, x.R⟩ m.toNat 7)) /\ SvQ w0 H K w2 p q x ⟨M, x.id, x.us, dM x.R (m.toNat : Int)⟩ w' := by
 obtain ⟨c1, c2, c3⟩ := kM hE;have hpl := of_decide_eq_true c1;have hgb : dH x.R = true := by have hf' := hf; unfold aW at hf'; simp only [Bool.and_eq_true] at hf'; exact hf'.1.1.1
 obtain ⟨j, hj⟩ : ∃ j : Nat, m = (j : Int) := ⟨m.toNat, by omega⟩;subst hj;rw [Int.toNat_natCast];have hsec : aaV s = 2 + s /\ aas s = 0 := by
  have hg := gW.1 hgb;have hh : has 64 s = true := gi.2 (by omega);exact ⟨by unfold aaV; rw [if_pos hh], by unfold aas; rw [if_pos hh]⟩
 have HSN := ae hsec.1;have HSE := ae hsec.2;have HGE := ae hgb;have HPB := ae c1;have HFA := ae c2;have HHB := ae c3;have HL := ae h;have HDO := ae hdo;have HDN := ae (fun (w3 : World) (s3 : Fu) (hd : Calls prog s3.f s3.cap.toArray w3 fun e w' => ∃ E : Int, e = .returned (.int .i64 E) /\ P E w') => rM (w := w3) j s3 P hf hid hr he hd h9);clear hf hid hr he hE h hdo h9 c1 c2 c3 hpl hgb hsec;go_enter func74, ntmps74;go_upto_region 0 with fail;refine af ?_;refine akj (cO (cs := ([.int .i64 s, .int .i64 (j : Int)] : List Value)) rfl akt) ?_;have hb0 := (Below.refl w.heap.size w).alloc aj (.cells ([.int .i64 s, .int .i64 (j : Int)] : List Value).toArray 42);have HP1 := ae (heap_alloc_new w (.cells ([.int .i64 s, .int .i64 (j : Int)] : List Value).toArray 42));have HB1 := ae hb0;obtain ⟨b4, hb4⟩ : ∃ b4, w.heap.size = b4 := ⟨_, rfl⟩;have HGb4 : Hid (w.heap.size <= b4) := ae (by rw [<- hb4]; exact aj);rw [hb4] at HP1 ⊢;clear hb4 hb0;generalize w.alloc (.cells ([.int .i64 s, .int .i64 (j : Int)] : List Value).toArray 42) = w1 at *;refine akj (eW (v := sv.val) rfl rfl akt) ?_;have hb0 := (Below.refl w1.heap.size w1).alloc aj (.cells #[sv.val] 38);have HV2 := ae (heap_alloc_new w1 (.cells #[sv.val] 38));have HP2 := ae (aC HP1 hb0);have HB2 := ae (HB1.out.trans (hb0.mono HB1.out.size));obtain ⟨b5, hb5⟩ : ∃ b5, w1.heap.size = b5 := ⟨_, rfl⟩;have HGb5 : Hid (w.heap.size <= b5) := ae (by rw [<- hb5]; exact HB1.out.size);rw [hb5] at HV2 ⊢;clear hb5 hb0;generalize w1.alloc (.cells #[sv.val] 38) = w2 at *;refine aF 1 ?_;have HL2 := ae (HL.out.below HB2);go_upto_region 1 with fail;refine aI 1 ?_;refine ay rfl (aB call102 rfl (evc akt evn)) ?_;refine (kb HL2).mono ?_;rintro e w3 ⟨rfl, rfl⟩;refine aR ?_;refine runs 2 ?_;refine akq (cv (cs := ([.int .i64 s, .int .i64 (j : Int)] : List Value)) underlying42 rfl (by kernel_rfl) rfl akt (aQ HP2)) ?_;refine ay ake (aB call110 rfl (evc akt (evc akt evn))) ?_;refine (wq s (j : Int) HGE HL2).mono ?_;rintro e w3 ⟨rfl, b3⟩;rw [HPB.out];have HB3 := ae (HB2.out.trans (b3.mono HB2.out.size));have HL3 := ae (HL2.out.below b3);have HP3 := ae (aC HP2 b3);have HV3 := ae (aC HV2 b3);clear b3;refine aR ?_;refine aF 2 ?_;go_upto_region 3 with fail;refine aI 1 ?_;refine ay rfl (aB call67 rfl (evc akt evn)) ?_;refine (fA HL3).mono ?_;rintro e w4 ⟨rfl, b4'⟩;rw [show (if eH x.R = true then (16 : Int) else 0) = 0 from by rw [HFA.out]; rfl];have HB4 := ae (HB3.out.trans (b4'.mono HB3.out.size));have HL4 := ae (HL3.out.below b4');have HP4 := ae (aC HP3 b4');have HV4 := ae (aC HV3 b4');clear b4';refine aR ?_;refine aF 1 ?_;go_upto_region 4 with fail;refine aI 1 ?_;refine akj (aK false rfl akt evk rfl) ?_;refine ah ?_;go_upto_region 6 with fail;refine aS (B := w4.heap.size) (by kernel_rfl) ?_;refine cC 2 ?_;refine akr (fun _ hw => ax rfl akt pW) ?_;refine akr (fun _ hw => bi rfl akt (PHo.ros (HL4.out.below hw))) ?_;refine akr (fun _ hw => ax rfl akt yy) ?_;refine akr (fun _ hw => aD rfl akt (cd ((aQ (aC HP4 hw)) 1 _ rfl))) ?_;refine akr (fun _ hw => ax rfl akt yc) ?_;refine akr (fun _ hw => aD rfl akt (cd ((aQ (aC HP4 hw)) 0 _ rfl))) ?_;refine bQ rfl (fun _ => aB call111 rfl (evc akt (evc akt (evc akt evn)))) (bz aj fun w' hw => acJ w' HHB) ?_;simp only [aa];refine cC 1 ?_;refine wpQuiet_nil ?_;intro w5 hw;have HB5 := ae (HB4.out.trans (hw.mono HB4.out.size));have HL5 := ae (HL4.out.below hw);have HP5 := ae (aC HP4 hw);have HV5 := ae (aC HV4 hw);clear hw;go_upto_region 8 with fail;refine af ?_;refine akj (ax rfl akt yc) ?_;refine akj (aD rfl akt (cd ((aQ HP5) 0 _ rfl))) ?_;refine ay rfl (aB call80 rfl (evc akt evn)) ?_;refine (na s w5).mono ?_;rintro e w6 ⟨rfl, b6'⟩;rw [HSN.out, HSE.out];have HB6 := ae (HB5.out.trans (b6'.mono HB5.out.size));have HP6 := ae (aC HP5 b6');have HV6 := ae (aC HV5 b6');clear b6';refine aR ?_;refine runs 3 ?_;refine akj (m9 rfl ah0 rfl) ?_;have hb0 := (Below.refl w6.heap.size w6).alloc aj (.cells #[.int .i64 0] 3);have HI7 := ae (heap_alloc_new w6 (.cells #[.int .i64 0] 3));have HP7 := ae (aC HP6 hb0);have HV7 := ae (aC HV6 hb0);have HB7 := ae (HB6.out.trans (hb0.mono HB6.out.size));obtain ⟨b8, hb8⟩ : ∃ b8, w6.heap.size = b8 := ⟨_, rfl⟩;have HG8 : Hid (w.heap.size <= b8) := ae (by rw [<- hb8]; exact HB6.out.size);have HLT8 : Hid (b4 < b8 /\ b5 < b8) := ae (by rw [<- hb8]; exact ⟨aU HP6, aU HV6⟩);rw [hb8] at HI7 ⊢;clear hb8 hb0;generalize w6.alloc (.cells #[.int .i64 0] 3) = w7 at *;refine aG rfl (zS rfl (ev rfl) (ev rfl) (cell_of_row _ b8 0 _ _ _ HI7.out) (frozen_of_row _ b8 0 _ _ HI7.out)) ?_;simp only [aa];have ho : Only (fun b => b = b8) w7 (w7.setCell ⟨b8, 0, none⟩ (.int .i64 (2 + s))) := (Only.refl (fun b => b = b8) w7).setCell (p := ⟨b8, 0, none⟩) (.inl rfl) _;have HI8 := ae (heap_setCell_same w7 b8 0 _ _ (.int .i64 (2 + s)) HI7);have HP8 := ae (ho.keep HP7 (by have := HLT8.out.1; omega));have HV8 := ae (ho.keep HV7 (by have := HLT8.out.2; omega));have HB8 := ae (HB7.out.setCell (p := ⟨b8, 0, none⟩) (by show w.heap.size <= b8; exact HG8) (.int .i64 (2 + s)));clear ho HI7;generalize w7.setCell ⟨b8, 0, none⟩ (.int .i64 (2 + s)) = w8 at *;refine aF 1 ?_;go_upto_region 9 with fail;refine aI 1 ?_;refine akj (aK false rfl akt evk rfl) ?_;refine ah ?_;go_upto_region 11 with fail;refine aI 1 ?_;refine akj (ax rfl akt yy) ?_;refine akj (aD rfl akt (cd ((aQ HP8) 1 _ rfl))) ?_;refine akj (q6 rfl akt akt) ?_;refine ay rfl (aB call70 rfl (evc akt (evc akt (evc akt evn)))) ?_;refine (HDN.out w8 (clF b5 b8) (zP HV8 HI8 (HDO.out w8 HB8))).mono ?_;rintro e w9 hq;rcases hq with ⟨E, e1, rfl, e2⟩ | ⟨w10, e1, rfl, e2⟩
 ·refine aR ?_;refine aF 1 ?_;go_wp2_with fail;go_ret;exact .inl ⟨E, e1, rfl, e2⟩
 ·refine aR ?_;refine aF 1 ?_;go_wp2_with fail;go_ret;exact .inr ⟨w10, e1, rfl, e2⟩
end
def HuQ (w0 : World) (H K : Nat -> Prop) (w : World) (p q : Nat) (x : HpS) (h' : HuS) (ok : Prop) (w' : World) : Prop :=
 cj K w w' /\ (ok -> HJ w0 H K w' p q h'.M ⟨x.id, h'.ev, h'.ev, h'.R⟩ /\ aW h'.R = true /\ h'.id = x.id /\ h'.ev <= x.us + 17) /\ (¬ ok -> ∃ us, us <= x.us + 17 /\ HJ w0 H K w' p q h'.M { x with us := us })
def pQ (h : HuS) (s m : Int) : Int := match lB h.R s m with | some E => E | none => if eG h.M m (2 + s) = 9 then nG h m.toNat 7 else eG h.M m (2 + s)
section
variable {h : HuS} {s m E : Int} {b : Blk}
theorem afR : (if pQ h s m = 7 then 0 else pQ h s m) = jZ h s m b := by
 unfold pQ jZ lB
 split
 ·rename_i E hE
  split at hE
  ·rename_i c1
   rw [if_pos c1]
   split at hE
   ·rename_i c2
    rw [if_pos c2];cases hE
    rfl
   ·rename_i c2
    rw [if_neg c2]
    split at hE
    ·cases hE
    ·rename_i c3
     rw [if_neg c3];cases hE
     rfl
  ·rename_i c1
   rw [if_neg c1];cases hE
   rfl
 ·rename_i hE
  obtain ⟨c1, c2, c3⟩ := kM (R := h.R) (s := s) (m := m) hE;rw [if_pos c1, c2, if_neg (show ¬ (false = true) by decide), if_pos c3];by_cases h9 : eG h.M m (2 + s) = 9
  ·rw [if_pos h9, if_pos h9];unfold nG;have hs : fT (kE h m.toNat) ≠ 7 := by have := afz (kE h m.toNat); omega
   by_cases e0 : fT (kE h m.toNat) = 0
   ·rw [if_pos e0, if_pos e0]
    split
    ·rfl
    ·rfl
   ·rw [if_neg e0, if_neg e0, if_neg hs]
  ·rw [if_neg h9, if_neg h9];have := agC h.M m (2 + s);rw [if_neg (by omega)]
theorem af1 (hE : lB h.R s m = some E) : pQ h s m = E /\ fU h s m b = h /\ wL h s m := by
 have h2 : ∀ {z : Prop}, ¬(nJ h.R s m = true /\ eH h.R = false /\ hasB h.R m s = true /\ z) := fun ⟨c1, c2, c3, _⟩ => by
  unfold lB at hE;rw [if_pos c1, c2, if_neg (by decide), if_pos c3] at hE;cases hE
 refine ⟨by unfold pQ; rw [hE], ?_, fun e => absurd e h2⟩;unfold fU;rw [if_neg fun e => h2 (z := True) ⟨e.1, e.2.1, e.2.2, trivial⟩]
theorem acF (hE : lB h.R s m = none) (h9 : eG h.M m (2 + s) = 9) : pQ h s m = nG h m.toNat 7 /\ fU h s m b = mB h m.toNat /\ (wL h s m ↔ fT (kE h m.toNat) = 0) := by
 obtain ⟨c1, c2, c3⟩ := kM hE;refine ⟨by unfold pQ; rw [hE]; exact if_pos h9, ?_, ⟨fun k => k ⟨c1, c2, c3, h9⟩, fun e _ => e⟩⟩;unfold fU;rw [if_pos ⟨c1, c2, c3⟩, if_pos h9]
theorem abK (hE : lB h.R s m = none) (h9 : eG h.M m (2 + s) ≠ 9) : pQ h s m = eG h.M m (2 + s) /\ fU h s m b = { h with M := dW h.M m (2 + s) b } /\ wL h s m := by
 obtain ⟨c1, c2, c3⟩ := kM hE;refine ⟨by unfold pQ; rw [hE]; exact if_neg h9, ?_, fun e => absurd e.2.2.2 h9⟩;unfold fU;rw [if_pos ⟨c1, c2, c3⟩, if_neg h9]
end
section
variable {w0 ws w w' : World} {H K K' : Nat -> Prop} {p q b2 b3 b4 b5 b6 : Nat} {x : HpS} {R : Ros} {M : aV} {h0 h' : HuS} {v : Value} {ok : Prop}
theorem HuQ.from (h : HuQ w0 H K w p q x h' ok w') (hk : cj K ws w) : HuQ w0 H K ws p q x h' ok w' := ⟨hk.trans h.1, h.2.1, h.2.2⟩
theorem HuQ.of (hj : HJ w0 H K w' p q M x) (hk : cj K w w') (hs : x.ev = x.us) (hf : aW x.R = true) (hok : ok) : HuQ w0 H K w p q x ⟨M, x.id, x.us, x.R⟩ ok w' := by
 refine ⟨hk, fun _ => ⟨?_, hf, rfl, by show x.us <= _; omega⟩, fun e => absurd hok e⟩
 show HJ w0 H K w' p q M ⟨x.id, x.us, x.us, x.R⟩
 have e : x = ⟨x.id, x.us, x.us, x.R⟩ := by
  obtain ⟨a, b, c, d⟩ := x;simp only at hs;rw [hs]
 rw [<- e];exact hj
theorem HuQ.sv {m : Nat} (hq : SvQ w0 H K w p q x ⟨M, x.id, x.us, dM x.R (m : Int)⟩ w') (hok : ok ↔ fT (kE ⟨M, x.id, x.us, x.R⟩ m) = 0) : HuQ w0 H K w p q x (mB ⟨M, x.id, x.us, x.R⟩ m) ok w' :=
 ⟨hq.1, fun e => hq.2.1 (hok.1 e), fun e => hq.2.2 fun z => e (hok.2 z)⟩
theorem NoH.cells (h : NoH w v) : v.cells = #[v] := by
 rcases h with rfl | ⟨p, rfl, _⟩ <;> rfl
theorem ai2 {w2 : World} {ad : Addr} (h : NoH w v) (hc : w2.cell? ad = some v) : (Instr.loadAt 24 (.pointer (some ad))).run prog w2 = .ok v w2 := by
 rcases h with rfl | ⟨p, rfl, _⟩
 ·exact lz hc
 ·exact lz hc
theorem pZ {s m n : Int} {y : Blk} (hr : Room M 1) (h : HJ w0 H K w p q M x) (h3 : w.heap[b3]? = some (.cells #[.pointer (some ⟨p, 0, none⟩)] 24 (0, 0))) (h4 : w.heap[b4]? = some (.cells ([.int .i64 s, .int .i64 m] : List Value).toArray 42 (0, 0))) (h5 : w.heap[b5]? = some (.cells (cel y).toArray 44 (0, 0))) : Calls prog 75 #[.int .i64 n, .pointer (some ⟨b3, 0, none⟩), .pointer (some ⟨b4, 0, none⟩), .pointer (some ⟨b5, 0, none⟩)] w fun e w' =>
  e = .returned (.int .i64 (eG M m n)) /\ HJ w0 H K w' p q (dW M m n y) x /\ cj K w w' := by
 have HJ := ae h.drew;have HRM := ae hr;have HD : Hid (Below w.heap.size w (World.drew w)) := ae (bd ak);have HKD := ae (h.kept HD);have H3 := ae (aC h3 HD);have H4 := ae (aC h4 HD);have H5 := ae (aC h5 HD);clear hr h h3 h4 h5;go_enter func75, ntmps75;go_upto_region 1 with fail;refine wp_region_still_tail 8 (by kernel_rfl) (by kernel_rfl) ?_;simp only [ac];refine aP rfl (aD rfl akt (lz ((aQ H3) 0 _ rfl))) ?_;simp only [aa];refine aP rfl (bq rfl akt) ?_;simp only [aa];refine aP rfl (ax rfl akt oZ) ?_;simp only [aa];refine aP rfl (aD rfl akt (vD (PHo.c0 HJ.out.hul))) ?_;simp only [aa];refine aP rfl (ax rfl akt yy) ?_;simp only [aa];refine aP rfl (aD rfl akt (cd ((aQ H4) 1 _ rfl))) ?_;simp only [aa];refine aP rfl (aM rfl akt) ?_;simp only [aa];refine aP rfl (bI rfl akt (aQ H5)) ?_;simp only [aa];refine wpStill_nil ?_;change wpList _ _ _ _ _ (World.drew _);refine ay rfl (aB call76 rfl (evc akt (evc akt (evc akt (evc akt evn))))) ?_;refine (HJ.out.write m n y HRM).mono ?_;rintro e w2 ⟨rfl, j2, k2⟩;refine aR ?_;refine aF 1 ?_;go_wp2_with fail;go_ret;exact ⟨rfl, j2, HKD.out.trans k2⟩
def wrF (b3 b4 b5 : Nat) : Fu := ⟨75, [.pointer (some ⟨b3, 0, none⟩), .pointer (some ⟨b4, 0, none⟩), .pointer (some ⟨b5, 0, none⟩)], call75⟩
theorem qF {s m : Int} {y : Blk} (hf : aW x.R = true) (hid : x.id ≠ 0 /\ x.id < 18446744073709551616) (hr : Room M 600) (he : x.us <= 4611686018427387000) (hs : x.ev = x.us) (h : HJ w0 H K w p q M x) (h3 : w.heap[b3]? = some (.cells #[.pointer (some ⟨p, 0, none⟩)] 24 (0, 0))) (h4 : w.heap[b4]? = some (.cells ([.int .i64 s, .int .i64 m] : List Value).toArray 42 (0, 0))) (h5 : w.heap[b5]? = some (.cells (cel y).toArray 44 (0, 0))) : Calls prog 74 #[.pointer (some ⟨p, 0, none⟩), .agg #[.int .i64 s, .int .i64 m], (wrF b3 b4 b5).val] w fun e w' =>
  e = .returned (.int .i64 (pQ ⟨M, x.id, x.us, x.R⟩ s m)) /\ HuQ w0 H K w p q x (fU ⟨M, x.id, x.us, x.R⟩ s m y) (wL ⟨M, x.id, x.us, x.R⟩ s m) w' := by
 have hgb : dH x.R = true := by have hf' := hf; unfold aW at hf'; simp only [Bool.and_eq_true] at hf'; exact hf'.1.1.1
 cases hE : lB x.R s m with
 |some E =>
  obtain ⟨c1, c3, c4⟩ := af1 (h := ⟨M, x.id, x.us, x.R⟩) (b := y) hE;refine (abx (sv := wrF b3 b4 b5) hgb hE h.hul).mono ?_;rintro e w2 ⟨rfl, b⟩;rw [c1, c3];exact ⟨rfl, HuQ.of (h.below b) (h.kept b) hs hf c4⟩
 |none =>
  by_cases h9 : eG M m (2 + s) = 9
  ·obtain ⟨c1, c3, c4⟩ := acF (h := ⟨M, x.id, x.us, x.R⟩) (b := y) hE h9;rw [c1, c3];refine (vo (w0 := w0) (H := H) (K := K) (M := M) (sv := wrF b3 b4 b5) (fun E w' => E = 9 /\ HJ w0 H K w' p q M x /\ cj K w w') hf hid hr he hE h.hul (fun w1 hb => ?_) (fun w' hw => hw.2.1)).mono ?_
   ·refine (pZ (s := s) (m := m) (n := 2 + s) (cM hr (by omega)) (h.below hb) (aC h3 hb) (aC h4 hb) (aC h5 hb)).mono ?_;rintro e w2 ⟨rfl, j2, k2⟩;rw [afG h9] at j2;exact ⟨_, rfl, h9, j2, (h.kept hb).trans k2⟩
   ·rintro e w2 (⟨E, e9, _, e9', _⟩ | ⟨w3, ⟨_, j3, kk⟩, rfl, q3⟩)
    ·exact absurd e9' e9
    ·exact ⟨rfl, HuQ.sv (q3.from kk) c4⟩
  ·obtain ⟨c1, c3, c4⟩ := abK (h := ⟨M, x.id, x.us, x.R⟩) (b := y) hE h9;rw [c1, c3];refine (vo (w0 := w0) (H := H) (K := K) (M := M) (sv := wrF b3 b4 b5) (fun E w' => E = eG M m (2 + s) /\ HJ w0 H K w' p q (dW M m (2 + s) y) x /\ cj K w w') hf hid hr he hE h.hul (fun w1 hb => ?_) (fun w' hw => absurd hw.1.symm h9)).mono ?_
   ·refine (pZ (s := s) (m := m) (n := 2 + s) (cM hr (by omega)) (h.below hb) (aC h3 hb) (aC h4 hb) (aC h5 hb)).mono ?_;rintro e w2 ⟨rfl, j2, k2⟩;exact ⟨_, rfl, rfl, j2, (h.kept hb).trans k2⟩
   ·rintro e w2 (⟨E, e9, rfl, rfl, j2, kk⟩ | ⟨w3, ⟨e9, _⟩, _⟩)
    ·exact ⟨rfl, HuQ.of j2 kk hs hf c4⟩
    ·exact absurd e9.symm h9
theorem acO (s m : Int) (y : Blk) (hf : aW x.R = true) (hid : x.id ≠ 0 /\ x.id < 18446744073709551616) (hr : Room M 600) (he : x.us <= 4611686018427387000) (hs : x.ev = x.us) (h : HJ w0 H K w p q M x) : Calls prog 36 #[.pointer (some ⟨p, 0, none⟩), .agg #[.int .i64 s, .int .i64 m], blk y] w fun e w' =>
  e = .returned (.int .i64 (jZ ⟨M, x.id, x.us, x.R⟩ s m y)) /\ HuQ w0 H K w p q x (fU ⟨M, x.id, x.us, x.R⟩ s m y) (wL ⟨M, x.id, x.us, x.R⟩ s m) w' := by
 have HRC := ae (fun (w3 : World) (b3 b4 b5 : Nat) => qF (p := p) (q := q) (w0 := w0) (H := H) (K := K) (w := w3) (b3 := b3) (b4 := b4) (b5 := b5) (s := s) (m := m) (y := y) hf hid hr he hs);have HMP := ae (afR (h := ⟨M, x.id, x.us, x.R⟩) (s := s) (m := m) (b := y));have HJ := ae h;obtain ⟨z0, hz0⟩ : ∃ z0 : HuS, (⟨M, x.id, x.us, x.R⟩ : HuS) = z0 := ⟨_, rfl⟩;rw [hz0] at HRC HMP ⊢;obtain ⟨ce, hce⟩ : ∃ ce, pQ z0 s m = ce := ⟨_, rfl⟩;rw [hce] at HMP;have HCE := ae hce;clear hf hid hr he hs h hz0 hce;go_enter func36, ntmps36;go_upto_region 0 with fail;refine af ?_;refine akj (eW (v := .pointer (some ⟨p, 0, none⟩)) rfl rfl akt) ?_;have hb0 := (Below.refl w.heap.size w).alloc aj (.cells #[.pointer (some ⟨p, 0, none⟩)] 24);have HP1 := ae (heap_alloc_new w (.cells #[.pointer (some ⟨p, 0, none⟩)] 24));have HB1 := ae hb0;obtain ⟨b3, hb3⟩ : ∃ b3, w.heap.size = b3 := ⟨_, rfl⟩;have HGb3 : Hid (w.heap.size <= b3) := ae (by rw [<- hb3]; exact aj);have HLb3 : Hid (b3 < (w.alloc (.cells #[.pointer (some ⟨p, 0, none⟩)] 24)).heap.size) := ae (by rw [World.size_alloc]; omega);rw [hb3] at HP1 ⊢;clear hb3 hb0;generalize w.alloc (.cells #[.pointer (some ⟨p, 0, none⟩)] 24) = w1 at *;refine akj (cO (cs := ([.int .i64 s, .int .i64 m] : List Value)) rfl akt) ?_;have hb0 := (Below.refl w1.heap.size w1).alloc aj (.cells ([.int .i64 s, .int .i64 m] : List Value).toArray 42);have HL2 := ae (heap_alloc_new w1 (.cells ([.int .i64 s, .int .i64 m] : List Value).toArray 42));have HP2 := ae (aC HP1 hb0);have HB2 := ae (HB1.out.trans (hb0.mono HB1.out.size));obtain ⟨b4, hb4⟩ : ∃ b4, w1.heap.size = b4 := ⟨_, rfl⟩;have HGb4 : Hid (w.heap.size <= b4) := ae (by rw [<- hb4]; exact HB1.out.size);have HLb4 : Hid (b4 < (w1.alloc (.cells ([.int .i64 s, .int .i64 m] : List Value).toArray 42)).heap.size) := ae (by rw [World.size_alloc]; omega);rw [hb4] at HL2 ⊢;clear hb4 hb0;generalize w1.alloc (.cells ([.int .i64 s, .int .i64 m] : List Value).toArray 42) = w2 at *;refine akj (cY (c := y) rfl akt) ?_;have hb0 := (Below.refl w2.heap.size w2).alloc aj (.cells (cel y).toArray 44);have HX3 := ae (heap_alloc_new w2 (.cells (cel y).toArray 44));have HP3 := ae (aC HP2 hb0);have HL3 := ae (aC HL2 hb0);have HB3 := ae (HB2.out.trans (hb0.mono HB2.out.size));obtain ⟨b5, hb5⟩ : ∃ b5, w2.heap.size = b5 := ⟨_, rfl⟩;have HGb5 : Hid (w.heap.size <= b5) := ae (by rw [<- hb5]; exact HB2.out.size);have HLb5 : Hid (b5 < (w2.alloc (.cells (cel y).toArray 44)).heap.size) := ae (by rw [World.size_alloc]; omega);rw [hb5] at HX3 ⊢;clear hb5 hb0;generalize w2.alloc (.cells (cel y).toArray 44) = w3 at *;refine aF 1 ?_;go_upto_region 1 with fail;refine af ?_;refine akj (aD rfl akt (lz (cell_of_row _ b3 0 _ _ _ HP3))) ?_;refine akj (cv (cs := ([.int .i64 s, .int .i64 m] : List Value)) underlying42 rfl (by kernel_rfl) rfl akt (aQ HL3)) ?_;refine akj (mF rfl akt akt akt) ?_;refine ay rfl (aB call74 rfl (evc akt (evc akt (evc akt evn)))) ?_;refine (HRC.out w3 b3 b4 b5 (HJ.out.below HB3) HP3 HL3 HX3).mono ?_;rintro e w4 ⟨rfl, q4⟩;rw [HCE.out];have HQ4 := ae (q4.from (HJ.out.kept HB3));clear q4;refine aR ?_;refine aF 1 ?_;by_cases h7 : ce = 7
 ·subst h7;have HWE : Hid (jZ z0 s m y = 0) := ae (by rw [<- HMP.out, if_pos rfl]);go_upto_region 2 with fail;refine aI 1 ?_;refine akj (aH true rfl akt evk rfl) ?_;refine ah ?_;go_upto_region 3 with fail;refine cf 1 ?_;go_wp2_with fail;go_ret;exact ⟨by rw [HWE.out]; rfl, HQ4⟩
 have H7 : Hid ((ce == 7) = false) := ae (av h7);have HWE : Hid (jZ z0 s m y = ce) := ae (by rw [<- HMP.out, if_neg h7]);clear h7;go_upto_region 2 with fail;refine aI 1 ?_;refine akj (aH false rfl akt evk H7) ?_;refine ah ?_;go_upto_region 4 with fail;refine cf 2 ?_;go_wp2_with fail;go_ret;exact ⟨by rw [HWE.out]; rfl, HQ4⟩
theorem z8 (s m : Int) (y : Blk) (h : NoH w v) : Calls prog 36 #[v, .agg #[.int .i64 s, .int .i64 m], blk y] w fun e w' => e = .returned (.int .i64 1) /\ Below w.heap.size w w' := by
 obtain ⟨z0, hz0⟩ : ∃ z0, z0 = w.heap.size := ⟨_, rfl⟩;rw [<- hz0];have HZ0 := ae hz0;have HN := ae h;clear hz0 h;go_enter func36, ntmps36;go_upto_region 0 with fail;refine af ?_;refine akj (eW (v := v) HN.out.cells rfl akt) ?_;have hb0 := (Below.refl w.heap.size w).alloc aj (.cells #[v] 24);have HP1 := ae (heap_alloc_new w (.cells #[v] 24));have HB1 := ae hb0;obtain ⟨b3, hb3⟩ : ∃ b3, w.heap.size = b3 := ⟨_, rfl⟩;have HGb3 : Hid (w.heap.size <= b3) := ae (by rw [<- hb3]; exact aj);have HLb3 : Hid (b3 < (w.alloc (.cells #[v] 24)).heap.size) := ae (by rw [World.size_alloc]; omega);rw [hb3] at HP1 ⊢;clear hb3 hb0;generalize w.alloc (.cells #[v] 24) = w1 at *;refine akj (cO (cs := ([.int .i64 s, .int .i64 m] : List Value)) rfl akt) ?_;have hb0 := (Below.refl w1.heap.size w1).alloc aj (.cells ([.int .i64 s, .int .i64 m] : List Value).toArray 42);have HL2 := ae (heap_alloc_new w1 (.cells ([.int .i64 s, .int .i64 m] : List Value).toArray 42));have HP2 := ae (aC HP1 hb0);have HB2 := ae (HB1.out.trans (hb0.mono HB1.out.size));obtain ⟨b4, hb4⟩ : ∃ b4, w1.heap.size = b4 := ⟨_, rfl⟩;have HGb4 : Hid (w.heap.size <= b4) := ae (by rw [<- hb4]; exact HB1.out.size);have HLb4 : Hid (b4 < (w1.alloc (.cells ([.int .i64 s, .int .i64 m] : List Value).toArray 42)).heap.size) := ae (by rw [World.size_alloc]; omega);rw [hb4] at HL2 ⊢;clear hb4 hb0;generalize w1.alloc (.cells ([.int .i64 s, .int .i64 m] : List Value).toArray 42) = w2 at *;refine akj (cY (c := y) rfl akt) ?_;have hb0 := (Below.refl w2.heap.size w2).alloc aj (.cells (cel y).toArray 44);have HX3 := ae (heap_alloc_new w2 (.cells (cel y).toArray 44));have HP3 := ae (aC HP2 hb0);have HL3 := ae (aC HL2 hb0);have HB3 := ae (HB2.out.trans (hb0.mono HB2.out.size));obtain ⟨b5, hb5⟩ : ∃ b5, w2.heap.size = b5 := ⟨_, rfl⟩;have HGb5 : Hid (w.heap.size <= b5) := ae (by rw [<- hb5]; exact HB2.out.size);have HLb5 : Hid (b5 < (w2.alloc (.cells (cel y).toArray 44)).heap.size) := ae (by rw [World.size_alloc]; omega);rw [hb5] at HX3 ⊢;clear hb5 hb0;generalize w2.alloc (.cells (cel y).toArray 44) = w3 at *;refine aF 1 ?_;go_upto_region 1 with fail;refine af ?_;refine akj (aD rfl akt (ai2 HN (cell_of_row _ b3 0 _ _ _ HP3))) ?_;refine akj (cv (cs := ([.int .i64 s, .int .i64 m] : List Value)) underlying42 rfl (by kernel_rfl) rfl akt (aQ HL3)) ?_;refine akj (mF rfl akt akt akt) ?_;refine ay rfl (aB call74 rfl (evc akt (evc akt (evc akt evn)))) ?_;refine (abD (sv := wrF b3 b4 b5) (HN.out.below HB3)).mono ?_;rintro e w4 ⟨rfl, b4'⟩;have HB4 := ae (HB3.out.trans (b4'.mono HB3.out.size));clear b4';refine aR ?_;refine aF 1 ?_;go_upto_region 2 with fail;refine aI 1 ?_;refine akj (aH false rfl akt evk rfl) ?_;refine ah ?_;go_upto_region 4 with fail;refine cf 2 ?_;go_wp2_with fail;go_ret;exact ⟨rfl, by rw [HZ0.out]; exact HB4⟩
end
section
variable {w0 ws w w' : World} {H K K' : Nat -> Prop} {p q b1 b2 : Nat} {x : HpS} {R : Ros} {M : aV} {v : Value}
theorem qd {m : Int} (hr : Room M 1) (h : HJ w0 H K w p q M x) (h1 : w.heap[b1]? = some (.cells #[.pointer (some ⟨p, 0, none⟩)] 24 (0, 0))) (h2 : w.heap[b2]? = some (.cells #[.int .i64 m] 3 (0, 0))) : Calls prog 71 #[.pointer (some ⟨b1, 0, none⟩), .pointer (some ⟨b2, 0, none⟩)] w fun e w' =>
  e = .returned (.int .i64 (eI M m)) /\ HJ w0 H K w' p q (fL M m) x /\ cj K w w' := by
 have HJ := ae h.drew;have HRM := ae hr;have HD : Hid (Below w.heap.size w (World.drew w)) := ae (bd ak);have HKD := ae (h.kept HD);have H1 := ae (aC h1 HD);have H2 := ae (aC h2 HD);clear hr h h1 h2;go_enter func71, ntmps71;go_upto_region 1 with fail;refine wp_region_still_tail 5 (by kernel_rfl) (by kernel_rfl) ?_;simp only [ac];refine aP rfl (aD rfl akt (lz ((aQ H1) 0 _ rfl))) ?_;simp only [aa];refine aP rfl (bq rfl akt) ?_;simp only [aa];refine aP rfl (ax rfl akt oZ) ?_;simp only [aa];refine aP rfl (aD rfl akt (vD (PHo.c0 HJ.out.hul))) ?_;simp only [aa];refine aP rfl (aD rfl akt (cd ((aQ H2) 0 _ rfl))) ?_;simp only [aa];refine wpStill_nil ?_;change wpList _ _ _ _ _ (World.drew _);refine ay rfl (aB call72 rfl (evc akt (evc akt evn))) ?_;refine (HJ.out.flush m HRM).mono ?_;rintro e w2 ⟨rfl, j2, k2⟩;refine aR ?_;refine aF 1 ?_;go_wp2_with fail;go_ret;exact ⟨rfl, j2, HKD.out.trans k2⟩
def ah4 (b1 b2 : Nat) : Fu := ⟨71, [.pointer (some ⟨b1, 0, none⟩), .pointer (some ⟨b2, 0, none⟩)], call71⟩
def aiE (b1 : Nat) : Fu := ⟨69, [.pointer (some ⟨b1, 0, none⟩)], call69⟩
theorem aeA {d : Int} (h9 : eI M d = 9) : fL M d = M := by
 unfold fL;unfold eI at h9;by_cases e : iT M d = 0
 ·rw [if_pos e] at h9;unfold aV.fo at h9
  split at h9 <;> omega
 ·rw [if_neg e]
theorem qq {m : Nat} (hf : aW x.R = true) (hid : x.id ≠ 0 /\ x.id < 18446744073709551616) (hr : Room M 600) (he : x.us <= 4611686018427387000) (hs : x.ev = x.us) (hk : afo ⟨M, x.id, x.us, x.R⟩ m) (h : HJ w0 H K w p q M x) (h1 : w.heap[b1]? = some (.cells #[.pointer (some ⟨p, 0, none⟩)] 24 (0, 0))) (h2 : w.heap[b2]? = some (.cells #[.int .i64 (m : Int)] 3 (0, 0))) : Calls prog 70 #[.pointer (some ⟨p, 0, none⟩), .int .i64 (m : Int), (ah4 b1 b2).val] w fun e w' =>
  e = .returned (.int .i64 (if eI M m = 9 then nG ⟨M, x.id, x.us, x.R⟩ m 7 else eI M m)) /\ HuQ w0 H K w p q x (iw ⟨M, x.id, x.us, x.R⟩ m) True w' := by
 by_cases h9 : eI M m = 9
 ·refine (rM (w0 := w0) (H := H) (K := K) (M := M) (q := q) m (ah4 b1 b2) (fun E w' => E = 9 /\ HJ w0 H K w' p q M x /\ cj K w w') hf hid hr he ?_ (fun w' hw => hw.2.1)).mono ?_
  ·refine (qd (m := (m : Int)) (cM hr (by omega)) h h1 h2).mono ?_;rintro e w2 ⟨rfl, j2, k2⟩;rw [aeA h9] at j2;exact ⟨_, rfl, h9, j2, k2⟩
  ·rintro e w2 (⟨E, e9, _, e9', _⟩ | ⟨w3, ⟨_, j3, kk⟩, rfl, q3⟩)
   ·exact absurd e9' e9
   ·rw [if_pos h9];unfold iw;rw [if_pos h9];exact ⟨rfl, HuQ.sv (q3.from kk) ⟨fun _ => hk h9, fun _ => trivial⟩⟩
 ·refine (rM (w0 := w0) (H := H) (K := K) (M := M) (q := q) m (ah4 b1 b2) (fun E w' => E = eI M m /\ HJ w0 H K w' p q (fL M m) x /\ cj K w w') hf hid hr he ?_ (fun w' hw => absurd hw.1.symm h9)).mono ?_
  ·refine (qd (m := (m : Int)) (cM hr (by omega)) h h1 h2).mono ?_;rintro e w2 ⟨rfl, j2, k2⟩;exact ⟨_, rfl, rfl, j2, k2⟩
  ·rintro e w2 (⟨E, e9, rfl, rfl, j2, kk⟩ | ⟨w3, ⟨e9, _⟩, _⟩)
   ·rw [if_neg h9];unfold iw;rw [if_neg h9];exact ⟨rfl, HuQ.of j2 kk hs hf trivial⟩
   ·exact absurd e9.symm h9
theorem wN {m : Nat} (hf : aW x.R = true) (hid : x.id ≠ 0 /\ x.id < 18446744073709551616) (hr : Room M 600) (he : x.us <= 4611686018427387000) (hs : x.ev = x.us) (hk : afo ⟨M, x.id, x.us, x.R⟩ m) (h : HJ w0 H K w p q M x) (h1 : w.heap[b1]? = some (.cells #[.pointer (some ⟨p, 0, none⟩)] 24 (0, 0))) : Calls prog 69 #[.int .i64 (m : Int), .pointer (some ⟨b1, 0, none⟩)] w fun e w' =>
  e = .returned (.int .i64 (mZ ⟨M, x.id, x.us, x.R⟩ m)) /\ HuQ w0 H K w p q x (iw ⟨M, x.id, x.us, x.R⟩ m) True w' := by
 have HRC := ae (fun (w3 : World) (b2 : Nat) => qq (p := p) (q := q) (w0 := w0) (H := H) (K := K) (w := w3) (b1 := b1) (b2 := b2) (m := m) hf hid hr he hs hk);have HJ := ae h;have H1 := ae h1;obtain ⟨z0, hz0⟩ : ∃ z0 : HuS, (⟨M, x.id, x.us, x.R⟩ : HuS) = z0 := ⟨_, rfl⟩;have hM : M = z0.M := by rw [<- hz0]
 rw [hz0] at HRC ⊢;obtain ⟨ce, hce⟩ : ∃ ce, (if eI M m = 9 then nG z0 m 7 else eI M m) = ce := ⟨_, rfl⟩;have hE : mZ z0 m = if ce = 8 then 8 else 0 := by
  rw [<- hce];unfold mZ;rw [<- hM];by_cases e : eI M m = 9
  ·rw [if_pos e, if_pos e]
  ·rw [if_neg e, if_neg e]
 rw [hce] at HRC;have HFE := ae hE;clear hf hid hr he hs hk h h1 hz0 hM hce hE;go_enter func69, ntmps69;go_upto_region 0 with fail;refine af ?_;refine akj (eW (v := .int .i64 (m : Int)) rfl rfl akt) ?_;have hb0 := (Below.refl w.heap.size w).alloc aj (.cells #[.int .i64 (m : Int)] 3);have HI2 := ae (heap_alloc_new w (.cells #[.int .i64 (m : Int)] 3));have HP2 := ae (aC H1 hb0);have HB2 := ae hb0;obtain ⟨b2, hb2⟩ : ∃ b2, w.heap.size = b2 := ⟨_, rfl⟩;rw [hb2] at HI2 ⊢;clear hb2 hb0;generalize w.alloc (.cells #[.int .i64 (m : Int)] 3) = w1 at *;refine aF 1 ?_;go_upto_region 1 with fail;refine af ?_;refine akj (aD rfl akt (lz ((aQ HP2) 0 _ rfl))) ?_;refine akj (aD rfl akt (cd ((aQ HI2) 0 _ rfl))) ?_;refine akj (q6 rfl akt akt) ?_;refine ay rfl (aB call70 rfl (evc akt (evc akt (evc akt evn)))) ?_;refine (HRC.out w1 b2 (HJ.out.below HB2) HP2 HI2).mono ?_;rintro e w4 ⟨rfl, q4⟩;have HQ4 := ae (q4.from (HJ.out.kept HB2));clear q4;refine aR ?_;refine aF 1 ?_;by_cases h8 : ce = 8
 ·subst h8;have HFT : Hid (mZ z0 m = 8) := ae (by rw [HFE.out, if_pos rfl]);clear HFE;go_upto_region 2 with fail;refine aI 1 ?_;refine akj (aH true rfl akt evk rfl) ?_;refine ah ?_;go_upto_region 3 with fail;refine cf 2 ?_;go_wp2_with fail;go_ret;exact ⟨by rw [HFT.out]; rfl, HQ4⟩
 have H8 : Hid ((ce == 8) = false) := ae (av h8);have HFN : Hid (mZ z0 m = 0) := ae (by rw [HFE.out, if_neg h8]);clear h8;go_upto_region 2 with fail;refine aI 1 ?_;refine akj (aH false rfl akt evk H8) ?_;refine ah ?_;go_upto_region 4 with fail;refine cf 1 ?_;go_wp2_with fail;go_ret;exact ⟨by rw [HFN.out]; rfl, HQ4⟩
def FlQ (w0 : World) (H K : Nat -> Prop) (w : World) (p q id : Nat) (h' : HuS) (w' : World) : Prop :=
 cj K w w' /\ HJ w0 H K w' p q h'.M ⟨id, h'.ev, h'.ev, h'.R⟩ /\ aW h'.R = true /\ h'.id = id
theorem aep {h : HuS} {m : Nat} (hf : aW h.R = true) (hr : HRm h) : fq h.R (iw h m).R := by
 unfold iw
 split
 ·have hk := fq.los hf (m : Int);exact hk.trans (sM (k := 56) 17 (kE h m) hk.fine (cM hr.1 (by omega))).2.1
 ·exact fq.refl hf
theorem qC {h0 : HuS} (hid : h0.id ≠ 0 /\ h0.id < 18446744073709551616) (hf : aW h0.R = true) (hp : qh h0.R.m.toNat 0 h0) (h : HJ w0 H K w p q h0.M ⟨h0.id, h0.ev, h0.ev, h0.R⟩) (k1 : K b1) (h1 : w.heap[b1]? = some (.cells #[.pointer (some ⟨p, 0, none⟩)] 24 (0, 0))) :
  Calls prog 68 #[.pointer (some ⟨p, 3, none⟩), (aiE b1).val] w fun e w' => ∃ E : Int, e = .returned (.int .i64 E) /\ (E = (kW h0).1 /\ FlQ w0 H K w p q h0.id (kW h0).2 w') := by
 have hm := lD hf;have hm0 : 0 <= h0.R.m := by have hf' := hf; unfold aW at hf'; simp only [Bool.and_eq_true] at hf'; have := ew hf'.1.1.1; omega
 obtain ⟨N, hN⟩ : ∃ N : Nat, h0.R.m = (N : Int) := ⟨h0.R.m.toNat, by omega⟩;have hN' : h0.R.m.toNat = N := by rw [hN]; rfl
 obtain ⟨O, hO⟩ : ∃ O, kW h0 = O := ⟨_, rfl⟩;rw [hO];unfold kW at hO;rw [hN'] at hO hm hp;refine yv (N := N) (aiE b1) (fun m R' w' => ∃ h' : HuS, R' = h'.R /\ m <= N /\ FlQ w0 H K w p q h0.id h' w' /\ mt (N - m) m h' = O /\ qh (N - m) m h' /\ h'.R.m = (N : Int)) (fun E w' => E = O.1 /\ FlQ w0 H K w p q h0.id O.2 w') hm ?_ ?_ ?_ ?_ (R := h0.R) ⟨h0, rfl, Nat.zero_le _, ⟨cj.refl _ _, h, hf, rfl⟩, hO, hp, hN⟩
 ·rintro m R' w' ⟨h', rfl, _, l, _, _, e⟩;exact ⟨PHo.ros l.2.1.hul, e⟩
 ·rintro m R' w' hlt hs ⟨h', rfl, _, l, ho, hpp, e⟩;obtain ⟨k0, hk0⟩ : ∃ k0, N - m = k0 + 1 := ⟨N - m - 1, by omega⟩;rw [hk0, mt, if_pos hs] at ho;rw [hk0, qh] at hpp;refine ⟨h', rfl, hlt, l, ?_, ?_, e⟩
  ·rw [show N - (m + 1) = k0 by omega]; exact ho
  ·rw [show N - (m + 1) = k0 by omega]; exact hpp.1 hs
 ·rintro m R' w' hlt hs ⟨h', rfl, _, ⟨l1, l2, l3, l4⟩, ho, hpp, e⟩;obtain ⟨k0, hk0⟩ : ∃ k0, N - m = k0 + 1 := ⟨N - m - 1, by omega⟩;rw [hk0, mt, if_neg hs] at ho;rw [hk0, qh] at hpp;obtain ⟨g1, g2, g3⟩ := hpp.2 hs;have hK := (aep (m := m) l3 g1).m;obtain ⟨M', id', ev', R'⟩ := h';simp only at l2 l3 l4 e hs;subst l4;refine (wN (x := ⟨h0.id, ev', ev', R'⟩) (M := M') (m := m) l3 hid g1.1 g1.2 rfl g2 l2 ((l1 b1 k1).trans h1)).mono ?_;rintro e2 w2 ⟨rfl, q1, q2, _⟩;obtain ⟨j1, j2, j3, _⟩ := q2 trivial;refine ⟨_, rfl, ?_⟩;by_cases h0' : mZ ⟨M', h0.id, ev', R'⟩ m = 0
  ·rw [if_pos h0'] at ho;refine .inl ⟨h0', (iw ⟨M', h0.id, ev', R'⟩ m).R, iw ⟨M', h0.id, ev', R'⟩ m, rfl, hlt, ⟨l1.trans q1, j1, j2, j3⟩, ?_, ?_, hK.trans e⟩
   ·rw [show N - (m + 1) = k0 by omega]; exact ho
   ·rw [show N - (m + 1) = k0 by omega]; exact g3 h0'
  ·rw [if_neg h0'] at ho;refine .inr ⟨h0', ?_⟩;rw [<- ho];exact ⟨rfl, l1.trans q1, j1, j2, j3⟩
 ·rintro R' w' ⟨h', rfl, _, l, ho, _, _⟩;rw [Nat.sub_self, mt] at ho;rw [<- ho];exact ⟨rfl, l⟩
theorem FlQ.less {id : Nat} {h' : HuS} (h : FlQ w0 H K w p q id h' w') (hk : ∀ b, K' b -> K b) : FlQ w0 H K' w p q id h' w' := ⟨h.1.less hk, h.2.1.less hk, h.2.2⟩
theorem FlQ.below {id : Nat} {h' : HuS} {w2 : World} (h : FlQ w0 H K w p q id h' w') (hb : Below w'.heap.size w' w2) : FlQ w0 H K w p q id h' w2 := ⟨h.1.trans (h.2.1.kept hb), h.2.1.below hb, h.2.2⟩
theorem FlQ.from {id : Nat} {h' : HuS} (h : FlQ w0 H K w p q id h' w') (hk : cj K ws w) : FlQ w0 H K ws p q id h' w' := ⟨hk.trans h.1, h.2⟩
theorem abG {h0 : HuS} (hid : h0.id ≠ 0 /\ h0.id < 18446744073709551616) (hf : aW h0.R = true) (hp : eH h0.R = false -> qh h0.R.m.toNat 0 h0) (h : HJ w0 H K w p q h0.M ⟨h0.id, h0.ev, h0.ev, h0.R⟩) : Calls prog 34 #[.pointer (some ⟨p, 0, none⟩)] w fun e w' =>
  e = .returned (.int .i64 (oY h0)) /\ FlQ w0 H K w p q h0.id (iX h0) w' := by
 have HEA := ae (fun (w3 : World) (b1 : Nat) (g : eH h0.R = false) => qC (p := p) (q := q) (w0 := w0) (H := H) (K := fun b => K b \/ b = b1) (w := w3) (b1 := b1) hid hf (hp g));have HJ := ae h;have HF := ae hf;clear hid hp h hf;go_enter func34, ntmps34;go_upto_region 0 with fail;refine af ?_;refine akj (eW (v := .pointer (some ⟨p, 0, none⟩)) rfl rfl akt) ?_;have hb0 := (Below.refl w.heap.size w).alloc aj (.cells #[.pointer (some ⟨p, 0, none⟩)] 24);have HP1 := ae (heap_alloc_new w (.cells #[.pointer (some ⟨p, 0, none⟩)] 24));have HB1 := ae hb0;obtain ⟨b1, hb1⟩ : ∃ b1, w.heap.size = b1 := ⟨_, rfl⟩;have HGb1 : Hid (w.heap.size <= b1) := ae (by rw [<- hb1]; exact aj);have HLb1 : Hid (b1 < (w.alloc (.cells #[.pointer (some ⟨p, 0, none⟩)] 24)).heap.size) := ae (by rw [World.size_alloc]; omega);rw [hb1] at HP1 ⊢;clear hb1 hb0;generalize w.alloc (.cells #[.pointer (some ⟨p, 0, none⟩)] 24) = w1 at *;refine aF 1 ?_;have HJ1 := ae (HJ.out.guard (K' := fun b => K b \/ b = b1) HB1 fun b e => by rcases e with e | e; exact .inl e; subst e; exact .inr ⟨HGb1, HLb1⟩);have HK1 := ae (HJ.out.kept HB1);clear HGb1 HLb1;go_upto_region 1 with fail;refine af ?_;refine akj (aD rfl akt (lz ((aQ HP1) 0 _ rfl))) ?_;refine ay rfl (aB call67 rfl (evc akt evn)) ?_;refine (fA HJ1.out.hul).mono ?_;rintro e w2 ⟨rfl, b2⟩;have HJ2 := ae (HJ1.out.below b2);have HK2 := ae (HK1.out.trans ((HJ1.out.kept b2).less fun b e => .inl e));have HP2 := ae (aC HP1 b2);clear b2;refine aR ?_;refine aF 1 ?_;by_cases hfa : eH h0.R = true
 ·simp only [if_pos hfa];have HE : Hid (oY h0 = 16 /\ iX h0 = h0) := ae ⟨if_pos hfa, if_pos hfa⟩;clear hfa;go_upto_region 2 with fail;refine aI 1 ?_;refine akj (aK true rfl akt evk rfl) ?_;refine ah ?_;go_upto_region 3 with fail;refine cf 2 ?_;go_wp2_with fail;go_ret;refine ⟨by rw [HE.out.1]; rfl, ?_⟩;rw [HE.out.2];exact ⟨HK2, HJ2.out.less fun b e => .inl e, HF, rfl⟩
 simp only [if_neg hfa];have HG : Hid (eH h0.R = false) := ae (by simpa using hfa);have HE : Hid (oY h0 = (if (kW h0).1 = 0 then (if eH (kW h0).2.R = true then 16 else 0) else (kW h0).1) /\ iX h0 = (kW h0).2) := ae ⟨if_neg hfa, if_neg hfa⟩;clear hfa;go_upto_region 2 with fail;refine aI 1 ?_;refine akj (aK false rfl akt evk rfl) ?_;refine ah ?_;go_upto_region 4 with fail;refine af ?_;refine akj (aD rfl akt (lz ((aQ HP2) 0 _ rfl))) ?_;refine runs 1 ?_;refine akj (ax rfl akt pW) ?_;refine akj (aaI rfl akt) ?_;refine ay rfl (aB call68 rfl (evc akt (evc akt evn))) ?_;refine (HEA.out w2 b1 HG HJ2 (.inr rfl) HP2).mono ?_;rintro e w3 ⟨E, rfl, hE, q3⟩;have HQ3 := ae q3;rw [<- hE] at HE;clear hE q3;refine aR ?_;refine aF 1 ?_;have HP3 := ae ((HQ3.out.1 b1 (.inr rfl)).trans HP2);by_cases h0' : E = 0
 ·obtain ⟨r, hr⟩ : ∃ r : Int, (if eH (kW h0).2.R = true then (16 : Int) else 0) = r := ⟨_, rfl⟩;have HE0 : Hid (oY h0 = r /\ iX h0 = (kW h0).2) := ae ⟨by rw [HE.out.1, if_pos h0', hr], HE.out.2⟩;have HRR := ae hr;subst h0';clear HE hr HEA;go_upto_region 5 with fail;refine aI 1 ?_;refine akj (aK false rfl akt evk rfl) ?_;refine ah ?_;go_upto_region 7 with fail;refine af ?_;refine akj (aD rfl akt (lz ((aQ HP3) 0 _ rfl))) ?_;refine ay rfl (aB call67 rfl (evc akt evn)) ?_;refine (fA HQ3.out.2.1.hul).mono ?_;rintro e w4 ⟨rfl, b4⟩;rw [HRR.out];have HQ4 := ae ((HQ3.out.below b4).less fun b e => .inl e);clear b4;refine aR ?_;refine aF 1 ?_;go_wp2_with fail;go_ret;refine ⟨by rw [HE0.out.1]; rfl, ?_⟩;rw [HE0.out.2];exact HQ4.out.from HK2
 have HNE : Hid ((E != 0) = true) := ae (bne_iff_ne.2 h0');have HN0 := ae h0';clear h0';go_upto_region 5 with fail;refine aI 1 ?_;refine akj (aK true rfl akt evk HNE) ?_;refine ah ?_;go_upto_region 6 with fail;refine cf 2 ?_;go_wp2_with fail;go_ret;refine ⟨by rw [HE.out.1, if_neg HN0.out]; rfl, ?_⟩;rw [HE.out.2];exact (HQ3.out.less fun b e => .inl e).from HK2.out
end
theorem agD : (prog.info? 60).map (fun i => i.zero) = some (some (.agg (phC none ⟨0, 0, 0, bK⟩).toArray)) := by kernel_rfl
section
variable {ρ : Operand -> Value} {o : Oper} {x1 x2 x3 x4 x5 : Operand} {w : World} {q : Nat} {y : HpS}
theorem aak (q : Nat) (y : HpS) : (Instr.build 60 #[(0, .pointer (some ⟨q, 0, none⟩)), (1, .int .u64 (y.id : Int)), (2, .int .u64 (y.ev : Int)), (3, ros y.R), (4, .int .u64 (y.us : Int))]).run prog w = .ok (.agg (phC (some ⟨q, 0, none⟩) y).toArray) w := by
 have hz := fZ agD w;have h0 := dk (place := fun i => (#[(0, 1), (1, 1), (2, 1), (3, 21), (24, 1)] : Array (Nat × Nat))[i]?) (i := 0) (off := 0) (size := 1) (v := .pointer (some ⟨q, 0, none⟩)) (pre := []) (mid := [.pointer none]) (post := .int .u64 0 :: .int .u64 0 :: (aZ bK ++ [.int .u64 0])) (vs := [.pointer (some ⟨q, 0, none⟩)]) (rest := [(1, .int .u64 (y.id : Int)), (2, .int .u64 (y.ev : Int)), (3, ros y.R), (4, .int .u64 (y.us : Int))]) rfl rfl rfl rfl rfl;have h1 := dk (place := fun i => (#[(0, 1), (1, 1), (2, 1), (3, 21), (24, 1)] : Array (Nat × Nat))[i]?) (i := 1) (off := 1) (size := 1) (v := .int .u64 (y.id : Int)) (pre := [.pointer (some ⟨q, 0, none⟩)]) (mid := [.int .u64 0]) (post := .int .u64 0 :: (aZ bK ++ [.int .u64 0])) (vs := [.int .u64 (y.id : Int)]) (rest := [(2, .int .u64 (y.ev : Int)), (3, ros y.R), (4, .int .u64 (y.us : Int))]) rfl rfl rfl rfl rfl;have h2 := dk (place := fun i => (#[(0, 1), (1, 1), (2, 1), (3, 21), (24, 1)] : Array (Nat × Nat))[i]?) (i := 2) (off := 2) (size := 1) (v := .int .u64 (y.ev : Int)) (pre := [.pointer (some ⟨q, 0, none⟩), .int .u64 (y.id : Int)]) (mid := [.int .u64 0]) (post := aZ bK ++ [.int .u64 0]) (vs := [.int .u64 (y.ev : Int)]) (rest := [(3, ros y.R), (4, .int .u64 (y.us : Int))]) rfl rfl rfl rfl rfl;have h3 := dk (place := fun i => (#[(0, 1), (1, 1), (2, 1), (3, 21), (24, 1)] : Array (Nat × Nat))[i]?) (i := 3) (off := 3) (size := 21) (v := ros y.R) (pre := [.pointer (some ⟨q, 0, none⟩), .int .u64 (y.id : Int), .int .u64 (y.ev : Int)]) (mid := aZ bK) (post := [.int .u64 0]) (vs := aZ y.R) (rest := [(4, .int .u64 (y.us : Int))]) rfl rfl (br y.R) rfl (br bK);have h4 := dk (place := fun i => (#[(0, 1), (1, 1), (2, 1), (3, 21), (24, 1)] : Array (Nat × Nat))[i]?) (i := 4) (off := 24) (size := 1) (v := .int .u64 (y.us : Int)) (pre := .pointer (some ⟨q, 0, none⟩) :: .int .u64 (y.id : Int) :: .int .u64 (y.ev : Int) :: aZ y.R) (mid := [.int .u64 0]) (post := []) (vs := [.int .u64 (y.us : Int)]) (rest := []) rfl rfl rfl (show (Value.pointer (some ⟨q, 0, none⟩) :: Value.int .u64 (y.id : Int) :: Value.int .u64 (y.ev : Int) :: aZ y.R).length = 24 by rw [List.length_cons, List.length_cons, List.length_cons, br]) rfl;simp only [List.nil_append, List.append_nil, List.cons_append] at h0 h1 h2 h3 h4;have h6 := h0.trans (h1.trans (h2.trans (h3.trans h4)));have hz' : (zeroValue 60).run prog w = .ok (.agg (.pointer none :: .int .u64 0 :: .int .u64 0 :: (aZ bK ++ [.int .u64 0])).toArray) w := hz;have hc : (Value.agg (.pointer none :: .int .u64 0 :: .int .u64 0 :: (aZ bK ++ [.int .u64 0])).toArray).cells = (.pointer none :: .int .u64 0 :: .int .u64 0 :: (aZ bK ++ [.int .u64 0])).toArray := rfl;simp only [Instr.build, Sem.run_bind, hz', run_underlying underlying60, Result.andThen_ok, hc];refine Eq.trans (congrArg (fun r => Result.andThen r _) (?h : _ = Result.ok #[(0, 1), (1, 1), (2, 1), (3, 21), (24, 1)] w)) ?_
 case h => kernel_rfl
 simp only [Result.andThen_ok];have h5 : Instr.fill (fun i => (#[(0, 1), (1, 1), (2, 1), (3, 21), (24, 1)] : Array (Nat × Nat))[i]?) (phC (some ⟨q, 0, none⟩) y).toArray [] = some (phC (some ⟨q, 0, none⟩) y).toArray := by rw [Instr.fill]
 rw [h6.trans h5]
 rfl
theorem vA (ho : o.op = .build 60 #[(0, x1), (1, x2), (2, x3), (3, x4), (4, x5)]) (h1 : ρ x1 = .pointer (some ⟨q, 0, none⟩)) (h2 : ρ x2 = .int .u64 (y.id : Int)) (h3 : ρ x3 = .int .u64 (y.ev : Int)) (h4 : ρ x4 = ros y.R) (h5 : ρ x5 = .int .u64 (y.us : Int)) : (execOp ρ o).run prog w = .ok (.value (.agg (phC (some ⟨q, 0, none⟩) y).toArray)) w := by
 unfold execOp;simp only [ho, h1, h2, h3, h4, h5, List.map_toArray, List.map_cons, List.map_nil, Sem.run_bind, aak, Result.andThen_ok, Sem.run_pure]
end
section
variable {w : World} {F : Nat -> Prop} {q : Nat} {M : aV}
def oS (M : aV) (x : Ros) : Bool := decide ((M.ds.length : Int) = x.m + 1) && lS M x x.m.toNat
theorem yj (x : Ros) (hg : dH x = true) (hb : bw.Bn w F q M) : Calls prog 43 #[.pointer (some ⟨q, 0, none⟩), geo x] w fun e w' => e = .returned (.bool (oS M x)) /\ Below w.heap.size w w' := by
 obtain ⟨z0, hz0⟩ : ∃ z0, z0 = w.heap.size := ⟨_, rfl⟩;rw [<- hz0];have HZ0 := ae hz0;obtain ⟨g1, g2, g3, g4, _⟩ := gW.1 hg;obtain ⟨N, hN⟩ : ∃ N : Nat, x.m = (N : Int) := ⟨x.m.toNat, by omega⟩;have hN' : x.m.toNat = N := by rw [hN]; rfl
 obtain ⟨fb, hfb⟩ : ∃ fb, oS M x = fb := ⟨_, rfl⟩;rw [hfb];have HFB : Hid ((decide ((M.ds.length : Int) = x.m + 1) && lS M x N) = fb) := ae (by rw [<- hfb]; unfold oS; rw [hN']);have HN := ae hN;have HN16 : Hid (N <= 16) := ae (by omega);have HWA : Hid (IntKind.i64.wrap (x.m + 1) = x.m + 1) := ae (el ⟨by omega, by omega⟩);have HWS : Hid (IntKind.i64.wrap (x.s - 1) = x.s - 1) := ae (el ⟨by omega, by omega⟩);have hh : has 64 (x.s - 1) = true := gi.2 (by omega);have HSN : Hid (aaV (x.s - 1) = x.s + 1) := ae (by unfold aaV; rw [if_pos hh]; omega);have HSE : Hid (aas (x.s - 1) = 0) := ae (by unfold aas; rw [if_pos hh]);have hb0 := (Below.refl w.heap.size w).alloc aj (.cells (dZ x).toArray 51);have HG := ae (heap_alloc_new w (.cells (dZ x).toArray 51));have HB := ae hb0;have HBN := ae (bw.below hb hb0);clear hz0 g1 g2 g3 g4 hN hN' hfb hh hg hb hb0;go_enter func43, ntmps43;go_upto_region 0 with fail;refine af ?_;refine akj (mv (y := x) rfl akt) ?_;generalize w.alloc (.cells (dZ x).toArray 51) = w1 at *;refine aF 1 ?_;cases hd : decide ((M.ds.length : Int) = x.m + 1)
 ·have HNE : Hid (((M.ds.length : Int) != x.m + 1) = true) := ae (bne_iff_ne.2 (of_decide_eq_false hd));have HFF : Hid (fb = false) := ae (by rw [<- HFB.out, hd]; rfl);clear hd;go_upto_region 1 with fail;refine aS (B := w1.heap.size) (by kernel_rfl) ?_;refine cC 1 ?_;refine bQ rfl (fun _ => aB call41 rfl (evc akt evn)) (bz aj fun _ hw => bw.devices (bw.below HBN hw)) ?_;simp only [aa];refine akr (fun _ hw => ax rfl akt oP) ?_;refine akr (fun _ hw => aD rfl akt (cd ((aQ (aC HG hw)) 0 _ rfl))) ?_;refine akr (fun _ hw => bH rfl akt evk HWA) ?_;refine akr (fun _ hw => aK true rfl akt akt HNE) ?_;refine wpQuiet_nil ?_;intro w2 hw;have HB2 := ae (HB.out.trans (hw.mono HB.out.size));have HG2 := ae (aC HG hw);have HBN2 := ae (bw.below HBN hw);clear hw;go_upto_region 2 with fail;refine cf 1 ?_;go_wp2_with fail;go_ret;exact ⟨by rw [HFF.out]; rfl, by rw [HZ0.out]; exact HB2⟩
 have HNE : Hid (((M.ds.length : Int) != x.m + 1) = false) := ae (by rw [of_decide_eq_true hd]; simp);have HFF : Hid (lS M x N = fb) := ae (by rw [<- HFB.out, hd]; rfl);clear hd;go_upto_region 1 with fail;refine aS (B := w1.heap.size) (by kernel_rfl) ?_;refine cC 1 ?_;refine bQ rfl (fun _ => aB call41 rfl (evc akt evn)) (bz aj fun _ hw => bw.devices (bw.below HBN hw)) ?_;simp only [aa];refine akr (fun _ hw => ax rfl akt oP) ?_;refine akr (fun _ hw => aD rfl akt (cd ((aQ (aC HG hw)) 0 _ rfl))) ?_;refine akr (fun _ hw => bH rfl akt evk HWA) ?_;refine akr (fun _ hw => aK false rfl akt akt HNE) ?_;refine wpQuiet_nil ?_;intro w2 hw;have HB2 := ae (HB.out.trans (hw.mono HB.out.size));have HG2 := ae (aC HG hw);have HBN2 := ae (bw.below HBN hw);clear hw;go_upto_region 3 with fail;refine af ?_;refine akj (ax rfl akt acd) ?_;refine akj (aD rfl akt (cd ((aQ HG2) 1 _ rfl))) ?_;refine akj (ac7 rfl akt evk HWS) ?_;refine ay rfl (aB call80 rfl (evc akt evn)) ?_;refine (na (x.s - 1) w2).mono ?_;rintro e w3 ⟨rfl, b3⟩;rw [HSN.out, HSE.out];have HB3 := ae (HB2.out.trans (b3.mono HB2.out.size));have HG3 := ae (aC HG2 b3);have HBN3 := ae (bw.below HBN2 b3);clear b3;refine aR ?_;refine runs 3 ?_;refine aF 2 ?_;go_upto_region 4 with fail;refine af ?_;refine akj (ax rfl akt oP) ?_;refine akj (aD rfl akt (cd (k := (N : Int)) (by rw [<- HN.out]; exact (aQ HG3) 0 _ rfl))) ?_;refine aF 1 ?_;go_wp2_with fail
 go_loopw [23] (fun z wr => ∃ i : Nat, z = .int .i64 i /\ i <= N /\ Below w.heap.size w wr /\ bw.Bn wr F q M /\ lS M x i = true) (fun z _ => N - (intOf z).toNat)
 case atStart => exact ⟨0, by go_num, Nat.zero_le _, HB3, HBN3, rfl⟩
 case round =>
  obtain ⟨i, rfl, hi, hb, hn, hs⟩ := hrel;have HBr := ae hb;have HNr := ae hn;have HSr := ae hs;clear hb hn hs HB3 HG3 HBN3;by_cases hlt : i < N
  ·have HI := ae hlt;have HLT : Hid (decide ((i : Int) < (N : Int)) = true) := ae (ao (by omega));have HIA : Hid (IntKind.i64.wrap ((i : Int) + 1) = ((i + 1 : Nat) : Int)) := ae (by have := HN16.out; rw [el ⟨by omega, by omega⟩]; omega);clear hi hlt;go_upto_region 5 with fail;refine af ?_;refine akj (aY true rfl akt akt HLT) ?_;refine ah ?_;go_upto_region 6 with fail;refine cf 2 ?_;go_upto_region 7 with fail;refine aI 2 ?_;refine ay rfl (aB call81 rfl (evc akt (evc akt evn))) ?_;refine (bw.fR (i : Int) HNr).mono ?_;rintro e w5 ⟨rfl, b5⟩;have HB5 := ae (HBr.out.trans (b5.mono HBr.out.size));have HN5 := ae (bw.below HNr b5);clear b5;refine aR ?_;refine runs 1 ?_;by_cases hse : io M (i : Int) < 2 + x.s
   ·have HLE : Hid (decide (io M (i : Int) <= x.s + 1) = true) := ae (ao (by omega));have HF2 : Hid (fb = false) := ae (by rw [<- HFF.out]; exact sO hse HI);clear hse;refine akj (l8 true rfl akt akt HLE) ?_;refine ah ?_;go_upto_region 8 with fail;refine cf 1 ?_;go_wp2_with fail;go_ret;exact ⟨by rw [HF2.out]; rfl, by rw [HZ0.out]; exact HB5⟩
   have HLE : Hid (decide (io M (i : Int) <= x.s + 1) = false) := ae (am (by omega));have HS1 := ae (mw HSr hse);clear hse;refine akj (l8 false rfl akt akt HLE) ?_;refine ah ?_;go_upto_region 9 with fail;refine af ?_;refine akj (bH rfl akt evk HIA) ?_;refine aF 1 ?_;go_wp2_with fail;go_roundw
   case rel => exact ⟨i + 1, by go_num, HI, HB5, HN5, HS1⟩
   case measure => have := HI.out; simp [intOf]; omega
  have hin : i = N := by omega
  subst hin;have HLT : Hid (decide ((i : Int) < (i : Int)) = false) := ae (am (by omega));have HF2 : Hid (fb = true) := ae (by rw [<- HFF.out]; exact HSr);clear hi hlt;go_upto_region 5 with fail;refine af ?_;refine akj (aY false rfl akt akt HLT) ?_;refine ah ?_;go_upto_region 10 with fail;refine aI 1 ?_;refine akj (aH true rfl akt evk rfl) ?_;refine aF 1 ?_;go_wp2_with fail;go_ret;exact ⟨by rw [HF2.out]; rfl, by rw [HZ0.out]; exact HBr⟩
theorem kH (M : aV) (id en : Nat) (x : Ros) : gy M id en x = (!decide (id = 0) && (!decide (2305843009213693952 < en) && (aW x && oS M x))) := rfl
def rk (w : World) (q : Nat) (M : aV) (id en : Nat) (x : Ros) (e : Ending) (w' : World) : Prop :=
 Below w.heap.size w w' /\ ((gy M id en x = true /\ ∃ p, e = .returned (.tuple #[.pointer (some ⟨p, 0, none⟩), .int .i64 0]) /\ PHu w' p q ⟨id, en, en, x⟩ /\ w.heap.size <= p) \/ (gy M id en x = false /\ e = .returned (.tuple #[.pointer none, .int .i64 2])))
theorem aew (id en : Nat) (x : Ros) (hb : bw.Bn w F q M) (h0 : id = 0) : Calls prog 17 #[.pointer (some ⟨q, 0, none⟩), .int .u64 (id : Int), .int .u64 (en : Int), ros x] w (rk w q M id en x) := by
 have hb0 := (Below.refl w.heap.size w).alloc aj (.cells (aZ x).toArray 58);have HR1 := ae (bJ.new w x);have HB1 := ae hb0;have HBN := ae (bw.below hb hb0);have HD : Hid (((M.ds.length : Int) == 0) = false) := ae (by have := (bw.wf hb).one; exact av (by omega));have HI0 : Hid (((id : Int) == 0) = true) := ae (by rw [h0]; rfl);have HNO : Hid (gy M id en x = false) := ae (by rw [kH, ao h0]; rfl);clear h0;clear hb hb0;go_enter func17, ntmps17;go_upto_region 0 with fail;refine af ?_;refine akj (a6 rfl akt) ?_;generalize w.alloc (.cells (aZ x).toArray 58) = w1 at *;refine aF 2 ?_;go_upto_region 1 with fail;refine aI 1 ?_;refine ay rfl (aB call41 rfl (evc akt evn)) ?_;refine (bw.devices HBN).mono ?_;rintro e w2 ⟨rfl, b2⟩;have HB2 := ae (HB1.out.trans (b2.mono HB1.out.size));have HR2 : Hid (bJ w2 w.heap.size x) := ae (aC HR1 b2);have HBN2 := ae (bw.below HBN b2);clear b2;refine aR ?_;refine akj (aH false rfl akt evk HD) ?_;refine ah ?_;go_upto_region 3 with fail;refine aI 1 ?_;refine akj (aH true rfl akt evk HI0) ?_;refine a7 2 rfl (aM rfl akt) (by kernel_rfl) ?_;simp only [bL, ac, aa];refine runs 1 ?_;refine a7 3 rfl (aM rfl akt) (by kernel_rfl) ?_;simp only [bL, ac, aa];refine runs 1 ?_;refine a7 5 rfl (aM rfl akt) (by kernel_rfl) ?_;simp only [bL, ac, aa];refine aF 1 ?_;go_upto_region 4 with fail;refine cf 2 ?_;go_wp2_with fail;go_ret2;exact ⟨HB2, .inr ⟨HNO, rfl⟩⟩
theorem aff (id en : Nat) (x : Ros) (hb : bw.Bn w F q M) (h0 : id ≠ 0) (h1 : 2305843009213693952 < en) : Calls prog 17 #[.pointer (some ⟨q, 0, none⟩), .int .u64 (id : Int), .int .u64 (en : Int), ros x] w (rk w q M id en x) := by
 have hb0 := (Below.refl w.heap.size w).alloc aj (.cells (aZ x).toArray 58);have HR1 := ae (bJ.new w x);have HB1 := ae hb0;have HBN := ae (bw.below hb hb0);have HD : Hid (((M.ds.length : Int) == 0) = false) := ae (by have := (bw.wf hb).one; exact av (by omega));have HI0 : Hid (((id : Int) == 0) = false) := ae (av (by omega));have HE0 : Hid (decide ((2305843009213693952 : Int) < (en : Int)) = true) := ae (ao (by omega));have HNO : Hid (gy M id en x = false) := ae (by rw [kH, ao h1]; simp);clear h0 h1;clear hb hb0;go_enter func17, ntmps17;go_upto_region 0 with fail;refine af ?_;refine akj (a6 rfl akt) ?_;generalize w.alloc (.cells (aZ x).toArray 58) = w1 at *;refine aF 2 ?_;go_upto_region 1 with fail;refine aI 1 ?_;refine ay rfl (aB call41 rfl (evc akt evn)) ?_;refine (bw.devices HBN).mono ?_;rintro e w2 ⟨rfl, b2⟩;have HB2 := ae (HB1.out.trans (b2.mono HB1.out.size));have HR2 : Hid (bJ w2 w.heap.size x) := ae (aC HR1 b2);have HBN2 := ae (bw.below HBN b2);clear b2;refine aR ?_;refine akj (aH false rfl akt evk HD) ?_;refine ah ?_;go_upto_region 3 with fail;refine aI 1 ?_;refine akj (aH false rfl akt evk HI0) ?_;refine runs 2 ?_;refine akq (dA true rfl akt evk HE0) ?_;refine runs 1 ?_;refine a7 3 rfl (aM rfl akt) (by kernel_rfl) ?_;simp only [bL, ac, aa];refine runs 1 ?_;refine a7 5 rfl (aM rfl akt) (by kernel_rfl) ?_;simp only [bL, ac, aa];refine aF 1 ?_;go_upto_region 4 with fail;refine cf 2 ?_;go_wp2_with fail;go_ret2;exact ⟨HB2, .inr ⟨HNO, rfl⟩⟩
theorem aeo (id en : Nat) (x : Ros) (hb : bw.Bn w F q M) (h0 : id ≠ 0) (h1 : ¬ 2305843009213693952 < en) (h2 : aW x = false) : Calls prog 17 #[.pointer (some ⟨q, 0, none⟩), .int .u64 (id : Int), .int .u64 (en : Int), ros x] w (rk w q M id en x) := by
 have hb0 := (Below.refl w.heap.size w).alloc aj (.cells (aZ x).toArray 58);have HR1 := ae (bJ.new w x);have HB1 := ae hb0;have HBN := ae (bw.below hb hb0);have HD : Hid (((M.ds.length : Int) == 0) = false) := ae (by have := (bw.wf hb).one; exact av (by omega));have HI0 : Hid (((id : Int) == 0) = false) := ae (av (by omega));have HE0 : Hid (decide ((2305843009213693952 : Int) < (en : Int)) = false) := ae (am (by omega));have HM := ae h2;have HNO : Hid (gy M id en x = false) := ae (by rw [kH, h2]; simp);clear h0 h1 h2;clear hb hb0;go_enter func17, ntmps17;go_upto_region 0 with fail;refine af ?_;refine akj (a6 rfl akt) ?_;generalize w.alloc (.cells (aZ x).toArray 58) = w1 at *;refine aF 2 ?_;go_upto_region 1 with fail;refine aI 1 ?_;refine ay rfl (aB call41 rfl (evc akt evn)) ?_;refine (bw.devices HBN).mono ?_;rintro e w2 ⟨rfl, b2⟩;have HB2 := ae (HB1.out.trans (b2.mono HB1.out.size));have HR2 : Hid (bJ w2 w.heap.size x) := ae (aC HR1 b2);have HBN2 := ae (bw.below HBN b2);clear b2;refine aR ?_;refine akj (aH false rfl akt evk HD) ?_;refine ah ?_;go_upto_region 3 with fail;refine aI 1 ?_;refine akj (aH false rfl akt evk HI0) ?_;refine runs 2 ?_;refine akq (dA false rfl akt evk HE0) ?_;refine runs 2 ?_;refine akq (bi rfl akt HR2.out.range) ?_;refine ay ake (aB call42 rfl (evc akt evn)) ?_;refine (dO w2 HM).mono ?_;rintro e w3 ⟨rfl, b3⟩;have HB3 := ae (HB2.out.trans (b3.mono HB2.out.size));have HR3 : Hid (bJ w3 w.heap.size x) := ae (aC HR2 b3);have HBN3 := ae (bw.below HBN2 b3);clear b3;refine aR ?_;refine runs 2 ?_;refine a7 5 rfl (aM rfl akt) (by kernel_rfl) ?_;simp only [bL, ac, aa];refine aF 1 ?_;go_upto_region 4 with fail;refine cf 2 ?_;go_wp2_with fail;go_ret2;exact ⟨HB3, .inr ⟨HNO, rfl⟩⟩
theorem afV (id en : Nat) (x : Ros) (hb : bw.Bn w F q M) (h0 : id ≠ 0) (h1 : ¬ 2305843009213693952 < en) (h2 : aW x = true) (h3 : oS M x = false) : Calls prog 17 #[.pointer (some ⟨q, 0, none⟩), .int .u64 (id : Int), .int .u64 (en : Int), ros x] w (rk w q M id en x) := by
 have hb0 := (Below.refl w.heap.size w).alloc aj (.cells (aZ x).toArray 58);have HR1 := ae (bJ.new w x);have HB1 := ae hb0;have HBN := ae (bw.below hb hb0);have HD : Hid (((M.ds.length : Int) == 0) = false) := ae (by have := (bw.wf hb).one; exact av (by omega));have HI0 : Hid (((id : Int) == 0) = false) := ae (av (by omega));have HE0 : Hid (decide ((2305843009213693952 : Int) < (en : Int)) = false) := ae (am (by omega));have HM := ae h2;have HGE : Hid (dH x = true) := ae (by have h2' := h2; unfold aW at h2'; simp only [Bool.and_eq_true] at h2'; exact h2'.1.1.1);have HFT := ae h3;have HNO : Hid (gy M id en x = false) := ae (by rw [kH, h3]; simp);clear h0 h1 h2 h3;clear hb hb0;go_enter func17, ntmps17;go_upto_region 0 with fail;refine af ?_;refine akj (a6 rfl akt) ?_;generalize w.alloc (.cells (aZ x).toArray 58) = w1 at *;refine aF 2 ?_;go_upto_region 1 with fail;refine aI 1 ?_;refine ay rfl (aB call41 rfl (evc akt evn)) ?_;refine (bw.devices HBN).mono ?_;rintro e w2 ⟨rfl, b2⟩;have HB2 := ae (HB1.out.trans (b2.mono HB1.out.size));have HR2 : Hid (bJ w2 w.heap.size x) := ae (aC HR1 b2);have HBN2 := ae (bw.below HBN b2);clear b2;refine aR ?_;refine akj (aH false rfl akt evk HD) ?_;refine ah ?_;go_upto_region 3 with fail;refine aI 1 ?_;refine akj (aH false rfl akt evk HI0) ?_;refine runs 2 ?_;refine akq (dA false rfl akt evk HE0) ?_;refine runs 2 ?_;refine akq (bi rfl akt HR2.out.range) ?_;refine ay ake (aB call42 rfl (evc akt evn)) ?_;refine (dO w2 HM).mono ?_;rintro e w3 ⟨rfl, b3⟩;have HB3 := ae (HB2.out.trans (b3.mono HB2.out.size));have HR3 : Hid (bJ w3 w.heap.size x) := ae (aC HR2 b3);have HBN3 := ae (bw.below HBN2 b3);clear b3;refine aR ?_;refine runs 3 ?_;refine runs 1 ?_;refine akq (ax rfl akt pz) ?_;refine akq (dm rfl akt HR3.out.geo) ?_;refine ay ake (aB call43 rfl (evc akt (evc akt evn))) ?_;refine (yj x HGE HBN3).mono ?_;rintro e w4 ⟨rfl, b4⟩;rw [HFT.out];have HB4 := ae (HB3.out.trans (b4.mono HB3.out.size));have HR4 : Hid (bJ w4 w.heap.size x) := ae (aC HR3 b4);have HBN4 := ae (bw.below HBN3 b4);clear b4;refine aR ?_;refine aF 2 ?_;go_upto_region 4 with fail;refine cf 2 ?_;go_wp2_with fail;go_ret2;exact ⟨HB4, .inr ⟨HNO, rfl⟩⟩
theorem aeh (id en : Nat) (x : Ros) (hb : bw.Bn w F q M) (h0 : id ≠ 0) (h1 : ¬ 2305843009213693952 < en) (h2 : aW x = true) (h3 : oS M x = true) : Calls prog 17 #[.pointer (some ⟨q, 0, none⟩), .int .u64 (id : Int), .int .u64 (en : Int), ros x] w (rk w q M id en x) := by
 have hb0 := (Below.refl w.heap.size w).alloc aj (.cells (aZ x).toArray 58);have HR1 := ae (bJ.new w x);have HB1 := ae hb0;have HBN := ae (bw.below hb hb0);have HD : Hid (((M.ds.length : Int) == 0) = false) := ae (by have := (bw.wf hb).one; exact av (by omega));have HI0 : Hid (((id : Int) == 0) = false) := ae (av (by omega));have HE0 : Hid (decide ((2305843009213693952 : Int) < (en : Int)) = false) := ae (am (by omega));have HM := ae h2;have HGE : Hid (dH x = true) := ae (by have h2' := h2; unfold aW at h2'; simp only [Bool.and_eq_true] at h2'; exact h2'.1.1.1);have HFT := ae h3;have HYE : Hid (gy M id en x = true) := ae (by rw [kH, h2, h3, am h0, am h1]; rfl);clear h0 h1 h2 h3;clear hb hb0;go_enter func17, ntmps17;go_upto_region 0 with fail;refine af ?_;refine akj (a6 rfl akt) ?_;generalize w.alloc (.cells (aZ x).toArray 58) = w1 at *;refine aF 2 ?_;go_upto_region 1 with fail;refine aI 1 ?_;refine ay rfl (aB call41 rfl (evc akt evn)) ?_;refine (bw.devices HBN).mono ?_;rintro e w2 ⟨rfl, b2⟩;have HB2 := ae (HB1.out.trans (b2.mono HB1.out.size));have HR2 : Hid (bJ w2 w.heap.size x) := ae (aC HR1 b2);have HBN2 := ae (bw.below HBN b2);clear b2;refine aR ?_;refine akj (aH false rfl akt evk HD) ?_;refine ah ?_;go_upto_region 3 with fail;refine aI 1 ?_;refine akj (aH false rfl akt evk HI0) ?_;refine runs 2 ?_;refine akq (dA false rfl akt evk HE0) ?_;refine runs 2 ?_;refine akq (bi rfl akt HR2.out.range) ?_;refine ay ake (aB call42 rfl (evc akt evn)) ?_;refine (dO w2 HM).mono ?_;rintro e w3 ⟨rfl, b3⟩;have HB3 := ae (HB2.out.trans (b3.mono HB2.out.size));have HR3 : Hid (bJ w3 w.heap.size x) := ae (aC HR2 b3);have HBN3 := ae (bw.below HBN2 b3);clear b3;refine aR ?_;refine runs 3 ?_;refine runs 1 ?_;refine akq (ax rfl akt pz) ?_;refine akq (dm rfl akt HR3.out.geo) ?_;refine ay ake (aB call43 rfl (evc akt (evc akt evn))) ?_;refine (yj x HGE HBN3).mono ?_;rintro e w4 ⟨rfl, b4⟩;rw [HFT.out];have HB4 := ae (HB3.out.trans (b4.mono HB3.out.size));have HR4 : Hid (bJ w4 w.heap.size x) := ae (aC HR3 b4);have HBN4 := ae (bw.below HBN3 b4);clear b4;refine aR ?_;refine aF 2 ?_;go_upto_region 5 with fail;refine aI 3 ?_;refine akj (bi rfl akt HR4.out.range) ?_;refine runs 1 ?_;refine akj (vA (y := ⟨id, en, en, x⟩) rfl akt akt akt akt akt) ?_;refine akj (cO (cs := (phC (some ⟨q, 0, none⟩) ⟨id, en, en, x⟩)) rfl akt) ?_;refine aF 2 ?_;go_wp2_with fail;go_ret2;exact ⟨HB4.out.alloc HB4.out.size _, .inl ⟨HYE, w4.heap.size, rfl, heap_alloc_new w4 _, HB4.out.size⟩⟩
theorem air (id en : Nat) (x : Ros) (hb : bw.Bn w F q M) : Calls prog 17 #[.pointer (some ⟨q, 0, none⟩), .int .u64 (id : Int), .int .u64 (en : Int), ros x] w (rk w q M id en x) := by
 by_cases h0 : id = 0
 ·exact aew id en x hb h0
 by_cases h1 : 2305843009213693952 < en
 ·exact aff id en x hb h0 h1
 cases h2 : aW x
 ·exact aeo id en x hb h0 h1 h2
 cases h3 : oS M x
 ·exact afV id en x hb h0 h1 h2 h3
 ·exact aeh id en x hb h0 h1 h2 h3
end
theorem rD (w : World) (v : Value) (id en : Nat) (x : Ros) (hd : ∀ w1, Below w.heap.size w w1 -> Calls prog 41 #[v] w1 fun e w' => e = .returned (.int .i64 0) /\ w1 = w') : Calls prog 17 #[v, .int .u64 (id : Int), .int .u64 (en : Int), ros x] w fun e w' => e = .returned (.tuple #[.pointer none, .int .i64 1]) /\ Below w.heap.size w w' := by
 have hb0 := (Below.refl w.heap.size w).alloc aj (.cells (aZ x).toArray 58);have HB1 := ae hb0;have HDV := ae (hd _ hb0);clear hd hb0;go_enter func17, ntmps17;go_upto_region 0 with fail;refine af ?_;refine akj (a6 rfl akt) ?_;generalize w.alloc (.cells (aZ x).toArray 58) = w1 at *;refine aF 2 ?_;go_upto_region 1 with fail;refine aI 1 ?_;refine ay rfl (aB call41 rfl (evc akt evn)) ?_;refine (HDV.out).mono ?_;rintro e w2 ⟨rfl, rfl⟩;refine aR ?_;refine akj (aH true rfl akt evk rfl) ?_;refine ah ?_;go_upto_region 2 with fail;refine cf 2 ?_;go_wp2_with fail;go_ret2;exact ⟨rfl, HB1⟩
section
variable {w : World} {v : Value}
theorem aav (h : NoH w v) : Calls prog 34 #[v] w fun e w' => e = .returned (.int .i64 1) /\ Below w.heap.size w w' := by
 obtain ⟨z0, hz0⟩ : ∃ z0, z0 = w.heap.size := ⟨_, rfl⟩;rw [<- hz0];have HZ0 := ae hz0;have HN := ae h;clear hz0 h;go_enter func34, ntmps34;go_upto_region 0 with fail;refine af ?_;refine akj (eW (v := v) HN.out.cells rfl akt) ?_;have hb0 := (Below.refl w.heap.size w).alloc aj (.cells #[v] 24);have HP1 := ae (heap_alloc_new w (.cells #[v] 24));have HB1 := ae hb0;clear hb0;generalize w.alloc (.cells #[v] 24) = w1 at *;refine aF 1 ?_;have HN2 := ae (HN.out.below HB1);go_upto_region 1 with fail;refine af ?_;refine akj (aD rfl akt (ai2 HN (cell_of_row _ w.heap.size 0 _ _ _ HP1))) ?_;refine ay rfl (aB call67 rfl (evc akt evn)) ?_;refine (nr HN2).mono ?_;rintro e w3 ⟨rfl, rfl⟩;refine aR ?_;refine aF 1 ?_;go_upto_region 2 with fail;refine aI 1 ?_;refine akj (aK true rfl akt evk rfl) ?_;refine ah ?_;go_upto_region 3 with fail;refine cf 2 ?_;go_wp2_with fail;go_ret;exact ⟨rfl, by rw [HZ0.out]; exact HB1⟩
theorem abL (h : NoH w v) : Calls prog 66 #[v] w fun e w' => e = .returned (.int .u64 0) /\ Below w.heap.size w w' := by
 rcases h with rfl | ⟨p, rfl, h⟩
 ·exact ahA.mono fun e w' ⟨h1, h2⟩ => ⟨h1, by subst h2; exact ak⟩
 ·exact (age h).mono fun e w' ⟨h1, h2⟩ => ⟨h1, by subst h2; exact ak⟩
theorem tH : stN bK = 0 := by decide
theorem uy (h : NoH w v) : Calls prog 103 #[v] w fun e w' => e = .returned (.int .i64 0) /\ Below w.heap.size w w' := by
 rcases h with rfl | ⟨p, rfl, h⟩
 ·exact z6.mono fun e w' ⟨h1, h2⟩ => ⟨by rw [h1, tH]; rfl, h2⟩
 ·exact (lX h).mono fun e w' ⟨h1, h2⟩ => ⟨by rw [h1]; show Ending.returned (.int .i64 (stN bK : Nat)) = _; rw [tH]; rfl, h2⟩
theorem aha (w : World) : Calls prog 41 #[.pointer none] w fun e w' => e = .returned (.int .i64 0) /\ w = w' := by
 go_enter func41, ntmps41;go_wp2_with fail;go_ret;exact ⟨rfl, rfl⟩
def zbH : List Value := [.slice none 0 0, .int .i64 0, .int .i64 0, .bool false]
theorem af3 {b : Nat} (w : World) (h : w.heap[b]? = some (.cells zbH.toArray 95 (0, 0))) : Calls prog 41 #[.pointer (some ⟨b, 0, none⟩)] w fun e w' => e = .returned (.int .i64 0) /\ w = w' := by
 have c0 : w.cell? ⟨b, 0, none⟩ = some (.slice none 0 0) := (aQ h) 0 _ rfl;clear h;go_enter func41, ntmps41;go_wp2_with fail;go_ret;exact ⟨rfl, rfl⟩
end
def HuJ (w : World) (G : Nat -> Prop) (q p : Nat) (h : HuS) : Prop :=
 ∃ Gb, bw.Bn w Gb q h.M /\ PHu w p q ⟨h.id, h.ev, h.ev, h.R⟩ /\ ¬ Gb p /\ (∀ b, G b ↔ (Gb b \/ b = p)) /\ aW h.R = true /\ (h.id ≠ 0 /\ h.id < 18446744073709551616)
section
variable {w w' : World} {G K : Nat -> Prop} {q p : Nat} {h : HuS}
theorem HuJ.hul (j : HuJ w G q p h) : PHu w p q ⟨h.id, h.ev, h.ev, h.R⟩ := by obtain ⟨_, _, h2, _⟩ := j; exact h2
theorem HuJ.start (j : HuJ w G q p h) (hc : CrG w G) : HJ w G (fun _ => False) w p q h.M ⟨h.id, h.ev, h.ev, h.R⟩ := by
 obtain ⟨Gb, h1, h2, h3, h4, h5, h6⟩ := j;exact ⟨Gb, h1, h2, h3, Only.refl _ _, fun b hb => .inl ((h4 b).2 hb), fun b e => e.elim, hc⟩
theorem HJ.fin {M' : aV} {id ev : Nat} {R : Ros} (j : HJ w G K w' p q M' ⟨id, ev, ev, R⟩) (hf : aW R = true) (hid : id ≠ 0 /\ id < 18446744073709551616) : ∃ G', HuJ w' G' q p ⟨M', id, ev, R⟩ /\ Only G w w' /\ Grow w G G' /\ ∃ Gb, bw.Bn w' Gb q M' /\ ∀ b, Gb b -> G' b := by
 obtain ⟨Gb, h1, h2, h3, h4, h5, h6, h7⟩ := j;exact ⟨fun b => Gb b \/ b = p, ⟨Gb, h1, h2, h3, fun b => Iff.rfl, hf, hid⟩, h4, h5, Gb, h1, fun b e => .inl e⟩
theorem HJ.ajN {M' : aV} {y : HpS} (j : HJ w G K w' p q M' y) : ∃ G', Only G w w' /\ Grow w G G' /\ ∃ Gb, bw.Bn w' Gb q M' /\ ∀ b, Gb b -> G' b := by
 obtain ⟨Gb, h1, h2, h3, h4, h5, h6, h7⟩ := j;exact ⟨fun b => Gb b \/ b = p, h4, h5, Gb, h1, fun b e => .inl e⟩
theorem HuQ.fin {x : HpS} {h' : HuS} {ok : Prop} (hq : HuQ w G K w p q x h' ok w') (hid : x.id ≠ 0 /\ x.id < 18446744073709551616) : ∃ G', (ok -> HuJ w' G' q p h') /\ Only G w w' /\ Grow w G G' /\ ∃ Gb, bw.Bn w' Gb q h'.M /\ ∀ b, Gb b -> G' b := by
 by_cases e : ok
 ·obtain ⟨j, f, i, _⟩ := hq.2.1 e;obtain ⟨G', k1, k2⟩ := j.fin f hid;refine ⟨G', fun _ => ?_, k2⟩;have e2 : h' = ⟨h'.M, x.id, h'.ev, h'.R⟩ := by rw [<- i]
  rw [e2];exact k1
 ·obtain ⟨us, _, j⟩ := hq.2.2 e;obtain ⟨G', k2⟩ := j.ajN;exact ⟨G', fun z => absurd z e, k2⟩
end
def aeE : eN where
 R := bw
 J := HuJ
 lt := fun ⟨Gb, h1, h2, _, h4, _⟩ b hb => by
  rcases (h4 b).1 hb with e | e
  ·exact bw.lt h1 b e
  ·subst e; exact h2.lt
 fin := fun ⟨_, _, _, _, _, h5, h6, _⟩ => ⟨h5, h6⟩
 only := fun ⟨Gb, h1, h2, h3, h4, h5⟩ ho hn => ⟨Gb, bw.only h1 ho fun b hb => hn b ((h4 b).2 (.inl hb)), h2.only ho (hn _ ((h4 _).2 (.inr rfl))), h3, h4, h5⟩
 ben := fun {w G q p h} ⟨Gb, h1, h2, h3, h4, h5⟩ => ⟨Gb, h1, fun b hb => (h4 b).2 (.inl hb), fun w' Gb' M' k1 k2 k3 => by
  have hp := h2.lt;refine ⟨fun b => Gb' b \/ b = p, ⟨Gb', k1, h2.only k2 h3, fun e => ?_, fun b => Iff.rfl, h5⟩, k2.widen fun b hb => (h4 b).2 (.inl hb), fun b hb => ?_⟩
  ·rcases k3 p e with e | e
   ·exact h3 e
   ·omega
  ·rcases hb with e | e
   ·rcases k3 b e with e | e
    ·exact .inl ((h4 b).2 (.inl e))
    ·exact .inr e
   ·exact .inl ((h4 b).2 (.inr e))⟩
 new_ := fun {w G q M} id ev x hid hev hb => (air id ev x hb).mono fun e w' ⟨h1, h2⟩ => ⟨h1, by
  rcases h2 with ⟨h3, p, h4, h5, h6⟩ | ⟨h3, h4⟩
  ·have hl := bw.lt hb;have h7 : aW x = true /\ id ≠ 0 := by
    rw [kH] at h3;simp only [Bool.and_eq_true, Bool.not_eq_true', decide_eq_false_iff_not] at h3;exact ⟨h3.2.2.1, h3.1⟩
   exact .inl ⟨h3, p, fun b => G b \/ b = p, h4, ⟨G, bw.below hb h1, h5, fun e => by have := hl p e; omega, fun b => Iff.rfl, h7.1, h7.2, hid⟩, fun b hb => by
    rcases hb with e | e
    ·exact .inl e
    ·exact .inr (by omega)⟩
  ·exact .inr ⟨h3, h4⟩⟩
 new_nil := fun w id ev x _ _ => rD w _ id ev x fun w1 _ => aha w1
 write := fun {w G q p h} s m b j hc hr he => by
  obtain ⟨Gb, _, _, _, _, h5, h6⟩ := id j;exact (acO s m b h5 h6 hr he rfl (j.start hc)).mono fun e w' ⟨k0, k1⟩ => ⟨k0, k1.fin h6⟩
 id_ := fun {w G q p h} j => (age j.hul).mono fun e w' ⟨h1, h2⟩ => ⟨h1, by subst h2; exact ak⟩
 state := fun {w G q p h} j => lX j.hul
 aia := fun {w G q p h} j => qJ j.hul
 No := NoH
 zc := phC none ⟨0, 0, 0, bK⟩
 zb := zbH
 no_nil := fun w => .inl rfl
 bld0 := fun w => by kernel_rfl
 bldB := fun w => by kernel_rfl
 no_zero := fun w => .inr ⟨_, rfl, heap_alloc_new w _⟩
 no_below := fun h hb => h.below hb
 new_zero := fun w b id ev x hb _ _ => rD w _ id ev x fun w1 h1 => af3 w1 (aC hb h1)
 no_write := fun w v s m b h => z8 s m b h
 no_flush := fun w v h => aav h
 no_id := fun w v h => abL h
 no_state := fun w v h => uy h
structure af6 (C : eN) : Prop where
 flush : ∀ {w G q p h}, C.J w G q p h -> CrG w G -> (eH h.R = false -> qh h.R.m.toNat 0 h) -> Calls prog 34 #[.pointer (some ⟨p, 0, none⟩)] w fun e w' => e = .returned (.int .i64 (oY h)) /\ ∃ G', C.J w' G' q p (iX h) /\ Only G w w' /\ Grow w G G'
theorem ajH : af6 aeE where
 flush := fun {w G q p h} j hc hp => by
  have hj := HuJ.start j hc;obtain ⟨Gb, _, _, _, _, h5, h6⟩ := j;refine (abG h6 h5 hp hj).mono ?_;rintro e w' ⟨rfl, k1, k2, k3, k4⟩;obtain ⟨G', g1, g2, g3, _⟩ := k2.fin k3 h6;refine ⟨rfl, G', ?_, g2, g3⟩;have e2 : iX h = ⟨(iX h).M, h.id, (iX h).ev, (iX h).R⟩ := by rw [<- k4]
  rw [e2];exact g1
def QD (C : eN) (D : ShI C) (w0 : World) (G0 S0 : Nat -> Prop) (q p t K : Nat) (O : Nat -> Prop) (w : World) (h : HuS) (s : ShS) : Prop :=
 ∃ G S, C.J w G q p h /\ D.P w S t K s /\ (∀ b, G b -> ¬ S b) /\ Only (fun b => G0 b \/ S0 b) w0 w /\ Grow w0 G0 G /\ Grow w0 S0 S /\ (∀ b, O b -> ¬ G b /\ ¬ S b /\ b < w.heap.size /\ w0.heap.size <= b) /\ CrG w0 G0 /\ ¬ S0 0
def QDR (C : eN) (D : ShI C) (w0 : World) (G0 S0 : Nat -> Prop) (q p t K : Nat) (h : HuS) (s : ShS) (w : World) : Prop := ∃ G S, C.J w G q p h /\ D.P w S t K s /\ (∀ b, G b -> ¬ S b) /\ Only (fun b => G0 b \/ S0 b) w0 w /\ Grow w0 G0 G /\ Grow w0 S0 S
section
variable {C : eN} {D : ShI C} {w w' w0 w1 : World} {G G' G0 S S' S0 : Nat -> Prop} {p q t K : Nat} {h h' : HuS} {s s' : ShS} {O O' : Nat -> Prop}
theorem QD.start (j : C.J w G q p h) (a : D.P w S t K s) (c1 : CrG w G) (c2 : ¬ S 0) (d : ∀ b, G b -> ¬ S b) : QD C D w G S q p t K (fun _ => False) w h s := ⟨G, S, j, a, d, Only.refl _ _, Grow.same _ _, Grow.same _ _, fun _ e => e.elim, c1, c2⟩
theorem QD.res (e : QD C D w0 G0 S0 q p t K O w h s) : QDR C D w0 G0 S0 q p t K h s w := by
 obtain ⟨G, S, j, a, d, on, gj, ga, o, cr⟩ := e;exact ⟨G, S, j, a, d, on, gj, ga⟩
theorem QD.lt (e : QD C D w0 G0 S0 q p t K O w h s) {b : Nat} (hb : O b) : b < w.heap.size := by
 obtain ⟨G, S, j, a, d, on, gj, ga, o, cr⟩ := e;exact (o b hb).2.2.1
theorem QD.guard (e : QD C D w0 G0 S0 q p t K O w h s) (k : Below w.heap.size w w') (hO : ∀ b, O' b -> O b \/ (w.heap.size <= b /\ b < w'.heap.size)) : QD C D w0 G0 S0 q p t K O' w' h s := by
 obtain ⟨G, S, j, a, d, on, gj, ga, o, cr⟩ := e;have hs := k.size;refine ⟨G, S, C.below j k, D.below a k, d, on.jz k, gj, ga, fun b hb => ?_, cr⟩;have h0 := on.size;rcases hO b hb with x | ⟨x1, x2⟩
 ·exact ⟨(o b x).1, (o b x).2.1, au (o b x).2.2.1 hs, (o b x).2.2.2⟩
 ·exact ⟨fun x => by have := C.lt j b x; omega, fun x => by have := D.lt a b x; omega, x2, by omega⟩
theorem QD.below (e : QD C D w0 G0 S0 q p t K O w h s) (k : Below w.heap.size w w') : QD C D w0 G0 S0 q p t K O w' h s := e.guard k fun b x => .inl x
theorem QD.turn (gj : Grow w0 G0 G) (ga : Grow w0 S0 S) (on : Only (fun b => G0 b \/ S0 b) w0 w) (o : ∀ b, O b -> ¬ G b /\ ¬ S b /\ b < w.heap.size /\ w0.heap.size <= b) (cr : CrG w0 G0 /\ ¬ S0 0) (k1 : C.J w' G' q p h') (k2 : D.P w' S' t K s') (kd : ∀ b, G' b -> ¬ S' b) (k3 : Only (fun b => G b \/ S b) w w') (k4 : Grow w G G') (k5 : Grow w S S') : QD C D w0 G0 S0 q p t K O w' h' s' /\ cj O w w' := by
 have h0 := on.size;refine ⟨⟨G', S', k1, k2, kd, on.trans k3 fun b hb => ?_, fun b hb => ?_, fun b hb => ?_, fun b hb => ?_, cr⟩, fun b hb => k3.block b (o b hb).2.2.1 fun e => e.elim (o b hb).1 (o b hb).2.1⟩
 ·rcases hb with hb | hb
  ·rcases gj b hb with y | y
   ·exact .inl (.inl y)
   ·exact .inr y
  ·rcases ga b hb with y | y
   ·exact .inl (.inr y)
   ·exact .inr y
 ·rcases k4 b hb with y | y
  ·exact gj b y
  ·exact .inr (aq h0 y)
 ·rcases k5 b hb with y | y
  ·exact ga b y
  ·exact .inr (aq h0 y)
 ·obtain ⟨c1, c2, c3, c4⟩ := o b hb;refine ⟨fun x => ?_, fun x => ?_, au c3 k3.size, c4⟩
  ·rcases k4 b x with y | y
   ·exact c1 y
   ·omega
  ·rcases k5 b x with y | y
   ·exact c2 y
   ·omega
theorem QD.crg (on : Only (fun b => G0 b \/ S0 b) w0 w) (gj : Grow w0 G0 G) (cr : CrG w0 G0 /\ ¬ S0 0) : CrG w G := by
 refine ⟨fun i hi => (on.cell (p := ⟨0, i, none⟩) (gv (cr.1.t i hi)) (fun x => x.elim cr.1.off cr.2)).trans (cr.1.t i hi), fun x => ?_⟩;rcases gj _ x with y | y
 ·exact cr.1.off y
 ·have := gv (cr.1.t 0 (by omega));exact absurd y (Nat.not_le_of_lt this)
theorem QD.crs (on : Only (fun b => G0 b \/ S0 b) w0 w) (ga : Grow w0 S0 S) (cr : CrG w0 G0 /\ ¬ S0 0) : ¬ S 0 := fun x => by
 rcases ga _ x with y | y
 ·exact cr.2 y
 ·have := gv (cr.1.t 0 (by omega));exact absurd y (Nat.not_le_of_lt this)
theorem QD.afS {I : FuncId} {vs : Array Value} {v : Value} (e : QD C D w0 G0 S0 q p t K O w h s) (hc : ∀ G, C.J w G q p h -> CrG w G -> Calls prog I vs w fun e w' => e = .returned v /\ ∃ G', C.J w' G' q p h' /\ Only G w w' /\ Grow w G G') : Calls prog I vs w fun e w' => e = .returned v /\ QD C D w0 G0 S0 q p t K O w' h' s /\ cj O w w' := by
 obtain ⟨G, S, j, a, d, on, gj, ga, o, cr⟩ := e;refine (hc G j (QD.crg on gj cr)).mono fun e w' ⟨k0, G', k1, k3, k4⟩ => ⟨k0, QD.turn gj ga on o cr k1 (D.only a k3 fun b hb hg => d b hg hb) (fun b hg hs => ?_) (k3.widen fun b hb => .inl hb) k4 (Grow.same _ _)⟩
 rcases k4 b hg with y | y
 ·exact d b y hs
 ·have := D.lt a b hs; omega
theorem QD.shelf {I : FuncId} {vs : Array Value} {v : Value} (e : QD C D w0 G0 S0 q p t K O w h s) (hc : ∀ S, D.P w S t K s -> Calls prog I vs w fun e w' => e = .returned v /\ ∃ S', D.P w' S' t K s' /\ Only S w w' /\ Grow w S S') : Calls prog I vs w fun e w' => e = .returned v /\ QD C D w0 G0 S0 q p t K O w' h s' /\ cj O w w' := by
 obtain ⟨G, S, j, a, d, on, gj, ga, o, cr⟩ := e;refine (hc S a).mono fun e w' ⟨k0, S', k2, k3, k5⟩ => ⟨k0, QD.turn gj ga on o cr (C.only j k3 d) k2 (fun b hg hs => ?_) (k3.widen fun b hb => .inr hb) (Grow.same _ _) k5⟩
 rcases k5 b hs with y | y
 ·exact d b hg y
 ·have := C.lt j b hg; omega
theorem QD.both {I : FuncId} {vs : Array Value} {v : Value} (e : QD C D w0 G0 S0 q p t K O w h s) (hc : ∀ G S, C.J w G q p h -> D.P w S t K s -> CrG w G -> ¬ S 0 -> (∀ b, G b -> ¬ S b) -> Calls prog I vs w fun e w' => e = .returned v /\ QDR C D w G S q p t K h' s' w') : Calls prog I vs w fun e w' => e = .returned v /\ QD C D w0 G0 S0 q p t K O w' h' s' /\ cj O w w' := by
 obtain ⟨G, S, j, a, d, on, gj, ga, o, cr⟩ := e;exact (hc G S j a (QD.crg on gj cr) (QD.crs on ga cr) d).mono fun e w' ⟨k0, G', S', k1, k2, kd, k3, k4, k5⟩ => ⟨k0, QD.turn gj ga on o cr k1 k2 kd k3 k4 k5⟩
theorem QD.look {I : FuncId} {vs : Array Value} {Q : Ending -> World -> Prop} (e : QD C D w0 G0 S0 q p t K O w h s) (hc : ∀ S, D.P w S t K s -> Calls prog I vs w Q) : Calls prog I vs w Q := by
 obtain ⟨G, S, j, a, _⟩ := e;exact hc S a
theorem xW {α : Type} {B : Nat} {E : Elt α} {v : Value} {l : List α} (h : aN E w B v l) (hk : ∀ b, v.ownBlock = some b -> w'.heap[b]? = w.heap[b]?) : aN E w' B v l := by
 refine ⟨h.1, ?_⟩;rcases h.2 with hn | ⟨g, cap, cur, rfl, hbg, hg, rest⟩
 ·exact .inl hn
 ·exact .inr ⟨g, cap, cur, rfl, hbg, (hk g rfl).trans hg, rest⟩
end
end Go.Proofs.YtlmdklakcmnaiaaGreatDoor
