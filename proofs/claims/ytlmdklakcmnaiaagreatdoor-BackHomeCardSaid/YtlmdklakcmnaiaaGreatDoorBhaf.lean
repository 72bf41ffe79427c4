import Derived.Test.YtlmdklakcmnaiaaGreatDoorBhae
namespace Go.Proofs.YtlmdklakcmnaiaaGreatDoor
set_option maxHeartbeats 8000000
open Go.Proofs.Tryz
open Go.RowKit
set_option linter.unusedVariables false
set_option linter.unusedSimpArgs false
set_option maxRecDepth 100000
theorem uQ {ρ : Operand -> Value} {o : Oper} {x : Operand} {w : World} {g c : Nat} (ho : o.op = .sliceToArrayPointer 205 x) (hx : ρ x = .slice (some ⟨g, 0, none⟩) 44 c) : (execOp ρ o).run prog w = .ok (.value (.pointer (some ⟨g, 0, none⟩))) w := by
 unfold execOp;simp [ho, hx, Instr.arrayAt, run_underlying underlying205]
section
variable (b : Blk) (w : World)
structure SgW (w w3 : World) (b : Blk) (g s : Nat) (l : List UInt8) (y : Sup) : Prop where
 row : cJ w3 g 5 l
 sup : cZ w3 s y
 res : w3.there (w.heap.size + 1) 0 23
 bel : Below w.heap.size w w3
 lt : w.heap.size + 1 < w3.heap.size
theorem SgW.keep {w w3 w4 : World} {b : Blk} {g s : Nat} {l : List UInt8} {y : Sup} (h : SgW w w3 b g s l y) (hb : Below w3.heap.size w3 w4) : SgW w w4 b g s l y :=
 ⟨h.row.below h.row.lt hb, h.sup.below (aU h.sup) hb, ci h.res h.lt hb, h.bel.trans (hb.mono h.bel.size), au h.lt hb.size⟩
end
theorem wl (b : Blk) (w : World) (T : Tab w) (h : fp b.toList ≠ 0) : Calls prog 159 #[blk b] w fun e w' => e = .returned (.tuple #[.int .u64 (0 : Nat), sup cG, .int .i64 (fp b.toList : Nat)]) /\ Below w.heap.size w w' := by
 obtain ⟨n, hn⟩ : ∃ n, im b.toList = n := ⟨_, rfl⟩;obtain ⟨l, hl⟩ : ∃ l, eK b.toList = l := ⟨_, rfl⟩;have h1 := (Below.refl w.heap.size w).alloc aj (.cells (cel b).toArray 44);have h2 := h1.alloc h1.size (.cells (bD cG).toArray 198);have HA : Hid (((w.alloc (.cells (cel b).toArray 44)).alloc (.cells (bD cG).toArray 198)).rangeAt w.heap.size 0 (cel b)) := ae (World.rangeAt_alloc (dQ w (cel b) 44) _);have hsn := cZ.new (w.alloc (.cells (cel b).toArray 44)) cG;rw [World.size_alloc] at hsn;have HR := ae (dY (o := 0) (n := 23) hsn (by rw [a8]; exact aj));have HZ := ae (aU hsn);have HB := ae h2;have HT := ae (T.below h2);have HN := ae hn;have HL := ae hl;clear h1 h2 hsn T;obtain ⟨E, hE⟩ : ∃ E, fp b.toList = E := ⟨_, rfl⟩;rw [hE] at h;have HE := ae hE;have hne : ((E : Int) != 0) = true := by simp; omega
 clear hE hn hl;go_enter func159, ntmps159;go_wp2_with (first | (refine aw rfl (cY rfl rfl) ?_) | (refine aw rfl (cp rfl) ?_) | (refine aw rfl (bI (c := b) rfl rfl ?_) ?_; (with_reducible exact HA.out)) | fail)
 try simp only [World.size_alloc]
 generalize (w.alloc (.cells (cel b).toArray 44)).alloc (.cells (bD cG).toArray 198) = w0 at *;refine (ke b _ w0 (ae rfl) HT).mono ?_;rintro e w1 ⟨v, rfl, hv, hb⟩;rw [HN.out];rw [HE.out];have HR1 := ae (ci HR HZ hb);have HB1 := ae (HB.out.trans (hb.mono HB.out.size));clear hv hb HA HR HB;go_wp2_with (first | (refine aw rfl (kO rfl) ?_) | (refine aG rfl (ez (c := cG) rfl rfl rfl ?_) ?_; (with_reducible exact HR1.out)) | fail);refine bodyPost_ret (lU (t := 198) (cs := bD cG) rfl _ _ _ rfl ?h1 underlying198 rfl ?h2) rfl ⟨by rw [HE.out]; rfl, ?h3⟩
 case h1 => exact World.rangeAt_setCells_same _ _ _ _ (by rw [a8]; exact HR1)
 case h2 => rw [a8]; exact kj
 case h3 => exact below_setCells HB1 (Nat.le_succ _) _
theorem aa1 (b : Blk) (w : World) (T : Tab w) (h0 : fp b.toList = 0) (hev : evB (im b.toList) = false) : Calls prog 159 #[blk b] w fun e w' => e = .returned (.tuple #[.int .u64 (0 : Nat), sup cG, .int .i64 (5 : Nat)]) /\ Below w.heap.size w w' := by
 obtain ⟨n, hn⟩ : ∃ n, im b.toList = n := ⟨_, rfl⟩;obtain ⟨l, hl⟩ : ∃ l, eK b.toList = l := ⟨_, rfl⟩;have h1 := (Below.refl w.heap.size w).alloc aj (.cells (cel b).toArray 44);have h2 := h1.alloc h1.size (.cells (bD cG).toArray 198);have HA : Hid (((w.alloc (.cells (cel b).toArray 44)).alloc (.cells (bD cG).toArray 198)).rangeAt w.heap.size 0 (cel b)) := ae (World.rangeAt_alloc (dQ w (cel b) 44) _);have hsn := cZ.new (w.alloc (.cells (cel b).toArray 44)) cG;rw [World.size_alloc] at hsn;have HR := ae (dY (o := 0) (n := 23) hsn (by rw [a8]; exact aj));have HZ := ae (aU hsn);have HB := ae h2;have HT := ae (T.below h2);have HN := ae hn;have HL := ae hl;clear h1 h2 hsn T;rw [hn] at hev;have HEV := ae hev;clear hev;clear hn hl;go_enter func159, ntmps159;go_wp2_with (first | (refine aw rfl (cY rfl rfl) ?_) | (refine aw rfl (cp rfl) ?_) | (refine aw rfl (bI (c := b) rfl rfl ?_) ?_; (with_reducible exact HA.out)) | fail)
 try simp only [World.size_alloc]
 generalize (w.alloc (.cells (cel b).toArray 44)).alloc (.cells (bD cG).toArray 198) = w0 at *;refine (ke b _ w0 (ae rfl) HT).mono ?_;rintro e w1 ⟨v, rfl, hv, hb⟩;rw [HN.out];rw [h0];have hll : l.length = 44 := by rw [<- HL.out]; exact lH h0
 have HLL := ae hll;rw [HL.out] at hv;obtain ⟨g, hve, hrow⟩ : ∃ g, v = .slice (some ⟨g, 0, none⟩) 44 44 /\ cJ w1 g 5 l := by
  rcases hv with ⟨_, rfl⟩ | ⟨g, e, _, hr, _⟩
  ·simp at hll
  ·rw [hll] at e; exact ⟨g, e, hr⟩
 subst hve;have HR1 := ae (ci HR HZ hb);have HB1 := ae (HB.out.trans (hb.mono HB.out.size));have HZ1 : Hid (w.heap.size + 1 < w1.heap.size) := ae (au HZ hb.size);have HRW := ae hrow;clear hv hb HA HR HB HZ hll h0 hrow;go_wp2_with fail;refine (xS g l w1 HLL HRW).mono ?_;rintro e w2 ⟨rfl, hb⟩;have hb3 := hb.alloc hb.size (.cells (bD (cQ l)).toArray 198);have HW3 : Hid (SgW w (w2.alloc (.cells (bD (cQ l)).toArray 198)) b g w2.heap.size l (cQ l)) := ae ⟨HRW.out.below HRW.out.lt hb3, cZ.new w2 _, ci HR1 HZ1 hb3, HB1.out.trans (hb3.mono HB1.out.size), au HZ1 hb3.size⟩;have HI : Hid ((cQ l).id < 18446744073709551616) := ae (jC (by rw [HLL.out]; omega));clear hb hb3 HRW HR1 HB1 HZ1;obtain ⟨y, hy⟩ : ∃ y, cQ l = y := ⟨_, rfl⟩;have HY := ae hy;rw [hy] at HW3 HI;rw [hy];clear hy;have HFL := ae (dp y);go_upto_region 5 with (first | (refine aw rfl (cp rfl) ?_) | (refine aG rfl (er rfl rfl rfl) ?_) | fail);generalize w2.alloc (.cells (bD y).toArray 198) = w3 at *;have HS3 := ae HW3.out.sup;have HR3 := ae HW3.out.row;generalize w2.heap.size = s at *;refine aS (B := w3.heap.size) (by kernel_rfl) ?_;refine cC 1 ?_;refine bQ rfl (fun _ => aB call145 rfl (evc akt evn)) (bz aj fun w' hw => ma n w' HEV) ?_;simp only [aa];refine cC 1 ?_;refine gL 3 rfl (fun _ hw => aM rfl akt) (by kernel_rfl) ?_;simp only [bL, ac, aa];refine cC 1 ?_;refine gL 6 rfl (fun _ hw => aM rfl akt) (by kernel_rfl) ?_;simp only [bL, ac, aa];refine cC 1 ?_;refine wpQuiet_nil ?_;intro w4 hw;have HW4 := ae (HW3.out.keep hw);have HR4 := ae HW4.out.res;have HB4 := ae HW4.out.bel;clear HW3 HS3 HR3 hw;go_wp2_with (first | (refine aw rfl (kO rfl) ?_) | (refine aG rfl (ez (c := cG) rfl rfl rfl ?_) ?_; (with_reducible exact HR4.out)) | fail);refine bodyPost_ret (lU (t := 198) (cs := bD cG) rfl _ _ _ rfl ?h1 underlying198 rfl ?h2) rfl ⟨rfl, ?h3⟩
 case h1 => exact World.rangeAt_setCells_same _ _ _ _ (by rw [a8]; exact HR4)
 case h2 => rw [a8]; exact kj
 case h3 => exact below_setCells HB4 (Nat.le_succ _) _
theorem zE (b : Blk) (w : World) (T : Tab w) (h0 : fp b.toList = 0) (hev : evB (im b.toList) = true) (hm : gQ (cQ (eK b.toList)) = false) : Calls prog 159 #[blk b] w fun e w' => e = .returned (.tuple #[.int .u64 (0 : Nat), sup cG, .int .i64 (5 : Nat)]) /\ Below w.heap.size w w' := by
 obtain ⟨n, hn⟩ : ∃ n, im b.toList = n := ⟨_, rfl⟩;obtain ⟨l, hl⟩ : ∃ l, eK b.toList = l := ⟨_, rfl⟩;have h1 := (Below.refl w.heap.size w).alloc aj (.cells (cel b).toArray 44);have h2 := h1.alloc h1.size (.cells (bD cG).toArray 198);have HA : Hid (((w.alloc (.cells (cel b).toArray 44)).alloc (.cells (bD cG).toArray 198)).rangeAt w.heap.size 0 (cel b)) := ae (World.rangeAt_alloc (dQ w (cel b) 44) _);have hsn := cZ.new (w.alloc (.cells (cel b).toArray 44)) cG;rw [World.size_alloc] at hsn;have HR := ae (dY (o := 0) (n := 23) hsn (by rw [a8]; exact aj));have HZ := ae (aU hsn);have HB := ae h2;have HT := ae (T.below h2);have HN := ae hn;have HL := ae hl;clear h1 h2 hsn T;rw [hn] at hev;rw [hl] at hm;have HEV := ae hev;have HM0 := ae hm;clear hev hm;clear hn hl;go_enter func159, ntmps159;go_wp2_with (first | (refine aw rfl (cY rfl rfl) ?_) | (refine aw rfl (cp rfl) ?_) | (refine aw rfl (bI (c := b) rfl rfl ?_) ?_; (with_reducible exact HA.out)) | fail)
 try simp only [World.size_alloc]
 generalize (w.alloc (.cells (cel b).toArray 44)).alloc (.cells (bD cG).toArray 198) = w0 at *;refine (ke b _ w0 (ae rfl) HT).mono ?_;rintro e w1 ⟨v, rfl, hv, hb⟩;rw [HN.out];rw [h0];have hll : l.length = 44 := by rw [<- HL.out]; exact lH h0
 have HLL := ae hll;rw [HL.out] at hv;obtain ⟨g, hve, hrow⟩ : ∃ g, v = .slice (some ⟨g, 0, none⟩) 44 44 /\ cJ w1 g 5 l := by
  rcases hv with ⟨_, rfl⟩ | ⟨g, e, _, hr, _⟩
  ·simp at hll
  ·rw [hll] at e; exact ⟨g, e, hr⟩
 subst hve;have HR1 := ae (ci HR HZ hb);have HB1 := ae (HB.out.trans (hb.mono HB.out.size));have HZ1 : Hid (w.heap.size + 1 < w1.heap.size) := ae (au HZ hb.size);have HRW := ae hrow;clear hv hb HA HR HB HZ hll h0 hrow;go_wp2_with fail;refine (xS g l w1 HLL HRW).mono ?_;rintro e w2 ⟨rfl, hb⟩;have hb3 := hb.alloc hb.size (.cells (bD (cQ l)).toArray 198);have HW3 : Hid (SgW w (w2.alloc (.cells (bD (cQ l)).toArray 198)) b g w2.heap.size l (cQ l)) := ae ⟨HRW.out.below HRW.out.lt hb3, cZ.new w2 _, ci HR1 HZ1 hb3, HB1.out.trans (hb3.mono HB1.out.size), au HZ1 hb3.size⟩;have HI : Hid ((cQ l).id < 18446744073709551616) := ae (jC (by rw [HLL.out]; omega));clear hb hb3 HRW HR1 HB1 HZ1;obtain ⟨y, hy⟩ : ∃ y, cQ l = y := ⟨_, rfl⟩;have HY := ae hy;rw [hy] at HW3 HI HM0;have HM := HM0;rw [hy];clear hy;have HFL := ae (dp y);go_upto_region 5 with (first | (refine aw rfl (cp rfl) ?_) | (refine aG rfl (er rfl rfl rfl) ?_) | fail);generalize w2.alloc (.cells (bD y).toArray 198) = w3 at *;have HS3 := ae HW3.out.sup;have HR3 := ae HW3.out.row;generalize w2.heap.size = s at *;refine aS (B := w3.heap.size) (by kernel_rfl) ?_;refine cC 1 ?_;refine bQ rfl (fun _ => aB call145 rfl (evc akt evn)) (bz aj fun w' hw => ma n w' HEV) ?_;simp only [aa];refine cC 2 ?_;refine aks (fun _ hw => dz (c := y) rfl akt ((HS3.out.below (aU HS3) hw).range)) ?_;refine bQ ake (fun _ => aB call146 rfl (evc akt evn)) (bz aj fun w' hw => ss y w' HM) ?_;simp only [aa];refine cC 2 ?_;refine gL 6 rfl (fun _ hw => aM rfl akt) (by kernel_rfl) ?_;simp only [bL, ac, aa];refine cC 1 ?_;refine wpQuiet_nil ?_;intro w4 hw;have HW4 := ae (HW3.out.keep hw);have HR4 := ae HW4.out.res;have HB4 := ae HW4.out.bel;clear HW3 HS3 HR3 hw;go_wp2_with (first | (refine aw rfl (kO rfl) ?_) | (refine aG rfl (ez (c := cG) rfl rfl rfl ?_) ?_; (with_reducible exact HR4.out)) | fail);refine bodyPost_ret (lU (t := 198) (cs := bD cG) rfl _ _ _ rfl ?h1 underlying198 rfl ?h2) rfl ⟨rfl, ?h3⟩
 case h1 => exact World.rangeAt_setCells_same _ _ _ _ (by rw [a8]; exact HR4)
 case h2 => rw [a8]; exact kj
 case h3 => exact below_setCells HB4 (Nat.le_succ _) _
theorem abM (b : Blk) (w : World) (T : Tab w) (h0 : fp b.toList = 0) (hev : evB (im b.toList) = true) (hm : gQ (cQ (eK b.toList)) = true) (hd : dU (cQ (eK b.toList)) ≠ eK b.toList) : Calls prog 159 #[blk b] w fun e w' => e = .returned (.tuple #[.int .u64 (0 : Nat), sup cG, .int .i64 (5 : Nat)]) /\ Below w.heap.size w w' := by
 obtain ⟨n, hn⟩ : ∃ n, im b.toList = n := ⟨_, rfl⟩;obtain ⟨l, hl⟩ : ∃ l, eK b.toList = l := ⟨_, rfl⟩;have h1 := (Below.refl w.heap.size w).alloc aj (.cells (cel b).toArray 44);have h2 := h1.alloc h1.size (.cells (bD cG).toArray 198);have HA : Hid (((w.alloc (.cells (cel b).toArray 44)).alloc (.cells (bD cG).toArray 198)).rangeAt w.heap.size 0 (cel b)) := ae (World.rangeAt_alloc (dQ w (cel b) 44) _);have hsn := cZ.new (w.alloc (.cells (cel b).toArray 44)) cG;rw [World.size_alloc] at hsn;have HR := ae (dY (o := 0) (n := 23) hsn (by rw [a8]; exact aj));have HZ := ae (aU hsn);have HB := ae h2;have HT := ae (T.below h2);have HN := ae hn;have HL := ae hl;clear h1 h2 hsn T;rw [hn] at hev;rw [hl] at hm hd;have HEV := ae hev;have HM0 := ae hm;have HD0 : Hid (decide (dU (cQ l) = l) = false) := ae (am hd);clear hev hm hd;clear hn hl;go_enter func159, ntmps159;go_wp2_with (first | (refine aw rfl (cY rfl rfl) ?_) | (refine aw rfl (cp rfl) ?_) | (refine aw rfl (bI (c := b) rfl rfl ?_) ?_; (with_reducible exact HA.out)) | fail)
 try simp only [World.size_alloc]
 generalize (w.alloc (.cells (cel b).toArray 44)).alloc (.cells (bD cG).toArray 198) = w0 at *;refine (ke b _ w0 (ae rfl) HT).mono ?_;rintro e w1 ⟨v, rfl, hv, hb⟩;rw [HN.out];rw [h0];have hll : l.length = 44 := by rw [<- HL.out]; exact lH h0
 have HLL := ae hll;rw [HL.out] at hv;obtain ⟨g, hve, hrow⟩ : ∃ g, v = .slice (some ⟨g, 0, none⟩) 44 44 /\ cJ w1 g 5 l := by
  rcases hv with ⟨_, rfl⟩ | ⟨g, e, _, hr, _⟩
  ·simp at hll
  ·rw [hll] at e; exact ⟨g, e, hr⟩
 subst hve;have HR1 := ae (ci HR HZ hb);have HB1 := ae (HB.out.trans (hb.mono HB.out.size));have HZ1 : Hid (w.heap.size + 1 < w1.heap.size) := ae (au HZ hb.size);have HRW := ae hrow;clear hv hb HA HR HB HZ hll h0 hrow;go_wp2_with fail;refine (xS g l w1 HLL HRW).mono ?_;rintro e w2 ⟨rfl, hb⟩;have hb3 := hb.alloc hb.size (.cells (bD (cQ l)).toArray 198);have HW3 : Hid (SgW w (w2.alloc (.cells (bD (cQ l)).toArray 198)) b g w2.heap.size l (cQ l)) := ae ⟨HRW.out.below HRW.out.lt hb3, cZ.new w2 _, ci HR1 HZ1 hb3, HB1.out.trans (hb3.mono HB1.out.size), au HZ1 hb3.size⟩;have HI : Hid ((cQ l).id < 18446744073709551616) := ae (jC (by rw [HLL.out]; omega));clear hb hb3 HRW HR1 HB1 HZ1;obtain ⟨y, hy⟩ : ∃ y, cQ l = y := ⟨_, rfl⟩;have HY := ae hy;rw [hy] at HW3 HI HM0 HD0;have HM := HM0;have HD := HD0;rw [hy];clear hy;have HFL := ae (dp y);go_upto_region 5 with (first | (refine aw rfl (cp rfl) ?_) | (refine aG rfl (er rfl rfl rfl) ?_) | fail);generalize w2.alloc (.cells (bD y).toArray 198) = w3 at *;have HS3 := ae HW3.out.sup;have HR3 := ae HW3.out.row;generalize w2.heap.size = s at *;refine aS (B := w3.heap.size) (by kernel_rfl) ?_;refine cC 1 ?_;refine bQ rfl (fun _ => aB call145 rfl (evc akt evn)) (bz aj fun w' hw => ma n w' HEV) ?_;simp only [aa];refine cC 2 ?_;refine aks (fun _ hw => dz (c := y) rfl akt ((HS3.out.below (aU HS3) hw).range)) ?_;refine bQ ake (fun _ => aB call146 rfl (evc akt evn)) (bz aj fun w' hw => ss y w' HM) ?_;simp only [aa];refine cC 3 ?_;refine aks (fun _ hw => dz (c := y) rfl akt ((HS3.out.below (aU HS3) hw).range)) ?_;refine bQ ake (fun _ => aB call147 rfl (evc akt evn)) (bz aj fun w' hw => adV y w' HI HM) ?_;simp only [aa];refine cC 1 ?_;refine aks (fun _ hw => uQ rfl akt) ?_;refine aks (fun _ hw => iO HLL rfl akt (aQ (HR3.out.below HR3.out.lt hw))) ?_;refine aks (fun _ hw => rv false HFL HLL rfl akt akt HD) ?_;refine cC 1 ?_;refine wpQuiet_nil ?_;intro w4 hw;have HW4 := ae (HW3.out.keep hw);have HR4 := ae HW4.out.res;have HB4 := ae HW4.out.bel;clear HW3 HS3 HR3 hw;go_wp2_with (first | (refine aw rfl (kO rfl) ?_) | (refine aG rfl (ez (c := cG) rfl rfl rfl ?_) ?_; (with_reducible exact HR4.out)) | fail);refine bodyPost_ret (lU (t := 198) (cs := bD cG) rfl _ _ _ rfl ?h1 underlying198 rfl ?h2) rfl ⟨rfl, ?h3⟩
 case h1 => exact World.rangeAt_setCells_same _ _ _ _ (by rw [a8]; exact HR4)
 case h2 => rw [a8]; exact kj
 case h3 => exact below_setCells HB4 (Nat.le_succ _) _
theorem aaR (b : Blk) (w : World) (T : Tab w) (h0 : fp b.toList = 0) (hev : evB (im b.toList) = true) (hm : gQ (cQ (eK b.toList)) = true) (hd : dU (cQ (eK b.toList)) = eK b.toList) : Calls prog 159 #[blk b] w fun e w' => e = .returned (.tuple #[.int .u64 (im b.toList : Nat), sup (cQ (eK b.toList)), .int .i64 (0 : Nat)]) /\ Below w.heap.size w w' := by
 obtain ⟨n, hn⟩ : ∃ n, im b.toList = n := ⟨_, rfl⟩;obtain ⟨l, hl⟩ : ∃ l, eK b.toList = l := ⟨_, rfl⟩;have h1 := (Below.refl w.heap.size w).alloc aj (.cells (cel b).toArray 44);have h2 := h1.alloc h1.size (.cells (bD cG).toArray 198);have HA : Hid (((w.alloc (.cells (cel b).toArray 44)).alloc (.cells (bD cG).toArray 198)).rangeAt w.heap.size 0 (cel b)) := ae (World.rangeAt_alloc (dQ w (cel b) 44) _);have hsn := cZ.new (w.alloc (.cells (cel b).toArray 44)) cG;rw [World.size_alloc] at hsn;have HR := ae (dY (o := 0) (n := 23) hsn (by rw [a8]; exact aj));have HZ := ae (aU hsn);have HB := ae h2;have HT := ae (T.below h2);have HN := ae hn;have HL := ae hl;clear h1 h2 hsn T;rw [hn] at hev;rw [hl] at hm hd;have HEV := ae hev;have HM0 := ae hm;have HD0 : Hid (decide (dU (cQ l) = l) = true) := ae (ao hd);clear hev hm hd;clear hn hl;go_enter func159, ntmps159;go_wp2_with (first | (refine aw rfl (cY rfl rfl) ?_) | (refine aw rfl (cp rfl) ?_) | (refine aw rfl (bI (c := b) rfl rfl ?_) ?_; (with_reducible exact HA.out)) | fail)
 try simp only [World.size_alloc]
 generalize (w.alloc (.cells (cel b).toArray 44)).alloc (.cells (bD cG).toArray 198) = w0 at *;refine (ke b _ w0 (ae rfl) HT).mono ?_;rintro e w1 ⟨v, rfl, hv, hb⟩;rw [HN.out];rw [h0];have hll : l.length = 44 := by rw [<- HL.out]; exact lH h0
 have HLL := ae hll;rw [HL.out] at hv;obtain ⟨g, hve, hrow⟩ : ∃ g, v = .slice (some ⟨g, 0, none⟩) 44 44 /\ cJ w1 g 5 l := by
  rcases hv with ⟨_, rfl⟩ | ⟨g, e, _, hr, _⟩
  ·simp at hll
  ·rw [hll] at e; exact ⟨g, e, hr⟩
 subst hve;have HR1 := ae (ci HR HZ hb);have HB1 := ae (HB.out.trans (hb.mono HB.out.size));have HZ1 : Hid (w.heap.size + 1 < w1.heap.size) := ae (au HZ hb.size);have HRW := ae hrow;clear hv hb HA HR HB HZ hll h0 hrow;go_wp2_with fail;refine (xS g l w1 HLL HRW).mono ?_;rintro e w2 ⟨rfl, hb⟩;have hb3 := hb.alloc hb.size (.cells (bD (cQ l)).toArray 198);have HW3 : Hid (SgW w (w2.alloc (.cells (bD (cQ l)).toArray 198)) b g w2.heap.size l (cQ l)) := ae ⟨HRW.out.below HRW.out.lt hb3, cZ.new w2 _, ci HR1 HZ1 hb3, HB1.out.trans (hb3.mono HB1.out.size), au HZ1 hb3.size⟩;have HI : Hid ((cQ l).id < 18446744073709551616) := ae (jC (by rw [HLL.out]; omega));clear hb hb3 HRW HR1 HB1 HZ1;obtain ⟨y, hy⟩ : ∃ y, cQ l = y := ⟨_, rfl⟩;have HY := ae hy;rw [hy] at HW3 HI HM0 HD0;have HM := HM0;have HD := HD0;rw [hy];clear hy;have HFL := ae (dp y);go_upto_region 5 with (first | (refine aw rfl (cp rfl) ?_) | (refine aG rfl (er rfl rfl rfl) ?_) | fail);generalize w2.alloc (.cells (bD y).toArray 198) = w3 at *;have HS3 := ae HW3.out.sup;have HR3 := ae HW3.out.row;generalize w2.heap.size = s at *;refine aS (B := w3.heap.size) (by kernel_rfl) ?_;refine cC 1 ?_;refine bQ rfl (fun _ => aB call145 rfl (evc akt evn)) (bz aj fun w' hw => ma n w' HEV) ?_;simp only [aa];refine cC 2 ?_;refine aks (fun _ hw => dz (c := y) rfl akt ((HS3.out.below (aU HS3) hw).range)) ?_;refine bQ ake (fun _ => aB call146 rfl (evc akt evn)) (bz aj fun w' hw => ss y w' HM) ?_;simp only [aa];refine cC 3 ?_;refine aks (fun _ hw => dz (c := y) rfl akt ((HS3.out.below (aU HS3) hw).range)) ?_;refine bQ ake (fun _ => aB call147 rfl (evc akt evn)) (bz aj fun w' hw => adV y w' HI HM) ?_;simp only [aa];refine cC 1 ?_;refine aks (fun _ hw => uQ rfl akt) ?_;refine aks (fun _ hw => iO HLL rfl akt (aQ (HR3.out.below HR3.out.lt hw))) ?_;refine aks (fun _ hw => rv true HFL HLL rfl akt akt HD) ?_;refine cC 1 ?_;refine wpQuiet_nil ?_;intro w4 hw;have HW4 := ae (HW3.out.keep hw);have HR4 := ae HW4.out.res;have HB4 := ae HW4.out.bel;have HLD := ae HW4.out.sup.range;clear HW3 HS3 HR3 hw;go_wp2_with fail;refine wp_region_still_tail 3 (by kernel_rfl) (by kernel_rfl) ?_;simp only [ac];refine aP rfl (aM rfl akt) ?_;simp only [aa];refine aP rfl (dz (c := y) rfl akt HLD) ?_;simp only [aa];refine aP rfl (dX rfl akt) ?_;simp only [aa];refine wpStill_nil ?_;change wpList _ _ _ _ _ (World.drew _);refine bN rfl (ez (c := y) rfl (ev rfl) (ev rfl) HR4.out) ?_;simp only [aa];refine aF 1 ?_;go_wp2_with fail;refine bodyPost_ret (lU (t := 198) (cs := bD y) rfl _ _ _ rfl ?h1 underlying198 rfl ?h2) rfl ⟨by rw [HN.out, HL.out, HY.out]; rfl, ?h3⟩
 case h1 => exact World.rangeAt_setCells_same _ _ _ _ (by rw [a8]; exact HR4)
 case h2 => rw [a8]; exact kj
 case h3 => exact below_setCells (bd HB4) (Nat.le_succ _) _
theorem xO (b : Blk) (w : World) (T : Tab w) : Calls prog 159 #[blk b] w fun e w' => e = .returned (.tuple #[.int .u64 (gsN b : Nat), sup (gsS b), .int .i64 (gsE b : Nat)]) /\ Below w.heap.size w w' := by
 by_cases h0 : fp b.toList = 0
 ·by_cases hev : evB (im b.toList) = true
  ·by_cases hm : gQ (cQ (eK b.toList)) = true
   ·by_cases hd : dU (cQ (eK b.toList)) = eK b.toList
    ·have hE := aiu h0 ⟨hev, hm, hd⟩;rw [ah8 hE, ahu hE, hE];exact aaR b w T h0 hev hm hd
    ·have hE := oW h0 (fun h => hd h.2.2);rw [sy (by omega), rX (by omega), hE];exact abM b w T h0 hev hm hd
   ·have hE := oW h0 (fun h => hm h.2.1);rw [sy (by omega), rX (by omega), hE];exact zE b w T h0 hev (by simpa using hm)
  ·have hE := oW h0 (fun h => hev h.1);rw [sy (by omega), rX (by omega), hE];exact aa1 b w T h0 (by simpa using hev)
 ·have hE := adq h0;rw [sy (by omega), rX (by omega), hE];exact wl b w T h0
def w3_ (w : World) (a b : Blk) : World := ((w.alloc (.cells (cel a).toArray 44)).alloc (.cells (cel b).toArray 44)).alloc (.cells (bD cG).toArray 198)
theorem qY (w : World) (a b : Blk) : (w3_ w a b).rangeAt w.heap.size 0 (cel a) /\ (w3_ w a b).rangeAt (w.heap.size + 1) 0 (cel b) /\ (w3_ w a b).there (w.heap.size + 1 + 1) 0 23 /\ Below w.heap.size w (w3_ w a b) /\ w.heap.size + 1 + 1 < (w3_ w a b).heap.size := by
 unfold w3_;have e1 := World.size_alloc (w := w) (o := Obj.cells (cel a).toArray 44);have e2 := World.size_alloc (w := (w.alloc (.cells (cel a).toArray 44))) (o := Obj.cells (cel b).toArray 44);have h3 := cZ.new ((w.alloc (.cells (cel a).toArray 44)).alloc (.cells (cel b).toArray 44)) cG;rw [e2, e1] at h3;refine ⟨World.rangeAt_alloc (World.rangeAt_alloc (dQ w (cel a) _) _) _, ?_, dY (o := 0) (n := 23) h3 (by rw [a8]; exact aj), ?_, aU h3⟩
 ·rw [<- e1]; exact World.rangeAt_alloc (dQ _ (cel b) _) _
 ·exact (((Below.refl _ w).alloc aj _).alloc (by omega) _).alloc (by omega) _
theorem uq {fn : Func} {p q u : Tmp} {t : TypeId} {cs : List Value} {d : TypeDesc} (h : fn.results = #[.tmp p, .tmp u, .cell q t]) (tmps : Array Value) (w : World) (b : Nat) (hq : tmps.getD q undef = .pointer (some ⟨b, 0, none⟩)) (hr : w.rangeAt b 0 cs) (hu : prog.underlying t = some d) (hd : d.isRow = true) (hz : (prog.info? t).map (·.size) = some cs.length) :
  (results fn tmps).run prog w = .ok (.tuple #[tmps.getD p undef, tmps.getD u undef, .agg cs.toArray]) w := by
 have hl : (loadVar t ⟨b, 0, none⟩).run prog w = .ok (.agg cs.toArray) w := run_loadVar_mid (P := prog) w b 0 t cs d hr hu hd hz;have hq' : tmps[q]?.getD undef = .pointer (some ⟨b, 0, none⟩) := by simpa using hq
 simp [results, h, hq', asAddr, hl]
theorem oh {w : World} {b : Nat} (c : Sup) (h : w.there b 0 23) : (w.setCells b 0 (bD c)).rangeAt b 0 (bD c) := World.rangeAt_setCells_same _ _ _ _ (by rw [a8]; exact h)
def nwW (a b : Blk) : Nat := if gsN a < gsN b then 1 else 0
theorem aaa (a b : Blk) (w : World) (T : Tab w) (hlt : gsN a < gsN b) : Calls prog 149 #[blk a, blk b] w fun e w' => e = .returned (.tuple #[.int .i64 1, .int .u64 (gsN b : Nat), sup (gsS b)]) /\ Below w.heap.size w w' := by
 obtain ⟨h1, h2, h3, h4, h5⟩ := qY w a b;unfold w3_ at h1 h2 h3 h4 h5;obtain ⟨x, hx⟩ : ∃ x, gsN a = x := ⟨_, rfl⟩;obtain ⟨y, hy⟩ : ∃ y, gsN b = y := ⟨_, rfl⟩;rw [hx, hy] at hlt;obtain ⟨p, hp⟩ : ∃ p, gsS a = p := ⟨_, rfl⟩;obtain ⟨q, hq⟩ : ∃ q, gsS b = q := ⟨_, rfl⟩;have HX := ae hx;have HY := ae hy;have HP := ae hp;have HQ := ae hq;have HA := ae h1;have HBK := ae h2;have HR := ae h3;have HB := ae h4;have HZ := ae h5;have HT := ae T;clear h1 h2 h3 h4 h5 T hx hy hp hq;go_enter func149, ntmps149;go_wp2_with (first | (refine aw rfl (cY rfl rfl) ?_) | (refine aw rfl (cp rfl) ?_) | (refine aw rfl (bI (c := a) rfl rfl ?_) ?_; (with_reducible exact HA.out)) | fail)
 try simp only [World.size_alloc]
 generalize ((w.alloc (.cells (cel a).toArray 44)).alloc (.cells (cel b).toArray 44)).alloc (.cells (bD cG).toArray 198) = w0 at *;refine (xO a w0 (HT.out.below HB)).mono ?_;rintro e w1 ⟨rfl, hb⟩;have HBK1 := ae (World.rangeAt_setCells_apart (fJ HBK (by have := HZ.out; omega) hb) (w.heap.size + 1 + 1) 0 (bD (gsS a)) (.inl (by omega)));have HR1 := ae (ci HR HZ hb);have hb1 := HB.out.trans (hb.mono HB.out.size);have HB1 := ae (below_setCells (b := w.heap.size + 1 + 1) (o := 0) hb1 (by omega) (bD (gsS a)));have HPR := ae (oh (gsS a) HR1);have HR2 := ae (World.there_setCells HR1 (w.heap.size + 1 + 1) 0 (bD (gsS a)));have HZ1 : Hid (w.heap.size + 1 + 1 < (w1.setCells (w.heap.size + 1 + 1) 0 (bD (gsS a))).heap.size) := ae (by rw [size_setCells]; exact au HZ hb.size);rw [HP.out] at HBK1 HB1 HPR HR2 HZ1;rw [HX.out, HP.out];clear hb hb1 HBK HR HB HA HZ;go_upto_region 2 with (first | (refine aG rfl (ez (c := p) rfl rfl rfl ?_) ?_; (with_reducible exact HR1.out)) | fail);generalize w1.setCells (w.heap.size + 1 + 1) 0 (bD p) = w2 at *;go_wp2_with (first | (refine aw rfl (bI (c := b) rfl rfl ?_) ?_; (with_reducible exact HBK1.out)) | fail);refine (xO b w2 (HT.out.below HB1)).mono ?_;rintro e w3 ⟨rfl, hb⟩;have hb3 := hb.alloc hb.size (.cells (bD (gsS b)).toArray 198);have HPR3 := ae (fJ HPR HZ1 hb3);have HR3 := ae (ci HR2 HZ1 hb3);have HB3 := ae (HB1.out.trans (hb3.mono HB1.out.size));have HQR3 := ae (cZ.new w3 (gsS b)).range;rw [HQ.out] at HPR3 HR3 HB3 HQR3;rw [HY.out, HQ.out];clear hb hb3 HBK1 HPR HR2 HB1 HR1 HZ1;have hd : decide ((x : Int) < (y : Int)) = true := by simp; omega
 have hd2 : decide (x < y) = true := by simp; omega
 clear hlt;go_upto_region 4 with (first | (refine aw rfl (cp rfl) ?_) | (refine aG rfl (er rfl rfl rfl) ?_) | fail);generalize w3.alloc (.cells (bD q).toArray 198) = w4 at *;go_wp2_with fail;refine wp_region_still_tail 4 (by kernel_rfl) (by kernel_rfl) ?_;simp only [ac];refine aP rfl (aM rfl akt) ?_;simp only [aa];refine aP rfl (dz (c := q) rfl akt HQR3) ?_;simp only [aa];refine aP rfl (dX rfl evk) ?_;simp only [aa];refine aP rfl (dX rfl akt) ?_;simp only [aa];refine wpStill_nil ?_;change wpList _ _ _ _ _ (World.drew _);refine bN rfl (ez (c := q) rfl (ev rfl) (ev rfl) HR3.out) ?_;simp only [aa];refine ah ?_;go_wp2_with fail;refine bodyPost_ret (uq (t := 198) (cs := bD q) rfl _ _ _ rfl ?h1 underlying198 rfl ?h2) rfl ⟨by rw [HY.out, HQ.out]; rfl, ?h3⟩
 case h1 => exact World.rangeAt_setCells_same _ _ _ _ (by rw [a8]; exact HR3)
 case h2 => rw [a8]; exact kj
 case h3 => exact below_setCells (bd HB3) (by omega) _
theorem aaj (a b : Blk) (w : World) (T : Tab w) (hlt : ¬ gsN a < gsN b) : Calls prog 149 #[blk a, blk b] w fun e w' => e = .returned (.tuple #[.int .i64 0, .int .u64 (gsN a : Nat), sup (gsS a)]) /\ Below w.heap.size w w' := by
 obtain ⟨h1, h2, h3, h4, h5⟩ := qY w a b;unfold w3_ at h1 h2 h3 h4 h5;obtain ⟨x, hx⟩ : ∃ x, gsN a = x := ⟨_, rfl⟩;obtain ⟨y, hy⟩ : ∃ y, gsN b = y := ⟨_, rfl⟩;rw [hx, hy] at hlt;obtain ⟨p, hp⟩ : ∃ p, gsS a = p := ⟨_, rfl⟩;obtain ⟨q, hq⟩ : ∃ q, gsS b = q := ⟨_, rfl⟩;have HX := ae hx;have HY := ae hy;have HP := ae hp;have HQ := ae hq;have HA := ae h1;have HBK := ae h2;have HR := ae h3;have HB := ae h4;have HZ := ae h5;have HT := ae T;clear h1 h2 h3 h4 h5 T hx hy hp hq;go_enter func149, ntmps149;go_wp2_with (first | (refine aw rfl (cY rfl rfl) ?_) | (refine aw rfl (cp rfl) ?_) | (refine aw rfl (bI (c := a) rfl rfl ?_) ?_; (with_reducible exact HA.out)) | fail)
 try simp only [World.size_alloc]
 generalize ((w.alloc (.cells (cel a).toArray 44)).alloc (.cells (cel b).toArray 44)).alloc (.cells (bD cG).toArray 198) = w0 at *;refine (xO a w0 (HT.out.below HB)).mono ?_;rintro e w1 ⟨rfl, hb⟩;have HBK1 := ae (World.rangeAt_setCells_apart (fJ HBK (by have := HZ.out; omega) hb) (w.heap.size + 1 + 1) 0 (bD (gsS a)) (.inl (by omega)));have HR1 := ae (ci HR HZ hb);have hb1 := HB.out.trans (hb.mono HB.out.size);have HB1 := ae (below_setCells (b := w.heap.size + 1 + 1) (o := 0) hb1 (by omega) (bD (gsS a)));have HPR := ae (oh (gsS a) HR1);have HR2 := ae (World.there_setCells HR1 (w.heap.size + 1 + 1) 0 (bD (gsS a)));have HZ1 : Hid (w.heap.size + 1 + 1 < (w1.setCells (w.heap.size + 1 + 1) 0 (bD (gsS a))).heap.size) := ae (by rw [size_setCells]; exact au HZ hb.size);rw [HP.out] at HBK1 HB1 HPR HR2 HZ1;rw [HX.out, HP.out];clear hb hb1 HBK HR HB HA HZ;go_upto_region 2 with (first | (refine aG rfl (ez (c := p) rfl rfl rfl ?_) ?_; (with_reducible exact HR1.out)) | fail);generalize w1.setCells (w.heap.size + 1 + 1) 0 (bD p) = w2 at *;go_wp2_with (first | (refine aw rfl (bI (c := b) rfl rfl ?_) ?_; (with_reducible exact HBK1.out)) | fail);refine (xO b w2 (HT.out.below HB1)).mono ?_;rintro e w3 ⟨rfl, hb⟩;have hb3 := hb.alloc hb.size (.cells (bD (gsS b)).toArray 198);have HPR3 := ae (fJ HPR HZ1 hb3);have HR3 := ae (ci HR2 HZ1 hb3);have HB3 := ae (HB1.out.trans (hb3.mono HB1.out.size));have HQR3 := ae (cZ.new w3 (gsS b)).range;rw [HQ.out] at HPR3 HR3 HB3 HQR3;rw [HY.out, HQ.out];clear hb hb3 HBK1 HPR HR2 HB1 HR1 HZ1;have hd : decide ((x : Int) < (y : Int)) = false := by simp; omega
 have hd2 : decide (x < y) = false := by simp; omega
 clear hlt;go_upto_region 5 with (first | (refine aw rfl (cp rfl) ?_) | (refine aG rfl (er rfl rfl rfl) ?_) | fail);generalize w3.alloc (.cells (bD q).toArray 198) = w4 at *;go_wp2_with fail;refine wp_region_still_tail 4 (by kernel_rfl) (by kernel_rfl) ?_;simp only [ac];refine aP rfl (aM rfl akt) ?_;simp only [aa];refine aP rfl (dz (c := p) rfl akt HPR3) ?_;simp only [aa];refine aP rfl (dX rfl evk) ?_;simp only [aa];refine aP rfl (dX rfl akt) ?_;simp only [aa];refine wpStill_nil ?_;change wpList _ _ _ _ _ (World.drew _);refine bN rfl (ez (c := p) rfl (ev rfl) (ev rfl) HR3.out) ?_;simp only [aa];refine ah ?_;go_wp2_with fail;refine bodyPost_ret (uq (t := 198) (cs := bD p) rfl _ _ _ rfl ?h1 underlying198 rfl ?h2) rfl ⟨by rw [HX.out, HP.out]; rfl, ?h3⟩
 case h1 => exact World.rangeAt_setCells_same _ _ _ _ (by rw [a8]; exact HR3)
 case h2 => rw [a8]; exact kj
 case h3 => exact below_setCells (bd HB3) (by omega) _
theorem afO (a b : Blk) (w : World) (T : Tab w) : Calls prog 149 #[blk a, blk b] w fun e w' => e = .returned (.tuple #[.int .i64 (nwW a b : Nat), .int .u64 (nwN a b : Nat), sup (nwS a b)]) /\ Below w.heap.size w w' := by
 unfold nwW nwN nwS;by_cases hlt : gsN a < gsN b
 ·rw [if_pos hlt, if_pos hlt, if_pos hlt];exact aaa a b w T hlt
 ·rw [if_neg hlt, if_neg hlt, if_neg hlt];exact aaj a b w T hlt
theorem af5 (w : World) (a b : Blk) : ((w.alloc (.cells (cel a).toArray 44)).alloc (.cells (cel b).toArray 44)).rangeAt w.heap.size 0 (cel a) /\ ((w.alloc (.cells (cel a).toArray 44)).alloc (.cells (cel b).toArray 44)).rangeAt (w.heap.size + 1) 0 (cel b) /\ Below w.heap.size w ((w.alloc (.cells (cel a).toArray 44)).alloc (.cells (cel b).toArray 44)) /\ w.heap.size + 1 < ((w.alloc (.cells (cel a).toArray 44)).alloc (.cells (cel b).toArray 44)).heap.size := by
 have e1 := World.size_alloc (w := w) (o := Obj.cells (cel a).toArray 44);refine ⟨World.rangeAt_alloc (dQ w (cel a) _) _, ?_, ?_, by simp only [World.size_alloc]; omega⟩
 ·rw [<- e1]; exact dQ _ (cel b) _
 ·exact ((Below.refl _ w).alloc aj _).alloc (by omega) _
theorem adZ (a b : Blk) : mD a b = if nwN a b ≠ 0 /\ nwW a b = 0 then 1 else 0 := by
 unfold mD nwN nwW;by_cases h : gsN a < gsN b
 ·rw [if_pos h, if_pos h, if_neg (by omega), if_neg (by omega)]
 ·rw [if_neg h, if_neg h];by_cases h0 : gsN a ≠ 0
  ·rw [if_pos ⟨h0, h⟩, if_pos ⟨h0, rfl⟩]
  ·rw [if_neg (by omega), if_neg (by omega)]
theorem aea (a b : Blk) : nwW a b = 0 \/ nwW a b = 1 := by unfold nwW; split <;> omega
theorem aiH (a b : Blk) (w : World) (T : Tab w) : Calls prog 143 #[blk a, blk b] w fun e w' => e = .returned (.int .i64 (mD a b : Nat)) /\ Below w.heap.size w w' := by
 obtain ⟨h1, h2, h4, h5⟩ := af5 w a b;have HSL := ae (adZ a b);have h2w := aea a b;obtain ⟨n, hn⟩ : ∃ n, nwN a b = n := ⟨_, rfl⟩;obtain ⟨k, hk⟩ : ∃ k, nwW a b = k := ⟨_, rfl⟩;obtain ⟨p, hp⟩ : ∃ p, nwS a b = p := ⟨_, rfl⟩;rw [hn, hk] at HSL;rw [hk] at h2w;have HA := ae h1;have HBK := ae h2;have HB := ae h4;have HT := ae (T.below h4);have HN := ae hn;have HK := ae hk;have HP := ae hp;clear h1 h2 h4 h5 T hn hk hp;go_enter func143, ntmps143;go_wp2_with (first | (refine aw rfl (cY rfl rfl) ?_) | (refine aw rfl (bI (c := a) rfl rfl ?_) ?_; (with_reducible exact HA.out)) | (refine aw rfl (bI (c := b) rfl rfl ?_) ?_; (with_reducible exact HBK.out)) | fail);refine (afO a b _ HT).mono ?_;rintro e w1 ⟨rfl, hb⟩;rw [HN.out, HK.out, HP.out];have hb1 := HB.out.trans (hb.mono HB.out.size);have HB1 := ae (hb1.alloc hb1.size (.cells (bD p).toArray 198));clear hb hb1 HA HBK HB HT;by_cases hn0 : n = 0
 ·subst hn0;rw [if_neg (by omega)] at HSL;go_wp2_with (first | (refine aw rfl (cp rfl) ?_) | (refine aG rfl (er rfl rfl rfl) ?_) | fail);go_ret;exact ⟨by rw [HSL.out]; rfl, HB1⟩
 ·have hne : ((n : Int) != 0) = true := by simp; omega
  rcases h2w with rfl | rfl
  ·rw [if_pos ⟨hn0, rfl⟩] at HSL;clear hn0;go_wp2_with (first | (refine aw rfl (cp rfl) ?_) | (refine aG rfl (er rfl rfl rfl) ?_) | fail);go_ret;exact ⟨by rw [HSL.out]; rfl, HB1⟩
  ·rw [if_neg (by omega)] at HSL;clear hn0;go_wp2_with (first | (refine aw rfl (cp rfl) ?_) | (refine aG rfl (er rfl rfl rfl) ?_) | fail);go_ret;exact ⟨by rw [HSL.out]; rfl, HB1⟩
def same (a b : List UInt8) : Bool := a == b
theorem rQ (x : Ros) (m : Int) (w : World) : Calls prog 115 #[ros x, .int .i64 m] w fun e w' => e = .returned (.bool (eQ x m)) /\ Below w.heap.size w w' := by
 obtain ⟨h1, h2, h3⟩ := db w x;have HR := ae h1;have HB := ae h2;have HC := ae h1.cells.1;clear h1 h2 h3;have HF : Hid (eQ x m = decide (0 <= m /\ m < x.m)) := ae rfl;go_enter func115, ntmps115;go_upto_region 1 with (first | (refine aw rfl (a6 rfl rfl) ?_) | fail);generalize w.alloc (.cells (aZ x).toArray 58) = w1 at *;generalize x.m = k at *;by_cases h0 : 0 <= m
 ·have H0 : Hid (decide ((0 : Int) <= m) = true) := ae (ao h0);refine aI 1 ?_;refine akj (dD true rfl akt evk H0) ?_;refine runs 2 ?_;refine akq (ax rfl akt pz) ?_;refine akq (ax rfl akt oP) ?_;refine akq (aD rfl akt (cd HC)) ?_;by_cases h1 : m < k
  ·have H1 : Hid (decide (m < k) = true) := ae (ao h1);have HE : Hid (eQ x m = true) := ae (by rw [HF.out, ao ⟨h0, h1⟩]);clear h0 h1;refine akq (aY true rfl akt akt H1) ?_;refine aF 2 ?_;go_wp2_with fail;go_ret;exact ⟨bf (by rw [HE.out]), HB⟩
  ·have H1 : Hid (decide (m < k) = false) := ae (am h1);have HE : Hid (eQ x m = false) := ae (by rw [HF.out, am (fun e => h1 e.2)]);clear h0 h1;refine akq (aY false rfl akt akt H1) ?_;refine aF 2 ?_;go_wp2_with fail;go_ret;exact ⟨bf (by rw [HE.out]), HB⟩
 ·have H0 : Hid (decide ((0 : Int) <= m) = false) := ae (am h0);have HE : Hid (eQ x m = false) := ae (by rw [HF.out, am (fun e => h0 e.1)]);clear h0;refine aI 1 ?_;refine akj (dD false rfl akt evk H0) ?_;refine a7 5 rfl (aM rfl akt) (by kernel_rfl) ?_;simp only [bL, ac, aa];refine aF 2 ?_;go_wp2_with fail;go_ret;exact ⟨bf (by rw [HE.out]), HB⟩
theorem yz (x : Ros) (m : Int) (w : World) : Calls prog 117 #[ros x, .int .i64 m] w fun e w' => e = .returned (.bool (kS x m)) /\ Below w.heap.size w w' := by
 obtain ⟨h1, h2, h3⟩ := db w x;have HR := ae h1;have HB := ae h2;have HC := ae h1.cells.2.1;clear h1 h2 h3;have HF : Hid (kS x m = decide (0 <= m /\ m < x.s)) := ae rfl;go_enter func117, ntmps117;go_upto_region 1 with (first | (refine aw rfl (a6 rfl rfl) ?_) | fail);generalize w.alloc (.cells (aZ x).toArray 58) = w1 at *;generalize x.s = k at *;by_cases h0 : 0 <= m
 ·have H0 : Hid (decide ((0 : Int) <= m) = true) := ae (ao h0);refine aI 1 ?_;refine akj (dD true rfl akt evk H0) ?_;refine runs 2 ?_;refine akq (ax rfl akt pz) ?_;refine akq (ax rfl akt acd) ?_;refine akq (aD rfl akt (cd HC)) ?_;by_cases h1 : m < k
  ·have H1 : Hid (decide (m < k) = true) := ae (ao h1);have HE : Hid (kS x m = true) := ae (by rw [HF.out, ao ⟨h0, h1⟩]);clear h0 h1;refine akq (aY true rfl akt akt H1) ?_;refine aF 2 ?_;go_wp2_with fail;go_ret;exact ⟨bf (by rw [HE.out]), HB⟩
  ·have H1 : Hid (decide (m < k) = false) := ae (am h1);have HE : Hid (kS x m = false) := ae (by rw [HF.out, am (fun e => h1 e.2)]);clear h0 h1;refine akq (aY false rfl akt akt H1) ?_;refine aF 2 ?_;go_wp2_with fail;go_ret;exact ⟨bf (by rw [HE.out]), HB⟩
 ·have H0 : Hid (decide ((0 : Int) <= m) = false) := ae (am h0);have HE : Hid (kS x m = false) := ae (by rw [HF.out, am (fun e => h0 e.1)]);clear h0;refine aI 1 ?_;refine akj (dD false rfl akt evk H0) ?_;refine a7 5 rfl (aM rfl akt) (by kernel_rfl) ?_;simp only [bL, ac, aa];refine aF 2 ?_;go_wp2_with fail;go_ret;exact ⟨bf (by rw [HE.out]), HB⟩
theorem abO (x : Ros) (c : Int) (w : World) : Calls prog 116 #[ros x, .int .u8 c] w fun e w' => e = .returned (.int .i64 (many x c : Nat)) /\ Below w.heap.size w w' := by
 obtain ⟨h1, h2, h3⟩ := db w x;have HR := ae h1;have HB := ae h2;clear h1 h2 h3;have HL := ae (jN x.st);have HH := ae (adS x c);go_enter func116, ntmps116;go_wp2_with (first | (refine aw rfl (a6 rfl rfl) ?_) | (refine aw rfl (eh HL.out rfl rfl ?_) ?_; (with_reducible exact HR.out.sts)) | fail);generalize w.alloc (.cells (aZ x).toArray 58) = w1 at *;generalize x.st.toList = l at *
 go_loop [5, 10] (fun n i => ∃ j : Nat, j <= 16 /\ i = .int .i64 j /\ n = .int .i64 (mI l c j : Nat)) (fun _ i => 16 - (intOf i).toNat)
 case atStart => exact ⟨0, Nat.zero_le _, rfl, rfl⟩
 case round =>
  obtain ⟨j, hj, rfl, rfl⟩ := hrel;by_cases hlt : j < 16
  ·have hs := ae (f7 l c j);have hle := xZ l c j;generalize mI l c j = n at *;by_cases h2 : bt l j = c
   ·rw [if_pos h2] at hs;have hd : (bt l j == c) = true := by simpa using h2
    clear h2;go_wp2_with (first | (refine aw rfl (eF (l := l) (j := j) HL hlt rfl rfl rfl) ?_) | fail)
    go_round
    case rel => exact ⟨j + 1, by omega, by go_num, by rw [hs.out]; go_num⟩
    case measure => simp [intOf]; omega
   ·rw [if_neg h2] at hs;have hd : (bt l j == c) = false := by simpa using h2
    clear h2;go_wp2_with (first | (refine aw rfl (eF (l := l) (j := j) HL hlt rfl rfl rfl) ?_) | fail)
    go_round
    case rel => exact ⟨j + 1, by omega, by go_num, by rw [hs.out, Nat.add_zero]⟩
    case measure => simp [intOf]; omega
  ·have e : j = 16 := by omega
   subst e;go_wp2;go_ret;exact ⟨by rw [HH.out]; rfl, HB⟩
theorem afc (x : Ros) (w : World) : Calls prog 79 #[ros x] w fun e w' => e = .returned (.bool (uI x)) /\ Below w.heap.size w w' := by
 obtain ⟨h1, h2, h3⟩ := db w x;have HR := ae h1;have HB := ae h2;have HZ := ae h3;clear h1 h2 h3;have HC : Hid (uI x = if many x 2 = 0 then decide (x.cur = 0) else kS x x.cur) := ae (by rw [<- ig]; rfl);go_enter func79, ntmps79;go_wp2_with (first | (refine aw rfl (a6 rfl rfl) ?_) | (refine aw rfl (bi (c := x) rfl rfl ?_) ?_; (with_reducible exact HR.out.range)) | fail);generalize w.alloc (.cells (aZ x).toArray 58) = w1 at *;refine (abO x 2 w1).mono ?_;rintro e w2 ⟨rfl, hb⟩;have HR2 := ae (HR.out.below HZ hb);obtain ⟨c0, c1, c2, c3, c4⟩ := HR2.out.cells;have HB2 := ae (HB.out.trans (hb.mono (Nat.le_of_lt HZ)));have HZ2 := ae (aU HR2);clear hb;by_cases h0 : many x 2 = 0
 ·rw [if_pos h0] at HC;rw [h0];go_wp2;go_ret;exact ⟨bf (by rw [HC.out, Bool.eq_iff_iff]; simp), HB2⟩
 ·rw [if_neg h0] at HC;have hd : ((many x 2 : Int) == 0) = false := by simp; omega
  clear h0;generalize many x 2 = n at *;go_wp2_with (first | (refine aw rfl (bi (c := x) rfl rfl ?_) ?_; (with_reducible exact HR2.out.range)) | fail);refine (yz x x.cur w2).mono ?_;rintro e w3 ⟨rfl, hb⟩;have HB3 := ae (HB2.out.trans (hb.mono (Nat.le_of_lt HZ2)));clear hb;go_wp2_with fail;go_ret;exact ⟨bf (by rw [HC.out]), HB3⟩
theorem ait {x : Ros} (h1 : ∀ k, k < 16 -> sta x k <= 2) (h2 : ∀ k : Nat, k < 16 -> sta x k ≠ 0 -> eQ x (k : Int) = true) : fO x = true :=
 jq.2 ⟨h1, fun k hk hm => Classical.byContradiction fun h0 => by have := nU (h2 k hk h0); omega⟩
theorem afE {x : Ros} {k : Nat} (hk : k < 16) (h : 2 < sta x k) : fO x = false := Bool.eq_false_iff.2 fun hs => by have := (iK hs).1 k hk; omega
theorem afF {x : Ros} {k : Nat} (hk : k < 16) (h0 : sta x k ≠ 0) (h : eQ x (k : Int) = false) : fO x = false := Bool.eq_false_iff.2 fun hs => by
 have h1 := of_decide_eq_false h;exact h0 ((iK hs).2 k hk (by omega))
theorem adK (x : Ros) (w : World) : Calls prog 78 #[ros x] w fun e w' => e = .returned (.bool (fO x && decide (dG x <= 1))) /\ Below w.heap.size w w' := by
 obtain ⟨h1, h2, h3⟩ := db w x;have HR := ae h1;have HB := ae h2;have HZ := ae h3;clear h1 h2 h3;have HL := ae (jN x.st);have HOK : Hid ((∀ k, k < 16 -> bt x.st.toList k <= 2) -> (∀ k : Nat, k < 16 -> bt x.st.toList k ≠ 0 -> eQ x (k : Int) = true) -> fO x = true) := ae ait;have HBIG : Hid (∀ k, k < 16 -> 2 < bt x.st.toList k -> fO x = false) := ae fun k => afE
 have HFAR : Hid (∀ k : Nat, k < 16 -> bt x.st.toList k ≠ 0 -> eQ x (k : Int) = false -> fO x = false) := ae fun k => afF
 go_enter func78, ntmps78;go_wp2_with (first | (refine aw rfl (a6 rfl rfl) ?_) | (refine aw rfl (eh HL.out rfl rfl ?_) ?_; (with_reducible exact HR.out.sts)) | fail);generalize w.alloc (.cells (aZ x).toArray 58) = w1 at *;have hb0 := HB.out;have hr0 := HR.out;clear HB HR HZ
 go_loopw [7] (fun i wr => ∃ j : Nat, j <= 16 /\ i = .int .i64 j /\ Below w.heap.size w wr /\ bJ wr w.heap.size x /\ (∀ k, k < j -> bt x.st.toList k <= 2) /\ (∀ k : Nat, k < j -> bt x.st.toList k ≠ 0 -> eQ x (k : Int) = true)) (fun i _ => 16 - (intOf i).toNat)
 case atStart => exact ⟨0, Nat.zero_le _, rfl, hb0, hr0, fun k hk => absurd hk (by omega), fun k hk => absurd hk (by omega)⟩
 case round =>
  clear hb0 hr0;obtain ⟨j, hj, rfl, hb, hr, h1, h2⟩ := hrel;have HB := ae hb;have HR := ae hr;have HZ := ae (aU hr);have HA1 := ae h1;have HA2 := ae h2;clear hb hr h1 h2;by_cases hlt : j < 16
  ·have HS : Hid (bt x.st.toList j <= 2 -> ∀ k, k < j + 1 -> bt x.st.toList k <= 2) := ae fun hv k hk => by
    by_cases e : k = j
    ·rw [e]; exact hv
    ·exact HA1.out k (by omega)
   have HT : Hid ((bt x.st.toList j ≠ 0 -> eQ x (j : Int) = true) -> ∀ k : Nat, k < j + 1 -> bt x.st.toList k ≠ 0 -> eQ x (k : Int) = true) := ae fun hv k hk h0 => by
    by_cases e : k = j
    ·rw [e] at h0 ⊢; exact hv h0
    ·exact HA2.out k (by omega) h0
   have HLO := ae (kY x.st.toList j);have HG := ae (HBIG.out j hlt);have HFR := ae (HFAR.out j hlt);clear HOK HBIG HFAR HA1 HA2;obtain ⟨v, hv⟩ : ∃ v, bt x.st.toList j = v := ⟨_, rfl⟩;rw [hv] at HS HT HLO HG HFR;have HV := ae hv;clear hv;by_cases v0 : v = 0
   ·have HN1 := ae (HS.out (by omega));have HN2 := ae (HT.out (fun h => absurd v0 h));have d0 : (v == 0) = true := by simpa using v0
    clear v0;go_wp2_with (first | (refine aw rfl (eF (l := x.st.toList) (j := j) HL hlt rfl rfl rfl) ?_; rw [HV.out]) | fail);go_roundw
    case rel => exact ⟨j + 1, by omega, by go_num, HB, HR, HN1, HN2⟩
    case measure => simp [intOf]; omega
   ·by_cases vb : 2 < v
    ·have HF := ae (HG.out vb);have d0 : (v == 0) = false := by simp; omega
     have d1 : (v == 1) = false := by simp; omega
     have d2 : (v == 2) = false := by simp; omega
     clear v0 vb;go_wp2_with (first | (refine aw rfl (eF (l := x.st.toList) (j := j) HL hlt rfl rfl rfl) ?_; rw [HV.out]) | fail);go_ret;exact ⟨bf (by rw [HF.out]; rfl), HB⟩
    ·have HN1 := ae (HS.out (by omega));have HV0 := ae v0;have d0 : (v == 0) = false := by simpa using v0
     obtain ⟨q, hq⟩ : ∃ q, eQ x (j : Int) = q := ⟨_, rfl⟩;have HQ := ae hq;rw [hq] at HT HFR;clear hq;have hv2 : v = 1 \/ v = 2 := by have := HLO.out; omega
     rcases hv2 with e | e
     ·have d1 : (v == 1) = true := by simpa using e
      clear e v0 vb;go_wp2_with (first | (refine aw rfl (eF (l := x.st.toList) (j := j) HL.out hlt rfl rfl rfl) ?_; rw [HV.out]) | (refine aw rfl (bi (c := x) rfl rfl ?_) ?_; (with_reducible exact HR.out.range)) | fail);refine (rQ x (j : Int) wr).mono ?_;rintro e w3 ⟨rfl, hb⟩;rw [HQ.out];have HB3 := ae (HB.out.trans (hb.mono (Nat.le_of_lt HZ)));have HR3 := ae (HR.out.below HZ hb);clear hb HR HB HZ;cases q
      ·have HF := ae (HFR.out HV0 rfl);go_wp2_with fail;go_ret;exact ⟨bf (by rw [HF.out]; rfl), HB3⟩
      ·have HN2 := ae (HT.out (fun _ => rfl));go_wp2_with fail;go_roundw
       case rel => exact ⟨j + 1, by omega, by go_num, HB3, HR3, HN1, HN2⟩
       case measure => simp [intOf]; omega
     ·have d1 : (v == 1) = false := by simp; omega
      have d2 : (v == 2) = true := by simpa using e
      clear e v0 vb;go_wp2_with (first | (refine aw rfl (eF (l := x.st.toList) (j := j) HL.out hlt rfl rfl rfl) ?_; rw [HV.out]) | (refine aw rfl (bi (c := x) rfl rfl ?_) ?_; (with_reducible exact HR.out.range)) | fail);refine (rQ x (j : Int) wr).mono ?_;rintro e w3 ⟨rfl, hb⟩;rw [HQ.out];have HB3 := ae (HB.out.trans (hb.mono (Nat.le_of_lt HZ)));have HR3 := ae (HR.out.below HZ hb);clear hb HR HB HZ;cases q
      ·have HF := ae (HFR.out HV0 rfl);go_wp2_with fail;go_ret;exact ⟨bf (by rw [HF.out]; rfl), HB3⟩
      ·have HN2 := ae (HT.out (fun _ => rfl));go_wp2_with fail;go_roundw
       case rel => exact ⟨j + 1, by omega, by go_num, HB3, HR3, HN1, HN2⟩
       case measure => simp [intOf]; omega
  ·have e : j = 16 := by omega
   subst e;have HE := ae (HOK.out HA1 HA2);clear HOK HBIG HFAR HA1 HA2 hlt hj;go_wp2_with (first | (refine aw rfl (bi (c := x) rfl rfl ?_) ?_; (with_reducible exact HR.out.range)) | fail);refine (abO x 2 wr).mono ?_;rintro e w3 ⟨rfl, hb⟩;have HB3 := ae (HB.out.trans (hb.mono (Nat.le_of_lt HZ)));clear hb;have hm := ae (ig x);generalize many x 2 = n at *;go_wp2;go_ret;exact ⟨bf (by rw [HE.out, Bool.true_and, hm.out, decide_eq_decide]; omega), HB3⟩
theorem aj0 (x : Ros) (w : World) : Calls prog 42 #[ros x] w fun e w' => e = .returned (.bool (aW x)) /\ Below w.heap.size w w' := by
 have HF := ae (qe x);obtain ⟨h1, h2, h3⟩ := db w x;have HR := ae h1;have HB := ae h2;have HZ := ae h3;clear h1 h2 h3;go_enter func42, ntmps42;go_wp2_with (first | (refine aw rfl (a6 rfl rfl) ?_) | (refine aw rfl (dm (c := x) rfl rfl ?_) ?_; (with_reducible exact HR.out.geo)) | fail);generalize w.alloc (.cells (aZ x).toArray 58) = w1 at *;refine (vh x w1).mono ?_;rintro e w2 ⟨rfl, hb⟩;have HR2 := ae (HR.out.below HZ hb);have HB2 := ae (HB.out.trans (hb.mono (Nat.le_of_lt HZ)));have HZ2 := ae (aU HR2);clear hb HR HB HZ;generalize dH x = g at *;cases g
 ·go_wp2_with fail;go_ret;exact ⟨bf (by rw [HF.out]; rfl), HB2⟩
 ·go_wp2_with (first | (refine az (by rfl) (bi (c := x) rfl rfl ?_) ?_; (with_reducible exact HR2.out.range)) | fail);refine (adK x w2).mono ?_;rintro e w3 ⟨rfl, hb⟩;have HR3 := ae (HR2.out.below HZ2 hb);have HB3 := ae (HB2.out.trans (hb.mono (Nat.le_of_lt HZ2)));have HZ3 := ae (aU HR3);clear hb HR2 HB2 HZ2;generalize (fO x && decide (dG x <= 1)) = p at *;cases p
  ·go_wp2_with fail;go_ret;exact ⟨bf (by rw [HF.out]; rfl), HB3⟩
  ·go_wp2_with (first | (refine az (by rfl) (bi (c := x) rfl rfl ?_) ?_; (with_reducible exact HR3.out.range)) | fail);refine (afc x w3).mono ?_;rintro e w4 ⟨rfl, hb⟩;have HB4 := ae (HB3.out.trans (hb.mono (Nat.le_of_lt HZ3)));clear hb;generalize uI x = q at *;go_wp2_with fail;go_ret;exact ⟨bf (by rw [HF.out]; rfl), HB4⟩
theorem ajL (x : Ros) (w : World) : Calls prog 44 #[ros x] w fun e w' => e = .returned (.bool (aW x)) /\ Below w.heap.size w w' := by
 obtain ⟨h1, h2, h3⟩ := db w x;have HR := ae h1;have HB := ae h2;have HZ := ae h3;clear h1 h2 h3;go_enter func44, ntmps44;go_wp2_with (first | (refine aw rfl (a6 rfl rfl) ?_) | (refine aw rfl (bi (c := x) rfl rfl ?_) ?_; (with_reducible exact HR.out.range)) | fail);generalize w.alloc (.cells (aZ x).toArray 58) = w1 at *;refine (ago x w1).mono ?_;rintro e w2 ⟨rfl, hb⟩;have HB2 := ae (HB.out.trans (hb.mono (Nat.le_of_lt HZ)));clear hb;go_wp2_with fail;go_ret;exact ⟨rfl, HB2⟩
def setW (w : World) (b o : Nat) (v : Value) : World := w.setCell ⟨b, o, none⟩ v
def i3 (w : World) (b : Nat) (x : Ros) : World := w.setCells b 0 (aZ x)
section
variable {w w0 : World} {b k o : Nat} {v : Value} {x y : Ros}
theorem vC {B : Nat} (h : Below B w0 w) (hb : B <= b) : Below B w0 (setW w b o v) := below_setCells h hb [v]
theorem abw (hne : k ≠ b) : (setW w b o v).heap[k]? = w.heap[k]? := heap_setCell_other w ⟨b, o, none⟩ k v hne
theorem ra : (i3 w b x).heap.size = w.heap.size := (gk b _ 0 w).1
theorem gZ {B : Nat} (h : Below B w0 w) (hb : B <= b) : Below B w0 (i3 w b x) := below_setCells h hb _
theorem va (hne : k ≠ b) : (i3 w b x).heap[k]? = w.heap[k]? := eY b _ 0 w k hne
theorem jO (h : bJ w b y) : bJ (i3 w b x) b x := by
 have h' : w.heap[b]? = some (.cells ([] ++ aZ y ++ []).toArray 58 (0, 0)) := by rw [List.nil_append, List.append_nil]; exact h
 have := heap_put b 58 [] (aZ x) (aZ y) [] w (by rw [br, br]) h';rw [List.nil_append, List.append_nil] at this;exact this
theorem adW (x : Ros) {j : Nat} (hj : j < 16) (u : UInt8) : (aZ x).set (3 + j) (.int .u8 (u.toNat : Int)) = aZ (ic x j u) := by
 rw [jM x, jM (ic x j u), mo];have e1 : dZ (ic x j u) = dZ x := rfl;rw [e1, List.set_append_right _ _ (by simp [dZ]), show 3 + j - (dZ x).length = j from by simp [dZ], List.set_append_left _ _ (by rw [bj]; simp; omega)];unfold vals;rw [List.map_set]
 rfl
theorem acR (x : Ros) (c : Int) : (aZ x).set 19 (.int .i64 c) = aZ (mO x c) := by
 rw [jM x, jM (mO x c)];have e1 : dZ (mO x c) = dZ x := rfl;rw [e1, List.set_append_right _ _ (by simp [dZ]), show 19 - (dZ x).length = 16 from rfl, List.set_append_right _ _ (by rw [bj]; simp), show 16 - (vals x.st.toList).length = 0 from by rw [bj]; simp]
 rfl
theorem bJ.setW (h : bJ w b x) (hy : (aZ x).set o v = aZ y) : bJ (setW w b o v) b y := by
 have := heap_setCell_same w b o _ 58 v h;rw [List.setIfInBounds_toArray, hy] at this;exact this
theorem bJ.there (h : bJ w b x) {o n : Nat} (hn : o + n <= 21) : w.there b o n := dY h (by rw [br]; exact hn)
end
section
variable {ρ : Operand -> Value} {o : Oper} {x y : Operand} {w : World} {b off : Nat} {c d : Ros}
theorem dP (ho : o.op = .store 58 x y) (hx : ρ x = .pointer (some ⟨b, 0, none⟩)) (hy : ρ y = ros c) (h : bJ w b d) : (execOp ρ o).run prog w = .ok .skip (i3 w b c) :=
 f6 (by rw [br]; exact tk) (me c) ho hx hy (by rw [br]; exact h.there (by omega))
theorem abN (h : w.there b off 1) : ∃ v, w.cell? ⟨b, off, none⟩ = some v /\ w.frozen? ⟨b, off, none⟩ = false := by
 have := h 0 (by omega);rw [Nat.add_zero] at this;obtain ⟨h1, h2⟩ := this;obtain ⟨v, hv⟩ := Option.isSome_iff_exists.1 h1;exact ⟨v, hv, h2⟩
theorem uc {u : Int} (ho : o.op = .store 5 x y) (hx : ρ x = .pointer (some ⟨b, off, none⟩)) (hy : ρ y = .int .u8 u) (h : w.there b off 1) : (execOp ρ o).run prog w = .ok .skip (setW w b off (.int .u8 u)) := by
 obtain ⟨v, hc, hf⟩ := abN h;exact df ho hx hy (by simp [go_sem, hc, hf, setW])
theorem ab5 {u : Int} (ho : o.op = .store 3 x y) (hx : ρ x = .pointer (some ⟨b, off, none⟩)) (hy : ρ y = .int .i64 u) (h : w.there b off 1) : (execOp ρ o).run prog w = .ok .skip (setW w b off (.int .i64 u)) := by
 obtain ⟨v, hc, hf⟩ := abN h;exact df ho hx hy (by simp [go_sem, hc, hf, setW])
theorem aX (ho : o.op = .load 58 x) (hx : ρ x = .pointer (some ⟨b, 0, none⟩)) (h : bJ w b c) : (execOp ρ o).run prog w = .ok (.value (ros c)) w := bi ho hx h.range
theorem z7 (w : World) : (Instr.build 58 #[]).run prog w = .ok (ros bK) w := by kernel_rfl
theorem pI (ho : o.op = .build 58 #[]) : (execOp ρ o).run prog w = .ok (.value (ros bK)) w := mL ho (z7 w)
theorem vW {ad : Addr} {n : Bool} (h : w.cell? ad = some (.bool n)) : (Instr.loadAt 4 (.pointer (some ad))).run prog w = .ok (.bool n) w := by simp [go_sem, h]
theorem wv {b : Nat} : (Instr.fieldAt 58 (.pointer (some ⟨b, 0, none⟩)) 3).run prog w = .ok (.pointer (some ⟨b, 20, none⟩)) w := by kernel_rfl
theorem lm {fn : Func} {p u : Tmp} (h : fn.results = #[.cell p 58, .tmp u]) (tmps : Array Value) (w : World) (b : Nat) (hp : tmps.getD p undef = .pointer (some ⟨b, 0, none⟩)) (hc : bJ w b c) :
  (results fn tmps).run prog w = .ok (.tuple #[ros c, tmps.getD u undef]) w := by
 have hl : (loadVar 58 ⟨b, 0, none⟩).run prog w = .ok (ros c) w := run_loadVar_mid w b 0 58 (aZ c) _ hc.range underlying58 rfl (by rw [br]; exact tk);have hp' : tmps[p]?.getD undef = .pointer (some ⟨b, 0, none⟩) := by simpa using hp
 simp [results, h, hp', asAddr, hl]
end
structure kU (w0 w : World) (x y : Ros) : Prop where
 bel : Below w0.heap.size w0 w
 at0 : bJ w w0.heap.size x
 at1 : bJ w (w0.heap.size + 1) y
theorem kU.new (w : World) (x : Ros) : kU w ((w.alloc (.cells (aZ x).toArray 58)).alloc (.cells (aZ bK).toArray 58)) x bK := by
 refine ⟨((Below.refl _ w).alloc aj _).alloc (by simp) _, (bJ.new w x).past _, ?_⟩;have := bJ.new (w.alloc (.cells (aZ x).toArray 58)) bK;rwa [World.size_alloc] at this
section
variable {w0 w w' : World} {x y z : Ros}
theorem kU.call (h : kU w0 w x y) (hb : Below w.heap.size w w') : kU w0 w' x y :=
 ⟨h.bel.trans (hb.mono h.bel.size), h.at0.below (aU h.at0) hb, h.at1.below (aU h.at1) hb⟩
theorem kU.put (h : kU w0 w x y) (z : Ros) : kU w0 (i3 w (w0.heap.size + 1) z) x z :=
 ⟨gZ h.bel (by omega), (va (by omega)).trans h.at0, jO h.at1⟩
theorem kU.set (h : kU w0 w x y) {o : Nat} {v : Value} (hy : (aZ x).set o v = aZ z) : kU w0 (setW w w0.heap.size o v) z y :=
 ⟨vC h.bel aj, h.at0.setW hy, (abw (by omega)).trans h.at1⟩
end
structure iZ (w0 w : World) (x : Ros) : Prop where
 bel : Below w0.heap.size w0 w
 at0 : bJ w w0.heap.size x
theorem iZ.new (w : World) (x : Ros) : iZ w (w.alloc (.cells (aZ x).toArray 58)) x := ⟨(db w x).2.1, (db w x).1⟩
theorem iZ.call {w0 w w' : World} {x : Ros} (h : iZ w0 w x) (hb : Below w.heap.size w w') : iZ w0 w' x :=
 ⟨h.bel.trans (hb.mono h.bel.size), h.at0.below (aU h.at0) hb⟩
theorem iZ.above {w0 w w' : World} {x : Ros} (h : iZ w0 w x) (hb : Below w.heap.size w w') : bJ w' w0.heap.size x := h.at0.below (aU h.at0) hb
section
variable {x : Ros} {m : Int} {c : Int} {b : Bool} (w : World)
theorem dO (h : aW x = b) : Calls prog 42 #[ros x] w fun e w' => e = .returned (.bool b) /\ Below w.heap.size w w' := by subst h; exact aj0 x w
theorem xu (h : aW x = b) : Calls prog 44 #[ros x] w fun e w' => e = .returned (.bool b) /\ Below w.heap.size w w' := by subst h; exact ajL x w
theorem eC (h : eQ x m = b) : Calls prog 115 #[ros x, .int .i64 m] w fun e w' => e = .returned (.bool b) /\ Below w.heap.size w w' := by subst h; exact rQ x m w
theorem i4 (h : kS x m = b) : Calls prog 117 #[ros x, .int .i64 m] w fun e w' => e = .returned (.bool b) /\ Below w.heap.size w w' := by subst h; exact yz x m w
theorem fu {n : Nat} (h : many x c = n) : Calls prog 116 #[ros x, .int .u8 c] w fun e w' => e = .returned (.int .i64 (n : Nat)) /\ Below w.heap.size w w' := by subst h; exact abO x c w
end
theorem ahB {x : Ros} {m s : Int} (hf : aW x = false) (w : World) : Calls prog 111 #[ros x, .int .i64 m, .int .i64 s] w fun e w' => e = .returned (.bool false) /\ Below w.heap.size w w' := by
 have HT1 := ae (iZ.new w x);have HF := ae hf;clear hf;go_enter func111, ntmps111;go_upto_region 1 with (first | (refine aw rfl (a6 rfl rfl) ?_) | fail);generalize w.alloc (.cells (aZ x).toArray 58) = w1 at *;refine af ?_;refine akj (aX rfl akt (HT1.out.at0)) ?_;refine ay rfl (aB call42 rfl (evc akt evn)) ?_;refine (dO w1 HF).mono ?_;rintro e w2 ⟨rfl, hb⟩;have HT2 := ae (HT1.out.call hb);clear hb HT1;refine aR ?_;refine runs 1 ?_;refine a7 4 rfl (aM rfl akt) (by kernel_rfl) ?_;simp only [bL, ac, aa];refine runs 1 ?_;refine a7 4 rfl (aM rfl akt) (by kernel_rfl) ?_;simp only [bL, ac, aa];refine aF 1 ?_;go_upto_region 2 with fail;refine cf 1 ?_;go_wp2_with fail;go_ret;exact ⟨rfl, HT2.out.bel⟩
theorem ahN {x : Ros} {m s : Int} (hf : aW x = true) (hq : eQ x m = false) (w : World) : Calls prog 111 #[ros x, .int .i64 m, .int .i64 s] w fun e w' => e = .returned (.bool false) /\ Below w.heap.size w w' := by
 have HT1 := ae (iZ.new w x);have HF := ae hf;have HQ := ae hq;clear hf hq;go_enter func111, ntmps111;go_upto_region 1 with (first | (refine aw rfl (a6 rfl rfl) ?_) | fail);generalize w.alloc (.cells (aZ x).toArray 58) = w1 at *;refine af ?_;refine akj (aX rfl akt (HT1.out.at0)) ?_;refine ay rfl (aB call42 rfl (evc akt evn)) ?_;refine (dO w1 HF).mono ?_;rintro e w2 ⟨rfl, hb⟩;have HT2 := ae (HT1.out.call hb);clear hb HT1;refine aR ?_;refine runs 2 ?_;refine akq (aX rfl akt (HT2.out.at0)) ?_;refine runs 1 ?_;refine ay ake (aB call115 rfl (evc akt (evc akt evn))) ?_;refine (eC w2 HQ).mono ?_;rintro e w3 ⟨rfl, hb⟩;have HT3 := ae (HT2.out.call hb);clear hb HT2;refine aR ?_;refine runs 2 ?_;refine a7 4 rfl (aM rfl akt) (by kernel_rfl) ?_;simp only [bL, ac, aa];refine aF 1 ?_;go_upto_region 2 with fail;refine cf 1 ?_;go_wp2_with fail;go_ret;exact ⟨rfl, HT3.out.bel⟩
theorem aib {x : Ros} {m s : Int} (hf : aW x = true) (hq : eQ x m = true) (hc : kS x s = false) (w : World) : Calls prog 111 #[ros x, .int .i64 m, .int .i64 s] w fun e w' => e = .returned (.bool false) /\ Below w.heap.size w w' := by
 have HT1 := ae (iZ.new w x);have HF := ae hf;have HQ := ae hq;have HC := ae hc;clear hf hq hc;go_enter func111, ntmps111;go_upto_region 1 with (first | (refine aw rfl (a6 rfl rfl) ?_) | fail);generalize w.alloc (.cells (aZ x).toArray 58) = w1 at *;refine af ?_;refine akj (aX rfl akt (HT1.out.at0)) ?_;refine ay rfl (aB call42 rfl (evc akt evn)) ?_;refine (dO w1 HF).mono ?_;rintro e w2 ⟨rfl, hb⟩;have HT2 := ae (HT1.out.call hb);clear hb HT1;refine aR ?_;refine runs 2 ?_;refine akq (aX rfl akt (HT2.out.at0)) ?_;refine runs 1 ?_;refine ay ake (aB call115 rfl (evc akt (evc akt evn))) ?_;refine (eC w2 HQ).mono ?_;rintro e w3 ⟨rfl, hb⟩;have HT3 := ae (HT2.out.call hb);clear hb HT2;refine aR ?_;refine runs 3 ?_;refine akq (aX rfl akt (HT3.out.at0)) ?_;refine runs 1 ?_;refine ay ake (aB call117 rfl (evc akt (evc akt evn))) ?_;refine (i4 w3 HC).mono ?_;rintro e w4 ⟨rfl, hb⟩;have HT4 := ae (HT3.out.call hb);clear hb HT3;refine aR ?_;refine aF 2 ?_;go_upto_region 2 with fail;refine cf 1 ?_;go_wp2_with fail;go_ret;exact ⟨rfl, HT4.out.bel⟩
theorem agH {x : Ros} {j : Nat} {s : Int} (hj : j < 16) (hf : aW x = true) (hq : eQ x (j : Int) = true) (hc : kS x s = true) (h0 : (sta x j == 0) = true) (w : World) : Calls prog 111 #[ros x, .int .i64 (j : Int), .int .i64 s] w fun e w' => e = .returned (.bool true) /\ Below w.heap.size w w' := by
 have HT1 := ae (iZ.new w x);have HF := ae hf;have HQ := ae hq;have HC := ae hc;have H0 := ae h0;clear hf hq hc h0;go_enter func111, ntmps111;go_upto_region 1 with (first | (refine aw rfl (a6 rfl rfl) ?_) | fail);generalize w.alloc (.cells (aZ x).toArray 58) = w1 at *;refine af ?_;refine akj (aX rfl akt (HT1.out.at0)) ?_;refine ay rfl (aB call42 rfl (evc akt evn)) ?_;refine (dO w1 HF).mono ?_;rintro e w2 ⟨rfl, hb⟩;have HT2 := ae (HT1.out.call hb);clear hb HT1;refine aR ?_;refine runs 2 ?_;refine akq (aX rfl akt (HT2.out.at0)) ?_;refine runs 1 ?_;refine ay ake (aB call115 rfl (evc akt (evc akt evn))) ?_;refine (eC w2 HQ).mono ?_;rintro e w3 ⟨rfl, hb⟩;have HT3 := ae (HT2.out.call hb);clear hb HT2;refine aR ?_;refine runs 3 ?_;refine akq (aX rfl akt (HT3.out.at0)) ?_;refine runs 1 ?_;refine ay ake (aB call117 rfl (evc akt (evc akt evn))) ?_;refine (i4 w3 HC).mono ?_;rintro e w4 ⟨rfl, hb⟩;have HT4 := ae (HT3.out.call hb);clear hb HT3;refine aR ?_;refine aF 2 ?_;go_upto_region 3 with fail;refine aI 1 ?_;refine akj (ax rfl akt nI) ?_;refine akj (cU rfl akt akt (qn hj)) ?_;refine akj (aD rfl akt (qy ((HT4.out.at0).sta hj))) ?_;refine ah ?_;go_upto_region 4 with fail;refine af ?_;refine akj (aH true rfl akt evk H0) ?_;refine aF 1 ?_;go_upto_region 5 with fail;refine cf 1 ?_;go_wp2_with fail;go_ret;exact ⟨rfl, HT4.out.bel⟩
theorem ag9 {x : Ros} {j : Nat} {s : Int} (hj : j < 16) (hf : aW x = true) (hq : eQ x (j : Int) = true) (hc : kS x s = true) (h0 : (sta x j == 0) = false) (h2 : (sta x j == 2) = true) (hl : decide (s < x.cur) = true) (w : World) : Calls prog 111 #[ros x, .int .i64 (j : Int), .int .i64 s] w fun e w' => e = .returned (.bool true) /\ Below w.heap.size w w' := by
 have HT1 := ae (iZ.new w x);have HF := ae hf;have HQ := ae hq;have HC := ae hc;have H0 := ae h0;have H2 := ae h2;have HL := ae hl;clear hf hq hc h0 h2 hl;go_enter func111, ntmps111;go_upto_region 1 with (first | (refine aw rfl (a6 rfl rfl) ?_) | fail);generalize w.alloc (.cells (aZ x).toArray 58) = w1 at *;refine af ?_;refine akj (aX rfl akt (HT1.out.at0)) ?_;refine ay rfl (aB call42 rfl (evc akt evn)) ?_;refine (dO w1 HF).mono ?_;rintro e w2 ⟨rfl, hb⟩;have HT2 := ae (HT1.out.call hb);clear hb HT1;refine aR ?_;refine runs 2 ?_;refine akq (aX rfl akt (HT2.out.at0)) ?_;refine runs 1 ?_;refine ay ake (aB call115 rfl (evc akt (evc akt evn))) ?_;refine (eC w2 HQ).mono ?_;rintro e w3 ⟨rfl, hb⟩;have HT3 := ae (HT2.out.call hb);clear hb HT2;refine aR ?_;refine runs 3 ?_;refine akq (aX rfl akt (HT3.out.at0)) ?_;refine runs 1 ?_;refine ay ake (aB call117 rfl (evc akt (evc akt evn))) ?_;refine (i4 w3 HC).mono ?_;rintro e w4 ⟨rfl, hb⟩;have HT4 := ae (HT3.out.call hb);clear hb HT3;refine aR ?_;refine aF 2 ?_;go_upto_region 3 with fail;refine aI 1 ?_;refine akj (ax rfl akt nI) ?_;refine akj (cU rfl akt akt (qn hj)) ?_;refine akj (aD rfl akt (qy ((HT4.out.at0).sta hj))) ?_;refine ah ?_;go_upto_region 4 with fail;refine af ?_;refine akj (aH false rfl akt evk H0) ?_;refine aF 1 ?_;go_upto_region 6 with fail;refine af ?_;refine akj (aH true rfl akt evk H2) ?_;refine aF 1 ?_;go_upto_region 7 with fail;refine aI 1 ?_;refine akj (ax rfl akt aaF) ?_;refine akj (aD rfl akt (cd (HT4.out.at0).cells.2.2.2.1)) ?_;refine akj (aY true rfl akt akt HL) ?_;refine aF 1 ?_;go_wp2_with fail;go_ret;exact ⟨rfl, HT4.out.bel⟩
theorem ahU {x : Ros} {j : Nat} {s : Int} (hj : j < 16) (hf : aW x = true) (hq : eQ x (j : Int) = true) (hc : kS x s = true) (h0 : (sta x j == 0) = false) (h2 : (sta x j == 2) = true) (hl : decide (s < x.cur) = false) (w : World) : Calls prog 111 #[ros x, .int .i64 (j : Int), .int .i64 s] w fun e w' => e = .returned (.bool false) /\ Below w.heap.size w w' := by
 have HT1 := ae (iZ.new w x);have HF := ae hf;have HQ := ae hq;have HC := ae hc;have H0 := ae h0;have H2 := ae h2;have HL := ae hl;clear hf hq hc h0 h2 hl;go_enter func111, ntmps111;go_upto_region 1 with (first | (refine aw rfl (a6 rfl rfl) ?_) | fail);generalize w.alloc (.cells (aZ x).toArray 58) = w1 at *;refine af ?_;refine akj (aX rfl akt (HT1.out.at0)) ?_;refine ay rfl (aB call42 rfl (evc akt evn)) ?_;refine (dO w1 HF).mono ?_;rintro e w2 ⟨rfl, hb⟩;have HT2 := ae (HT1.out.call hb);clear hb HT1;refine aR ?_;refine runs 2 ?_;refine akq (aX rfl akt (HT2.out.at0)) ?_;refine runs 1 ?_;refine ay ake (aB call115 rfl (evc akt (evc akt evn))) ?_;refine (eC w2 HQ).mono ?_;rintro e w3 ⟨rfl, hb⟩;have HT3 := ae (HT2.out.call hb);clear hb HT2;refine aR ?_;refine runs 3 ?_;refine akq (aX rfl akt (HT3.out.at0)) ?_;refine runs 1 ?_;refine ay ake (aB call117 rfl (evc akt (evc akt evn))) ?_;refine (i4 w3 HC).mono ?_;rintro e w4 ⟨rfl, hb⟩;have HT4 := ae (HT3.out.call hb);clear hb HT3;refine aR ?_;refine aF 2 ?_;go_upto_region 3 with fail;refine aI 1 ?_;refine akj (ax rfl akt nI) ?_;refine akj (cU rfl akt akt (qn hj)) ?_;refine akj (aD rfl akt (qy ((HT4.out.at0).sta hj))) ?_;refine ah ?_;go_upto_region 4 with fail;refine af ?_;refine akj (aH false rfl akt evk H0) ?_;refine aF 1 ?_;go_upto_region 6 with fail;refine af ?_;refine akj (aH true rfl akt evk H2) ?_;refine aF 1 ?_;go_upto_region 7 with fail;refine aI 1 ?_;refine akj (ax rfl akt aaF) ?_;refine akj (aD rfl akt (cd (HT4.out.at0).cells.2.2.2.1)) ?_;refine akj (aY false rfl akt akt HL) ?_;refine aF 1 ?_;go_wp2_with fail;go_ret;exact ⟨rfl, HT4.out.bel⟩
theorem aho {x : Ros} {j : Nat} {s : Int} (hj : j < 16) (hf : aW x = true) (hq : eQ x (j : Int) = true) (hc : kS x s = true) (h0 : (sta x j == 0) = false) (h2 : (sta x j == 2) = false) (w : World) : Calls prog 111 #[ros x, .int .i64 (j : Int), .int .i64 s] w fun e w' => e = .returned (.bool false) /\ Below w.heap.size w w' := by
 have HT1 := ae (iZ.new w x);have HF := ae hf;have HQ := ae hq;have HC := ae hc;have H0 := ae h0;have H2 := ae h2;clear hf hq hc h0 h2;go_enter func111, ntmps111;go_upto_region 1 with (first | (refine aw rfl (a6 rfl rfl) ?_) | fail);generalize w.alloc (.cells (aZ x).toArray 58) = w1 at *;refine af ?_;refine akj (aX rfl akt (HT1.out.at0)) ?_;refine ay rfl (aB call42 rfl (evc akt evn)) ?_;refine (dO w1 HF).mono ?_;rintro e w2 ⟨rfl, hb⟩;have HT2 := ae (HT1.out.call hb);clear hb HT1;refine aR ?_;refine runs 2 ?_;refine akq (aX rfl akt (HT2.out.at0)) ?_;refine runs 1 ?_;refine ay ake (aB call115 rfl (evc akt (evc akt evn))) ?_;refine (eC w2 HQ).mono ?_;rintro e w3 ⟨rfl, hb⟩;have HT3 := ae (HT2.out.call hb);clear hb HT2;refine aR ?_;refine runs 3 ?_;refine akq (aX rfl akt (HT3.out.at0)) ?_;refine runs 1 ?_;refine ay ake (aB call117 rfl (evc akt (evc akt evn))) ?_;refine (i4 w3 HC).mono ?_;rintro e w4 ⟨rfl, hb⟩;have HT4 := ae (HT3.out.call hb);clear hb HT3;refine aR ?_;refine aF 2 ?_;go_upto_region 3 with fail;refine aI 1 ?_;refine akj (ax rfl akt nI) ?_;refine akj (cU rfl akt akt (qn hj)) ?_;refine akj (aD rfl akt (qy ((HT4.out.at0).sta hj))) ?_;refine ah ?_;go_upto_region 4 with fail;refine af ?_;refine akj (aH false rfl akt evk H0) ?_;refine aF 1 ?_;go_upto_region 6 with fail;refine af ?_;refine akj (aH false rfl akt evk H2) ?_;refine aF 1 ?_;go_upto_region 8 with fail;refine cf 1 ?_;go_wp2_with fail;go_ret;exact ⟨rfl, HT4.out.bel⟩
theorem ajg {x : Ros} {j : Nat} {s : Int} (hf : aW x = true) (hq : eQ x (j : Int) = true) (hc : kS x s = true) : hasB x (j : Int) s = (decide (sta x j = 0) || (decide (sta x j = 2) && decide (s < x.cur))) := by
 unfold hasB;rw [hf, hq, hc]
 rfl
theorem ajM (x : Ros) (m s : Int) (w : World) : Calls prog 111 #[ros x, .int .i64 m, .int .i64 s] w fun e w' => e = .returned (.bool (hasB x m s)) /\ Below w.heap.size w w' := by
 cases hf : aW x
 ·rw [show hasB x m s = false from by unfold hasB; rw [hf]; rfl]; exact ahB hf w
 cases hq : eQ x m
 ·rw [show hasB x m s = false from by unfold hasB; rw [hf, hq]; rfl]; exact ahN hf hq w
 cases hc : kS x s
 ·rw [show hasB x m s = false from by unfold hasB; rw [hf, hq, hc]; rfl]; exact aib hf hq hc w
 have hm := nU hq;have hg := ew (ex hf).1;obtain ⟨j, rfl⟩ := Int.eq_ofNat_of_zero_le hm.1;have hj : j < 16 := by omega
 rw [ajg hf hq hc];by_cases h0 : sta x j = 0
 ·rw [ao h0]; exact agH hj hf hq hc (by simpa using h0) w
 rw [am h0];by_cases h2 : sta x j = 2
 ·rw [ao h2];by_cases hl : s < x.cur
  ·rw [ao hl]; exact ag9 hj hf hq hc (by simpa using h0) (by simpa using h2) (ao hl) w
  ·rw [am hl]; exact ahU hj hf hq hc (by simpa using h0) (by simpa using h2) (am hl) w
 ·rw [am h2]; exact aho hj hf hq hc (by simpa using h0) (by simpa using h2) w
def lS (M : aV) (x : Ros) : Nat -> Bool
 |0 => true
 |k + 1 => lS M x k && !decide (io M (k : Int) < 2 + x.s)
def gy (M : aV) (id ev : Nat) (x : Ros) : Bool := !decide (id = 0) && (!decide (2305843009213693952 < ev) && (aW x && (decide ((M.ds.length : Int) = x.m + 1) && lS M x x.m.toNat)))
theorem sO {M : aV} {x : Ros} {i : Nat} (h : io M (i : Int) < 2 + x.s) : ∀ {n : Nat}, i < n -> lS M x n = false
 |0, hi => absurd hi (by omega)
 |n + 1, hi => by
  rw [lS];by_cases e : i = n
  ·subst e; rw [ao h]; simp
  ·rw [sO h (n := n) (by omega)]; rfl
theorem mw {M : aV} {x : Ros} {i : Nat} (h : lS M x i = true) (h' : ¬ io M (i : Int) < 2 + x.s) : lS M x (i + 1) = true := by rw [lS, h, am h']; rfl
def rhC (q id ev : Nat) (x : Ros) : List Value := .pointer (some ⟨q, 0, none⟩) :: .int .u64 (id : Int) :: .int .u64 (ev : Int) :: aZ x
theorem aih : (prog.info? 107).map (fun i => i.zero) = some (some (.agg (.pointer none :: .int .u64 0 :: .int .u64 0 :: aZ bK).toArray)) := by kernel_rfl
section
variable {ρ : Operand -> Value} {o : Oper} {x1 x2 x3 x4 : Operand} {w : World} {q id ev : Nat} {x : Ros}
theorem zO (q id ev : Nat) (x : Ros) : (Instr.build 107 #[(0, .pointer (some ⟨q, 0, none⟩)), (1, .int .u64 (id : Int)), (2, .int .u64 (ev : Int)), (3, ros x)]).run prog w = .ok (.agg (rhC q id ev x).toArray) w := by
 have hz := fZ aih w;have h0 := dk (place := fun i => (#[(0, 1), (1, 1), (2, 1), (3, 21)] : Array (Nat × Nat))[i]?) (i := 0) (off := 0) (size := 1) (v := .pointer (some ⟨q, 0, none⟩)) (pre := []) (mid := [.pointer none]) (post := .int .u64 0 :: .int .u64 0 :: aZ bK) (vs := [.pointer (some ⟨q, 0, none⟩)]) (rest := [(1, .int .u64 (id : Int)), (2, .int .u64 (ev : Int)), (3, ros x)]) rfl rfl rfl rfl rfl;have h1 := dk (place := fun i => (#[(0, 1), (1, 1), (2, 1), (3, 21)] : Array (Nat × Nat))[i]?) (i := 1) (off := 1) (size := 1) (v := .int .u64 (id : Int)) (pre := [.pointer (some ⟨q, 0, none⟩)]) (mid := [.int .u64 0]) (post := .int .u64 0 :: aZ bK) (vs := [.int .u64 (id : Int)]) (rest := [(2, .int .u64 (ev : Int)), (3, ros x)]) rfl rfl rfl rfl rfl;have h2 := dk (place := fun i => (#[(0, 1), (1, 1), (2, 1), (3, 21)] : Array (Nat × Nat))[i]?) (i := 2) (off := 2) (size := 1) (v := .int .u64 (ev : Int)) (pre := [.pointer (some ⟨q, 0, none⟩), .int .u64 (id : Int)]) (mid := [.int .u64 0]) (post := aZ bK) (vs := [.int .u64 (ev : Int)]) (rest := [(3, ros x)]) rfl rfl rfl rfl rfl;have h3 := dk (place := fun i => (#[(0, 1), (1, 1), (2, 1), (3, 21)] : Array (Nat × Nat))[i]?) (i := 3) (off := 3) (size := 21) (v := ros x) (pre := [.pointer (some ⟨q, 0, none⟩), .int .u64 (id : Int), .int .u64 (ev : Int)]) (mid := aZ bK) (post := []) (vs := aZ x) (rest := []) rfl rfl (br x) rfl (br bK);simp only [List.nil_append, List.append_nil, List.cons_append] at h0 h1 h2 h3;have h4 := h0.trans (h1.trans (h2.trans h3));have hz' : (zeroValue 107).run prog w = .ok (.agg (.pointer none :: .int .u64 0 :: .int .u64 0 :: aZ bK).toArray) w := hz;have hc : (Value.agg (.pointer none :: .int .u64 0 :: .int .u64 0 :: aZ bK).toArray).cells = (.pointer none :: .int .u64 0 :: .int .u64 0 :: aZ bK).toArray := rfl;simp only [Instr.build, Sem.run_bind, hz', run_underlying underlying107, Result.andThen_ok, hc];refine Eq.trans (congrArg (fun r => Result.andThen r _) (?h : _ = Result.ok #[(0, 1), (1, 1), (2, 1), (3, 21)] w)) ?_
 case h => kernel_rfl
 simp only [Result.andThen_ok];have h5 : Instr.fill (fun i => (#[(0, 1), (1, 1), (2, 1), (3, 21)] : Array (Nat × Nat))[i]?) (rhC q id ev x).toArray [] = some (rhC q id ev x).toArray := by rw [Instr.fill]
 rw [h4.trans h5]
 rfl
theorem wh (ho : o.op = .build 107 #[(0, x1), (1, x2), (2, x3), (3, x4)]) (h1 : ρ x1 = .pointer (some ⟨q, 0, none⟩)) (h2 : ρ x2 = .int .u64 (id : Int)) (h3 : ρ x3 = .int .u64 (ev : Int)) (h4 : ρ x4 = ros x) : (execOp ρ o).run prog w = .ok (.value (.agg (rhC q id ev x).toArray)) w := by
 unfold execOp;simp only [ho, h1, h2, h3, h4, List.map_toArray, List.map_cons, List.map_nil, Sem.run_bind, zO, Result.andThen_ok, Sem.run_pure]
end
def RHu (w : World) (p q id ev : Nat) (x : Ros) : Prop := w.heap[p]? = some (.cells (rhC q id ev x).toArray 107 (0, 0))
section
variable {w : World} {F : Nat -> Prop} {q : Nat} {M : aV}
def rF (w : World) (q : Nat) (M : aV) (id en : Nat) (x : Ros) (e : Ending) (w' : World) : Prop :=
 Below w.heap.size w w' /\ ((gy M id en x = true /\ ∃ p, e = .returned (.tuple #[.pointer (some ⟨p, 0, none⟩), .int .i64 0]) /\ RHu w' p q id en x /\ w.heap.size <= p) \/ (gy M id en x = false /\ e = .returned (.tuple #[.pointer none, .int .i64 2])))
theorem af0 (id en : Nat) (x : Ros) (w : World) (hb : dJ.Bn w F q M) (h0 : id = 0) : Calls prog 18 #[.pointer (some ⟨q, 0, none⟩), .int .u64 (id : Int), .int .u64 (en : Int), ros x] w (rF w q M id en x) := by
 obtain ⟨w1, hw1⟩ : ∃ w1, w.alloc (.cells (aZ x).toArray 58) = w1 := ⟨_, rfl⟩;obtain ⟨hx, hb1, hlt⟩ := db w x;rw [hw1] at hx hb1 hlt;have HW1 := ae hw1;have HX := ae hx;have HB1 := ae hb1;have HLT := ae hlt;have HB := ae (dJ.below hb hb1);clear hw1 hx hb1 hlt hb;have H0 : Hid (((id : Int) == 0) = true) := ae (by rw [h0]; rfl);have HNO : Hid (gy M id en x = false) := ae (by unfold gy; rw [ao h0]; rfl);clear h0;go_enter func18, ntmps18;go_upto_region 0 with fail;refine af ?_;refine akj (a6 rfl akt) ?_;rw [HW1.out];refine aF 2 ?_;go_upto_region 1 with fail;refine aS (B := w1.heap.size) (by kernel_rfl) ?_;refine cC 1 ?_;refine akr (fun _ hw => aH true rfl akt evk H0) ?_;refine gL 2 rfl (fun _ hw => aM rfl akt) (by kernel_rfl) ?_;simp only [bL, ac, aa];refine cC 1 ?_;refine gL 3 rfl (fun _ hw => aM rfl akt) (by kernel_rfl) ?_;simp only [bL, ac, aa];refine cC 1 ?_;refine gL 7 rfl (fun _ hw => aM rfl akt) (by kernel_rfl) ?_;simp only [bL, ac, aa];refine cC 1 ?_;refine wpQuiet_nil ?_;intro w2 hw;have HB2 := ae (HB1.out.trans (hw.mono HB1.out.size));go_wp2_with fail;go_ret2;exact ⟨HB2, .inr ⟨HNO, rfl⟩⟩
theorem afq (id en : Nat) (x : Ros) (w : World) (hb : dJ.Bn w F q M) (h0 : id ≠ 0) (h1 : 2305843009213693952 < en) : Calls prog 18 #[.pointer (some ⟨q, 0, none⟩), .int .u64 (id : Int), .int .u64 (en : Int), ros x] w (rF w q M id en x) := by
 obtain ⟨w1, hw1⟩ : ∃ w1, w.alloc (.cells (aZ x).toArray 58) = w1 := ⟨_, rfl⟩;obtain ⟨hx, hb1, hlt⟩ := db w x;rw [hw1] at hx hb1 hlt;have HW1 := ae hw1;have HX := ae hx;have HB1 := ae hb1;have HLT := ae hlt;have HB := ae (dJ.below hb hb1);clear hw1 hx hb1 hlt hb;have H0 : Hid (((id : Int) == 0) = false) := ae (av (by omega));have H1 : Hid (decide ((2305843009213693952 : Int) < (en : Int)) = true) := ae (ao (by omega));have HNO : Hid (gy M id en x = false) := ae (by unfold gy; rw [ao h1]; simp);clear h0 h1;go_enter func18, ntmps18;go_upto_region 0 with fail;refine af ?_;refine akj (a6 rfl akt) ?_;rw [HW1.out];refine aF 2 ?_;go_upto_region 1 with fail;refine aS (B := w1.heap.size) (by kernel_rfl) ?_;refine cC 1 ?_;refine akr (fun _ hw => aH false rfl akt evk H0) ?_;refine cC 2 ?_;refine aks (fun _ hw => dA true rfl akt evk H1) ?_;refine cC 1 ?_;refine gL 3 rfl (fun _ hw => aM rfl akt) (by kernel_rfl) ?_;simp only [bL, ac, aa];refine cC 1 ?_;refine gL 7 rfl (fun _ hw => aM rfl akt) (by kernel_rfl) ?_;simp only [bL, ac, aa];refine cC 1 ?_;refine wpQuiet_nil ?_;intro w2 hw;have HB2 := ae (HB1.out.trans (hw.mono HB1.out.size));go_wp2_with fail;go_ret2;exact ⟨HB2, .inr ⟨HNO, rfl⟩⟩
theorem aek (id en : Nat) (x : Ros) (w : World) (hb : dJ.Bn w F q M) (h0 : id ≠ 0) (h1 : ¬ 2305843009213693952 < en) (h2 : aW x = false) : Calls prog 18 #[.pointer (some ⟨q, 0, none⟩), .int .u64 (id : Int), .int .u64 (en : Int), ros x] w (rF w q M id en x) := by
 obtain ⟨w1, hw1⟩ : ∃ w1, w.alloc (.cells (aZ x).toArray 58) = w1 := ⟨_, rfl⟩;obtain ⟨hx, hb1, hlt⟩ := db w x;rw [hw1] at hx hb1 hlt;have HW1 := ae hw1;have HX := ae hx;have HB1 := ae hb1;have HLT := ae hlt;have HB := ae (dJ.below hb hb1);clear hw1 hx hb1 hlt hb;have H0 : Hid (((id : Int) == 0) = false) := ae (av (by omega));have H1 : Hid (decide ((2305843009213693952 : Int) < (en : Int)) = false) := ae (am (by omega));have H2 := ae h2;have HNO : Hid (gy M id en x = false) := ae (by unfold gy; rw [h2]; simp);clear h0 h1 h2;go_enter func18, ntmps18;go_upto_region 0 with fail;refine af ?_;refine akj (a6 rfl akt) ?_;rw [HW1.out];refine aF 2 ?_;go_upto_region 1 with fail;refine aS (B := w1.heap.size) (by kernel_rfl) ?_;refine cC 1 ?_;refine akr (fun _ hw => aH false rfl akt evk H0) ?_;refine cC 2 ?_;refine aks (fun _ hw => dA false rfl akt evk H1) ?_;refine cC 2 ?_;refine aks (fun _ hw => bi rfl akt ((HX.out.below HLT hw).range)) ?_;refine bQ ake (fun _ => aB call44 rfl (evc akt evn)) (bz aj fun w' hw => xu w' H2) ?_;simp only [aa];refine cC 2 ?_;refine gL 7 rfl (fun _ hw => aM rfl akt) (by kernel_rfl) ?_;simp only [bL, ac, aa];refine cC 1 ?_;refine wpQuiet_nil ?_;intro w2 hw;have HB2 := ae (HB1.out.trans (hw.mono HB1.out.size));go_wp2_with fail;go_ret2;exact ⟨HB2, .inr ⟨HNO, rfl⟩⟩
theorem aee (id en : Nat) (x : Ros) (w : World) (hb : dJ.Bn w F q M) (h0 : id ≠ 0) (h1 : ¬ 2305843009213693952 < en) (h2 : aW x = true) (h3 : ¬ (M.ds.length : Int) = x.m + 1) : Calls prog 18 #[.pointer (some ⟨q, 0, none⟩), .int .u64 (id : Int), .int .u64 (en : Int), ros x] w (rF w q M id en x) := by
 obtain ⟨w1, hw1⟩ : ∃ w1, w.alloc (.cells (aZ x).toArray 58) = w1 := ⟨_, rfl⟩;obtain ⟨hx, hb1, hlt⟩ := db w x;rw [hw1] at hx hb1 hlt;have HW1 := ae hw1;have HX := ae hx;have HB1 := ae hb1;have HLT := ae hlt;have HB := ae (dJ.below hb hb1);clear hw1 hx hb1 hlt hb;have H0 : Hid (((id : Int) == 0) = false) := ae (av (by omega));have H1 : Hid (decide ((2305843009213693952 : Int) < (en : Int)) = false) := ae (am (by omega));have H2 := ae h2;have HAD : Hid (IntKind.i64.wrap (x.m + 1) = x.m + 1) := ae (el (by have := ew (ex h2).1; omega));have H3 : Hid (((M.ds.length : Int) != x.m + 1) = true) := ae (by simpa using h3);have HNO : Hid (gy M id en x = false) := ae (by unfold gy; rw [am h3]; simp);clear h0 h1 h2 h3;go_enter func18, ntmps18;go_upto_region 0 with fail;refine af ?_;refine akj (a6 rfl akt) ?_;rw [HW1.out];refine aF 2 ?_;go_upto_region 1 with fail;refine aS (B := w1.heap.size) (by kernel_rfl) ?_;refine cC 1 ?_;refine akr (fun _ hw => aH false rfl akt evk H0) ?_;refine cC 2 ?_;refine aks (fun _ hw => dA false rfl akt evk H1) ?_;refine cC 2 ?_;refine aks (fun _ hw => bi rfl akt ((HX.out.below HLT hw).range)) ?_;refine bQ ake (fun _ => aB call44 rfl (evc akt evn)) (bz aj fun w' hw => xu w' H2) ?_;simp only [aa];refine cC 3 ?_;refine cC 1 ?_;refine bQ ake (fun _ => aB call45 rfl (evc akt evn)) (bz aj fun _ hw => dJ.devices (dJ.below HB hw)) ?_;simp only [aa];refine aks (fun _ hw => ax rfl akt pz) ?_;refine aks (fun _ hw => ax rfl akt oP) ?_;refine aks (fun _ hw => aD rfl akt (cd (HX.out.below HLT hw).cells.1)) ?_;refine aks (fun _ hw => bH rfl akt evk HAD) ?_;refine aks (fun _ hw => aK true rfl akt akt H3) ?_;refine cC 1 ?_;refine wpQuiet_nil ?_;intro w2 hw;have HB2 := ae (HB1.out.trans (hw.mono HB1.out.size));go_wp2_with fail;go_ret2;exact ⟨HB2, .inr ⟨HNO, rfl⟩⟩
theorem afD (id en : Nat) (x : Ros) (w : World) (hb : dJ.Bn w F q M) (h0 : id ≠ 0) (h1 : ¬ 2305843009213693952 < en) (h2 : aW x = true) (h3 : (M.ds.length : Int) = x.m + 1) : Calls prog 18 #[.pointer (some ⟨q, 0, none⟩), .int .u64 (id : Int), .int .u64 (en : Int), ros x] w (rF w q M id en x) := by
 obtain ⟨w1, hw1⟩ : ∃ w1, w.alloc (.cells (aZ x).toArray 58) = w1 := ⟨_, rfl⟩;obtain ⟨hx, hb1, hlt⟩ := db w x;rw [hw1] at hx hb1 hlt;have HW1 := ae hw1;have HX := ae hx;have HB1 := ae hb1;have HLT := ae hlt;have HB := ae (dJ.below hb hb1);clear hw1 hx hb1 hlt hb;have H0 : Hid (((id : Int) == 0) = false) := ae (av (by omega));have H1 : Hid (decide ((2305843009213693952 : Int) < (en : Int)) = false) := ae (am (by omega));have H2 := ae h2;have hge := ew (ex h2).1;have HGE := ae hge;have HAD : Hid (IntKind.i64.wrap (x.m + 1) = x.m + 1) := ae (el (by omega));have HSD : Hid (IntKind.i64.wrap (x.s + 2) = x.s + 2) := ae (el (by omega));have H3 : Hid (((M.ds.length : Int) != x.m + 1) = false) := ae (by rw [h3]; exact bne_self_eq_false _);have HK : Hid (gy M id en x = lS M x x.m.toNat) := ae (by unfold gy; rw [am h0, am h1, h2, ao h3]; rfl);clear h0 h1 h2 h3 hge;go_enter func18, ntmps18;go_upto_region 0 with fail;refine af ?_;refine akj (a6 rfl akt) ?_;rw [HW1.out];refine aF 2 ?_;go_upto_region 1 with fail;refine aS (B := w1.heap.size) (by kernel_rfl) ?_;refine cC 1 ?_;refine akr (fun _ hw => aH false rfl akt evk H0) ?_;refine cC 2 ?_;refine aks (fun _ hw => dA false rfl akt evk H1) ?_;refine cC 2 ?_;refine aks (fun _ hw => bi rfl akt ((HX.out.below HLT hw).range)) ?_;refine bQ ake (fun _ => aB call44 rfl (evc akt evn)) (bz aj fun w' hw => xu w' H2) ?_;simp only [aa];refine cC 3 ?_;refine cC 1 ?_;refine bQ ake (fun _ => aB call45 rfl (evc akt evn)) (bz aj fun _ hw => dJ.devices (dJ.below HB hw)) ?_;simp only [aa];refine aks (fun _ hw => ax rfl akt pz) ?_;refine aks (fun _ hw => ax rfl akt oP) ?_;refine aks (fun _ hw => aD rfl akt (cd (HX.out.below HLT hw).cells.1)) ?_;refine aks (fun _ hw => bH rfl akt evk HAD) ?_;refine aks (fun _ hw => aK false rfl akt akt H3) ?_;refine cC 1 ?_;refine wpQuiet_nil ?_;intro w2 hw;have HB2 := ae (HB1.out.trans (hw.mono HB1.out.size));have HX2 := ae (HX.out.below HLT hw);have HL2 := ae (au HLT hw.size);have HBB := ae (dJ.below HB hw);clear hw;go_wp2_with fail
 go_loopw [10] (fun z wr => ∃ i : Nat, z = .int .i64 i /\ i <= x.m.toNat /\ lS M x i = true /\ Below w2.heap.size w2 wr) (fun z _ => x.m.toNat - (intOf z).toNat)
 case atStart => exact ⟨0, by go_num, Nat.zero_le _, rfl, ak⟩
 case round =>
  obtain ⟨i, rfl, hi, hs, hb⟩ := hrel;have HS := ae hs;have HW := ae hb;have HX3 := ae (HX2.out.below HL2 (hb.mono aj));have HL3 := ae (au HL2 hb.size);have HB3 := ae (dJ.below HBB hb);clear hs hb;go_upto_region 4 with fail;refine aI 1 ?_;refine akj (ax rfl akt pz) ?_;refine akj (ax rfl akt oP) ?_;refine akj (aD rfl akt (cd HX3.out.cells.1)) ?_;by_cases hlt : i < x.m.toNat
  ·have HI := ae hlt;have HT : Hid (decide ((i : Int) < x.m) = true) := ae (ao (by have := HGE.out; omega));have HA : Hid (IntKind.i64.wrap ((i : Int) + 1) = ((i + 1 : Nat) : Int)) := ae (by have := HGE.out; rw [el ⟨by omega, by omega⟩]; omega);clear hi hlt;refine akj (aY true rfl akt akt HT) ?_;refine ah ?_;go_upto_region 6 with fail;refine aS (B := wr.heap.size) (by kernel_rfl) ?_;refine cC 2 ?_;refine bQ rfl (fun _ => aB call46 rfl (evc akt (evc akt evn))) (bz aj fun _ hw => dJ.fR (i : Int) (dJ.below HB3 hw)) ?_;simp only [aa];refine akr (fun _ hw => ax rfl akt pz) ?_;refine akr (fun _ hw => ax rfl akt acd) ?_;refine akr (fun _ hw => aD rfl akt (cd (HX3.out.below HL3 hw).cells.2.1)) ?_;refine akr (fun _ hw => bH rfl akt evk HSD) ?_;by_cases hq : io M (i : Int) < x.s + 2
   ·have HQ : Hid (decide (io M (i : Int) < x.s + 2) = true) := ae (ao hq);have HNO : Hid (gy M id en x = false) := ae (by rw [HK.out]; exact sO (by omega) HI);clear hq;refine akr (fun _ hw => aY true rfl akt akt HQ) ?_;refine wpQuiet_nil ?_;intro w4 hw;have HW4 := ae (HW.out.trans (hw.mono HW.out.size));clear hw;go_wp2_with fail;go_ret2;exact ⟨HB2.out.trans (HW4.out.mono HB2.out.size), .inr ⟨HNO, rfl⟩⟩
   have HQ : Hid (decide (io M (i : Int) < x.s + 2) = false) := ae (am hq);have HS2 := ae (mw HS (by omega));clear hq;refine akr (fun _ hw => aY false rfl akt akt HQ) ?_;refine wpQuiet_nil ?_;intro w4 hw;have HW4 := ae (HW.out.trans (hw.mono HW.out.size));clear hw;go_upto_region 5 with fail;refine aI 1 ?_;refine akj (bH rfl akt evk HA) ?_;refine aF 1 ?_;go_wp2_with fail;go_roundw
   case rel => exact ⟨i + 1, by go_num, HI, HS2, HW4⟩
   case measure => have := HI.out; simp [intOf]; omega
  have hin : i = x.m.toNat := by omega
  have HT : Hid (decide ((i : Int) < x.m) = false) := ae (am (by have := HGE.out; omega));have HYES : Hid (gy M id en x = true) := ae (by rw [HK.out, <- hin]; exact HS);clear hi hlt hin;refine akj (aY false rfl akt akt HT) ?_;refine ah ?_;go_upto_region 8 with fail;refine aI 3 ?_;refine akj (bi rfl akt HX3.out.range) ?_;refine akj (wh rfl akt akt akt akt) ?_;refine akj (cO (cs := rhC q id en x) rfl akt) ?_;refine aF 2 ?_;go_wp2_with fail;go_ret2;have hw3 := HB2.out.trans (HW.out.mono HB2.out.size);exact ⟨hw3.alloc hw3.size _, .inl ⟨HYES, _, rfl, heap_alloc_new wr _, hw3.size⟩⟩
theorem aiJ (id en : Nat) (x : Ros) (w : World) (hb : dJ.Bn w F q M) : Calls prog 18 #[.pointer (some ⟨q, 0, none⟩), .int .u64 (id : Int), .int .u64 (en : Int), ros x] w (rF w q M id en x) := by
 by_cases h0 : id = 0
 ·exact af0 id en x w hb h0
 by_cases h1 : 2305843009213693952 < en
 ·exact afq id en x w hb h0 h1
 cases h2 : aW x
 ·exact aek id en x w hb h0 h1 h2
 by_cases h3 : (M.ds.length : Int) = x.m + 1
 ·exact afD id en x w hb h0 h1 h2 h3
 ·exact aee id en x w hb h0 h1 h2 h3
end
structure CrG (w : World) (G : Nat -> Prop) : Prop where
 t : Tab w
 off : ¬ G 0
structure eN where
 R : ajq
 J : World -> (Nat -> Prop) -> Nat -> Nat -> HuS -> Prop
 lt : ∀ {w G q p h}, J w G q p h -> ∀ b, G b -> b < w.heap.size
 fin : ∀ {w G q p h}, J w G q p h -> aW h.R = true /\ h.id ≠ 0
 only : ∀ {w w' G F q p h}, J w G q p h -> Only F w w' -> (∀ b, G b -> ¬ F b) -> J w' G q p h
 ben : ∀ {w G q p h}, J w G q p h -> ∃ Gb, R.Bn w Gb q h.M /\ (∀ b, Gb b -> G b) /\ ∀ w' Gb' M', R.Bn w' Gb' q M' -> Only Gb w w' -> Grow w Gb Gb' -> ∃ G', J w' G' q p { h with M := M' } /\ Only G w w' /\ Grow w G G'
 new_ : ∀ {w G q M} (id ev : Nat) (x : Ros), id < 18446744073709551616 -> ev < 18446744073709551616 -> R.Bn w G q M -> Calls prog 17 #[.pointer (some ⟨q, 0, none⟩), .int .u64 (id : Int), .int .u64 (ev : Int), ros x] w fun e w' =>
  Below w.heap.size w w' /\ ((gy M id ev x = true /\ ∃ p G', e = .returned (.tuple #[.pointer (some ⟨p, 0, none⟩), .int .i64 0]) /\ J w' G' q p ⟨M, id, ev, x⟩ /\ ∀ b, G' b -> G b \/ w.heap.size <= b) \/ (gy M id ev x = false /\ e = .returned (.tuple #[.pointer none, .int .i64 2])))
 new_nil : ∀ (w : World) (id ev : Nat) (x : Ros), id < 18446744073709551616 -> ev < 18446744073709551616 -> Calls prog 17 #[.pointer none, .int .u64 (id : Int), .int .u64 (ev : Int), ros x] w fun e w' => e = .returned (.tuple #[.pointer none, .int .i64 1]) /\ Below w.heap.size w w'
 write : ∀ {w G q p h} (s m : Int) (b : Blk), J w G q p h -> CrG w G -> Room h.M 600 -> h.ev <= 4611686018427387000 -> Calls prog 36 #[.pointer (some ⟨p, 0, none⟩), .agg #[.int .i64 s, .int .i64 m], blk b] w fun e w' => e = .returned (.int .i64 (jZ h s m b)) /\ ∃ G', (wL h s m -> J w' G' q p (fU h s m b)) /\ Only G w w' /\ Grow w G G' /\ ∃ Gb, R.Bn w' Gb q (fU h s m b).M /\ ∀ b, Gb b -> G' b
 id_ : ∀ {w G q p h}, J w G q p h -> Calls prog 66 #[.pointer (some ⟨p, 0, none⟩)] w fun e w' => e = .returned (.int .u64 (h.id : Int)) /\ Below w.heap.size w w'
 state : ∀ {w G q p h}, J w G q p h -> Calls prog 103 #[.pointer (some ⟨p, 0, none⟩)] w fun e w' => e = .returned (.int .i64 (stN h.R : Nat)) /\ Below w.heap.size w w'
 aia : ∀ {w G q p h}, J w G q p h -> Calls prog 134 #[.pointer (some ⟨p, 0, none⟩)] w fun e w' => e = .returned (ros h.R) /\ Below w.heap.size w w'
 No : World -> Value -> Prop
 zc : List Value
 zb : List Value
 no_nil : ∀ w : World, No w (.pointer none)
 bld0 : ∀ w : World, (Instr.build 60 #[]).run prog w = .ok (.agg zc.toArray) w
 bldB : ∀ w : World, (Instr.build 95 #[]).run prog w = .ok (.agg zb.toArray) w
 no_zero : ∀ w : World, No (w.alloc (.cells zc.toArray 60)) (.pointer (some ⟨w.heap.size, 0, none⟩))
 no_below : ∀ {w w' : World} {v : Value}, No w v -> Below w.heap.size w w' -> No w' v
 new_zero : ∀ (w : World) (b : Nat) (id ev : Nat) (x : Ros), w.heap[b]? = some (.cells zb.toArray 95 (0, 0)) -> id < 18446744073709551616 -> ev < 18446744073709551616 -> Calls prog 17 #[.pointer (some ⟨b, 0, none⟩), .int .u64 (id : Int), .int .u64 (ev : Int), ros x] w fun e w' => e = .returned (.tuple #[.pointer none, .int .i64 1]) /\ Below w.heap.size w w'
 no_write : ∀ (w : World) (v : Value) (s m : Int) (b : Blk), No w v -> Calls prog 36 #[v, .agg #[.int .i64 s, .int .i64 m], blk b] w fun e w' => e = .returned (.int .i64 1) /\ Below w.heap.size w w'
 no_flush : ∀ (w : World) (v : Value) , No w v -> Calls prog 34 #[v] w fun e w' => e = .returned (.int .i64 1) /\ Below w.heap.size w w'
 no_id : ∀ (w : World) (v : Value) , No w v -> Calls prog 66 #[v] w fun e w' => e = .returned (.int .u64 0) /\ Below w.heap.size w w'
 no_state : ∀ (w : World) (v : Value) , No w v -> Calls prog 103 #[v] w fun e w' => e = .returned (.int .i64 0) /\ Below w.heap.size w w'
theorem eN.below (C : eN) {w w' : World} {G : Nat -> Prop} {q p : Nat} {h : HuS} (hj : C.J w G q p h) (k : Below w.heap.size w w') : C.J w' G q p h := C.only hj (Only.of_below (fun _ => False) k) fun _ _ e => e
structure oN (w0 : World) (B : Nat) : Prop where
 le : B <= w0.heap.size
 t : Tab w0
 lo : 0 < B
theorem gv {w : World} {b j : Nat} {v : Value} (h : w.cell? ⟨b, j, none⟩ = some v) : b < w.heap.size := by
 rcases Nat.lt_or_ge b w.heap.size with h' | h'
 ·exact h'
 ·have : w.heap[b]? = none := Array.getElem?_eq_none h';simp [World.cell?, this] at h
theorem oN.start {w : World} (h : Tab w) : oN w w.heap.size := ⟨aj, h, gv (h 0 (by omega))⟩
theorem oN.tab {w0 w : World} {B : Nat} (h : oN w0 B) (hb : Below B w0 w) : Tab w := fun i hi => (World.cell?_of_block (w := w0) (hb.block _ h.lo)).trans (h.t i hi)
def cj (K : Nat -> Prop) (w w' : World) : Prop := ∀ b, K b -> w'.heap[b]? = w.heap[b]?
theorem cj.refl (K : Nat -> Prop) (w : World) : cj K w w := fun _ _ => rfl
theorem cj.trans {K : Nat -> Prop} {w1 w2 w3 : World} (h : cj K w1 w2) (k : cj K w2 w3) : cj K w1 w3 := fun b e => (k b e).trans (h b e)
theorem cj.less {K K' : Nat -> Prop} {w1 w2 : World} (h : cj K w1 w2) (hK : ∀ b, K' b -> K b) : cj K' w1 w2 := fun b e => h b (hK b e)
theorem cj.at_ {K : Nat -> Prop} {w w' : World} {b : Nat} {o : Obj} (k : cj K w w') (hb : K b) (ho : w.heap[b]? = some o) : w'.heap[b]? = some o := (k b hb).trans ho
theorem cj.xM {K : Nat -> Prop} {w w' : World} {g : Nat} (ho : Only (fun b => b = g) w w') (hK : ∀ b, K b -> b ≠ g /\ b < w.heap.size) : cj K w w' := fun b e => ho.block b (hK b e).2 (hK b e).1
section
variable {C : eN} {w0 w w' : World} {B q p : Nat} {K K' : Nat -> Prop} {h h' : HuS}
theorem oN.crg {G : Nat -> Prop} (h : oN w0 B) (hb : Below B w0 w) (hG : ∀ b, G b -> B <= b) : CrG w G := ⟨h.tab hb, fun e => by have := h.lo; have := hG _ e; omega⟩
end
structure LC where
 kn : Bool
 dt : Bool
 b : Blk
def lc0 : LC := ⟨false, false, aJ⟩
structure LnS where
 l : List LC
 f : Nat
def da (s : LnS) (k : Nat) : LC := s.l.getD k lc0
def lnR (s : LnS) (m : Int) : Bool := decide (0 <= m) && decide (m < (s.l.length : Int))
def rT (f q : Nat) : Nat := if f = 0 \/ q < f then q else f
def lnE (s : LnS) (m : Int) : Int := if lnR s m then 0 else 2
def qz (s : LnS) (m : Int) (q : Nat) : Int := if lnR s m && !decide (q = 0) then 0 else 2
def ey (s : LnS) (m : Int) (b : Blk) (q : Nat) : LnS := if lnR s m && !decide (q = 0) then ⟨s.l.set m.toNat ⟨true, true, b⟩, rT s.f q⟩ else s
def fW (s : LnS) (m : Int) : LnS := if lnR s m then ⟨s.l.set m.toNat lc0, s.f⟩ else s
def lcC (c : LC) : LC := { c with dt := false }
def fV (s : LnS) : LnS := ⟨s.l.map lcC, 0⟩
def lnG (s : LnS) (m : Int) : LC := if lnR s m then da s m.toNat else lc0
def gO (l : List LC) : Nat -> List Int
 |0 => []
 |n + 1 => gO l n ++ (if (l.getD n lc0).dt then [(n : Int)] else [])
def lnD (s : LnS) : List Int := gO s.l s.l.length
def ajw (L : List Int) : Nat -> Nat
 |0 => 0
 |n + 1 => rT (ajw L n) (L.getD n 0).toNat
structure dV (s : LnS) : Prop where
 lo : 1 <= s.l.length
 hi : s.l.length <= 16
 fb : s.f < 18446744073709551616
 no : ∀ k, k < s.l.length -> (da s k).kn = false -> da s k = lc0
def ed (n : Nat) : LnS := ⟨List.replicate n lc0, 0⟩
theorem aeY {f q B : Nat} (hf : f < B) (hq : q < B) : rT f q < B := by unfold rT; split <;> omega
theorem jr {α : Type} (l : List α) (k j : Nat) (a d : α) (hk : k < l.length) : (l.set k a).getD j d = if j = k then a else l.getD j d := by
 by_cases e : j = k
 ·subst e; rw [if_pos rfl]; simp [List.getD, hk]
 ·rw [if_neg e]; simp only [List.getD]; rw [List.getElem?_set_ne (by omega)]
section
variable {s : LnS} {m : Int} {b : Blk} {q n : Nat}
theorem ag0 (h : lnR s m = true) : 0 <= m /\ m < (s.l.length : Int) := by unfold lnR at h; simpa using h
theorem iM {k : Nat} (h : k < s.l.length) : lnR s (k : Int) = true := by unfold lnR; simp [h]
theorem sX {a : LC} {f : Nat} (h : dV s) (k : Nat) (ha : a.kn = false -> a = lc0) (hf : f < 18446744073709551616) : dV ⟨s.l.set k a, f⟩ := by
 refine ⟨by rw [List.length_set]; exact h.lo, by rw [List.length_set]; exact h.hi, hf, fun j hj hn => ?_⟩;rw [List.length_set] at hj;unfold da at hn ⊢;by_cases hk : k < s.l.length
 ·rw [jr _ _ _ _ _ hk] at hn ⊢;by_cases e : j = k
  ·rw [if_pos e] at hn ⊢; exact ha hn
  ·rw [if_neg e] at hn ⊢; exact h.no j hj hn
 ·have e : s.l.set k a = s.l := List.set_eq_of_length_le (by omega);simp only [e] at hn ⊢;exact h.no j hj hn
theorem dV.set (h : dV s) (m : Int) (b : Blk) (hq : q < 18446744073709551616) : dV (ey s m b q) := by
 unfold ey
 split
 ·exact sX h _ (fun e => by cases e) (aeY h.fb hq)
 ·exact h
theorem dV.frg (h : dV s) (m : Int) : dV (fW s m) := by
 unfold fW
 split
 ·exact sX h _ (fun _ => rfl) h.fb
 ·exact h
theorem xx (k : Nat) : da (fV s) k = lcC (da s k) := by
 unfold da fV;simp only [List.getD, List.getElem?_map];cases s.l[k]? <;> rfl
theorem dV.cln (h : dV s) : dV (fV s) := by
 refine ⟨by simp [fV]; exact h.lo, by simp [fV]; exact h.hi, by simp [fV], fun k hk hn => ?_⟩;rw [xx] at hn ⊢;have hk' : k < s.l.length := by simpa [fV] using hk
 rw [h.no k hk' hn]
 rfl
theorem dV.new (h1 : 1 <= n) (h2 : n <= 16) : dV (ed n) := by
 refine ⟨by simp [ed]; exact h1, by simp [ed]; exact h2, by simp [ed], fun k hk _ => ?_⟩;have hk' : k < n := by simpa [ed] using hk
 simp [da, ed, List.getD, hk']
theorem yO (m : Int) (b : Blk) (q : Nat) : (ey s m b q).l.length = s.l.length := by unfold ey; split <;> simp
theorem ae6 (m : Int) : (fW s m).l.length = s.l.length := by unfold fW; split <;> simp
theorem yu : (fV s).l.length = s.l.length := by simp [fV]
theorem xK {l : List LC} : ∀ {n : Nat} {x : Int}, x ∈ gO l n -> ∃ k : Nat, x = (k : Int) /\ k < n /\ (l.getD k lc0).dt = true
 |0, x, h => by simp [gO] at h
 |n + 1, x, h => by
  rw [gO, List.mem_append] at h;rcases h with h | h
  ·obtain ⟨k, h1, h2, h3⟩ := xK h; exact ⟨k, h1, by omega, h3⟩
  ·split at h
   ·rename_i e; simp at h; exact ⟨n, h, by omega, e⟩
   ·simp at h
theorem yH (l : List LC) (n : Nat) : (gO l n).length <= n := by
 induction n with
 |zero => simp [gO]
 |succ n ih => rw [gO, List.length_append]; split <;> simp <;> omega
theorem qj {l : List LC} {n : Nat} (h : ∀ k, k < n -> (l.getD k lc0).dt = false) : gO l n = [] := by
 induction n with
 |zero => rfl
 |succ n ih => rw [gO, ih fun k hk => h k (by omega), h n (by omega)]; rfl
theorem yU (n : Nat) : lnD (ed n) = [] := qj fun k hk => by
 have hk' : k < n := by simpa [ed] using hk
 simp [ed, List.getD, hk', lc0]
theorem x7 : lnD (fV s) = [] := qj fun k hk => by
 have := xx (s := s) k;unfold da at this;rw [this]
 rfl
end
section
variable {s : LnS} {m : Int} {b : Blk} {q k : Nat}
theorem kL (h : lnR s m = true) : ∃ k : Nat, m = (k : Int) /\ k < s.l.length := by
 have := ag0 h;exact ⟨m.toNat, by omega, by omega⟩
theorem pR (h : lnR s m = false) : lnE s m = 2 := by unfold lnE; rw [h]; rfl
theorem xA (h : k < s.l.length) : lnE s (k : Int) = 0 := by unfold lnE; rw [iM h]; rfl
theorem afP (h : lnR s m = false) : qz s m q = 2 := by unfold qz; rw [h]; rfl
theorem ahK : qz s m 0 = 2 := by unfold qz; cases lnR s m <;> rfl
theorem yt (h : k < s.l.length) (hq : q ≠ 0) : qz s (k : Int) q = 0 := by unfold qz; rw [iM h, am hq]; rfl
theorem abJ (h : lnR s m = false) : ey s m b q = s := by unfold ey; rw [h]; rfl
theorem ae8 : ey s m b 0 = s := by unfold ey; cases lnR s m <;> rfl
theorem qg (h : k < s.l.length) (hq : q ≠ 0) : ey s (k : Int) b q = ⟨s.l.set k ⟨true, true, b⟩, rT s.f q⟩ := by unfold ey; rw [iM h, am hq, Int.toNat_natCast]; rfl
theorem acV (h : lnR s m = false) : fW s m = s := by unfold fW; rw [h]; rfl
theorem acN (h : k < s.l.length) : fW s (k : Int) = ⟨s.l.set k lc0, s.f⟩ := by unfold fW; rw [iM h, Int.toNat_natCast]; rfl
theorem ag4 (h : lnR s m = false) : lnG s m = lc0 := by unfold lnG; rw [h]; rfl
theorem ail (h : k < s.l.length) : lnG s (k : Int) = da s k := by unfold lnG; rw [iM h, Int.toNat_natCast]; rfl
end
end Go.Proofs.YtlmdklakcmnaiaaGreatDoor
