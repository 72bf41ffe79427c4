import Derived.Test.YtehefifamaofkaaGreatDoorGfaf
namespace Go.Proofs.YtehefifamaofkaaGreatDoor
set_option maxHeartbeats 8000000
open Go.Proofs.Tryz
open Go.RowKit
set_option linter.unusedVariables false
set_option linter.unusedSimpArgs false
set_option maxRecDepth 100000
theorem pX {ρ : Operand -> Value} {o : Oper} {x : Operand} {w : World} {g c : Nat} (ho : o.op = .sliceToArrayPointer 162 x) (hx : ρ x = .slice (some ⟨g, 0, none⟩) 44 c) : (execOp ρ o).run prog w = .ok (.value (.pointer (some ⟨g, 0, none⟩))) w := by
 unfold execOp;simp [ho, hx, Instr.arrayAt, run_underlying underlying162]
section
variable (b : Blk) (w : World)
structure SgW (w w3 : World) (b : Blk) (g s : Nat) (l : List UInt8) (y : Sup) : Prop where
 row : cl w3 g 5 l
 sup : bS w3 s y
 res : w3.there (w.heap.size + 1) 0 23
 bel : Below w.heap.size w w3
 lt : w.heap.size + 1 < w3.heap.size
theorem SgW.keep {w w3 w4 : World} {b : Blk} {g s : Nat} {l : List UInt8} {y : Sup} (h : SgW w w3 b g s l y) (hb : Below w3.heap.size w3 w4) : SgW w w4 b g s l y :=
 ⟨h.row.below h.row.lt hb, h.sup.below (aW h.sup) hb, bK h.res h.lt hb, h.bel.trans (hb.mono h.bel.size), aq h.lt hb.size⟩
end
theorem rt (b : Blk) (w : World) (T : Tab w) (h : dm b.toList ≠ 0) : Calls prog 117 #[blk b] w fun e w' => e = .returned (.tuple #[.int .u64 (0 : Nat), sup bp, .int .i64 (dm b.toList : Nat)]) /\ Below w.heap.size w w' := by
 obtain ⟨n, hn⟩ : ∃ n, dM b.toList = n := ⟨_, rfl⟩;obtain ⟨l, hl⟩ : ∃ l, da b.toList = l := ⟨_, rfl⟩;have h1 := (Below.refl w.heap.size w).alloc ai (.cells (cel b).toArray 29);have h2 := h1.alloc h1.size (.cells (aV bp).toArray 37);have HA : Hid (((w.alloc (.cells (cel b).toArray 29)).alloc (.cells (aV bp).toArray 37)).rangeAt w.heap.size 0 (cel b)) := ae (World.rangeAt_alloc (dH w (cel b) 29) _);have hsn := bS.new (w.alloc (.cells (cel b).toArray 29)) bp;rw [World.size_alloc] at hsn;have HR := ae (bm (o := 0) (n := 23) hsn (by rw [aH]; exact ai));have HZ := ae (aW hsn);have HB := ae h2;have HT := ae (T.below h2);have HN := ae hn;have HL := ae hl;clear h1 h2 hsn T;obtain ⟨E, hE⟩ : ∃ E, dm b.toList = E := ⟨_, rfl⟩;rw [hE] at h;have HE := ae hE;have hne : ((E : Int) != 0) = true := by simp; omega
 clear hE hn hl;go_enter func117, ntmps117;go_wp2_with (first | (refine au rfl (cd rfl rfl) ?_) | (refine au rfl (bH rfl) ?_) | (refine au rfl (bk (c := b) rfl rfl ?_) ?_; (with_reducible exact HA.out)) | fail)
 try simp only [World.size_alloc]
 generalize (w.alloc (.cells (cel b).toArray 29)).alloc (.cells (aV bp).toArray 37) = w0 at *;refine (hJ b _ w0 (ae rfl) HT).mono ?_;rintro e w1 ⟨v, rfl, hv, hb⟩;rw [HN.out];rw [HE.out];have HR1 := ae (bK HR HZ hb);have HB1 := ae (HB.out.trans (hb.mono HB.out.size));clear hv hb HA HR HB;go_wp2_with (first | (refine au rfl (eX rfl) ?_) | (refine az rfl (cH (c := bp) rfl rfl rfl ?_) ?_; (with_reducible exact HR1.out)) | fail);refine bodyPost_ret (fc (t := 37) (cs := aV bp) rfl _ _ _ rfl ?h1 underlying37 rfl ?h2) rfl ⟨by rw [HE.out]; rfl, ?h3⟩
 case h1 => exact World.rangeAt_setCells_same _ _ _ _ (by rw [aH]; exact HR1)
 case h2 => rw [aH]; exact ft
 case h3 => exact below_setCells HB1 (Nat.le_succ _) _
theorem vf (b : Blk) (w : World) (T : Tab w) (h0 : dm b.toList = 0) (hev : evB (dM b.toList) = false) : Calls prog 117 #[blk b] w fun e w' => e = .returned (.tuple #[.int .u64 (0 : Nat), sup bp, .int .i64 (5 : Nat)]) /\ Below w.heap.size w w' := by
 obtain ⟨n, hn⟩ : ∃ n, dM b.toList = n := ⟨_, rfl⟩;obtain ⟨l, hl⟩ : ∃ l, da b.toList = l := ⟨_, rfl⟩;have h1 := (Below.refl w.heap.size w).alloc ai (.cells (cel b).toArray 29);have h2 := h1.alloc h1.size (.cells (aV bp).toArray 37);have HA : Hid (((w.alloc (.cells (cel b).toArray 29)).alloc (.cells (aV bp).toArray 37)).rangeAt w.heap.size 0 (cel b)) := ae (World.rangeAt_alloc (dH w (cel b) 29) _);have hsn := bS.new (w.alloc (.cells (cel b).toArray 29)) bp;rw [World.size_alloc] at hsn;have HR := ae (bm (o := 0) (n := 23) hsn (by rw [aH]; exact ai));have HZ := ae (aW hsn);have HB := ae h2;have HT := ae (T.below h2);have HN := ae hn;have HL := ae hl;clear h1 h2 hsn T;rw [hn] at hev;have HEV := ae hev;clear hev;clear hn hl;go_enter func117, ntmps117;go_wp2_with (first | (refine au rfl (cd rfl rfl) ?_) | (refine au rfl (bH rfl) ?_) | (refine au rfl (bk (c := b) rfl rfl ?_) ?_; (with_reducible exact HA.out)) | fail)
 try simp only [World.size_alloc]
 generalize (w.alloc (.cells (cel b).toArray 29)).alloc (.cells (aV bp).toArray 37) = w0 at *;refine (hJ b _ w0 (ae rfl) HT).mono ?_;rintro e w1 ⟨v, rfl, hv, hb⟩;rw [HN.out];rw [h0];have hll : l.length = 44 := by rw [<- HL.out]; exact gZ h0
 have HLL := ae hll;rw [HL.out] at hv;obtain ⟨g, hve, hrow⟩ : ∃ g, v = .slice (some ⟨g, 0, none⟩) 44 44 /\ cl w1 g 5 l := by
  rcases hv with ⟨_, rfl⟩ | ⟨g, e, _, hr, _⟩
  ·simp at hll
  ·rw [hll] at e; exact ⟨g, e, hr⟩
 subst hve;have HR1 := ae (bK HR HZ hb);have HB1 := ae (HB.out.trans (hb.mono HB.out.size));have HZ1 : Hid (w.heap.size + 1 < w1.heap.size) := ae (aq HZ hb.size);have HRW := ae hrow;clear hv hb HA HR HB HZ hll h0 hrow;go_wp2_with fail;refine (sF g l w1 HLL HRW).mono ?_;rintro e w2 ⟨rfl, hb⟩;have hb3 := hb.alloc hb.size (.cells (aV (cg l)).toArray 37);have HW3 : Hid (SgW w (w2.alloc (.cells (aV (cg l)).toArray 37)) b g w2.heap.size l (cg l)) := ae ⟨HRW.out.below HRW.out.lt hb3, bS.new w2 _, bK HR1 HZ1 hb3, HB1.out.trans (hb3.mono HB1.out.size), aq HZ1 hb3.size⟩;have HI : Hid ((cg l).id < 18446744073709551616) := ae (fG (by rw [HLL.out]; omega));clear hb hb3 HRW HR1 HB1 HZ1;obtain ⟨y, hy⟩ : ∃ y, cg l = y := ⟨_, rfl⟩;have HY := ae hy;rw [hy] at HW3 HI;rw [hy];clear hy;have HFL := ae (cJ y);go_upto_region 5 with (first | (refine au rfl (bH rfl) ?_) | (refine az rfl (cG rfl rfl rfl) ?_) | fail);generalize w2.alloc (.cells (aV y).toArray 37) = w3 at *;have HS3 := ae HW3.out.sup;have HR3 := ae HW3.out.row;generalize w2.heap.size = s at *;refine bQ (B := w3.heap.size) (by kernel_rfl) ?_;refine dl 1 ?_;refine cu rfl (fun _ => aD call118 rfl (evc adh evn)) (ci ai fun w' hw => jG n w' HEV) ?_;simp only [aa];refine dl 1 ?_;refine nT 3 rfl (fun _ hw => aL rfl adh) (by kernel_rfl) ?_;simp only [bj, ac, aa];refine dl 1 ?_;refine nT 6 rfl (fun _ hw => aL rfl adh) (by kernel_rfl) ?_;simp only [bj, ac, aa];refine dl 1 ?_;refine wpQuiet_nil ?_;intro w4 hw;have HW4 := ae (HW3.out.keep hw);have HR4 := ae HW4.out.res;have HB4 := ae HW4.out.bel;clear HW3 HS3 HR3 hw;go_wp2_with (first | (refine au rfl (eX rfl) ?_) | (refine az rfl (cH (c := bp) rfl rfl rfl ?_) ?_; (with_reducible exact HR4.out)) | fail);refine bodyPost_ret (fc (t := 37) (cs := aV bp) rfl _ _ _ rfl ?h1 underlying37 rfl ?h2) rfl ⟨rfl, ?h3⟩
 case h1 => exact World.rangeAt_setCells_same _ _ _ _ (by rw [aH]; exact HR4)
 case h2 => rw [aH]; exact ft
 case h3 => exact below_setCells HB4 (Nat.le_succ _) _
theorem tU (b : Blk) (w : World) (T : Tab w) (h0 : dm b.toList = 0) (hev : evB (dM b.toList) = true) (hm : dW (cg (da b.toList)) = false) : Calls prog 117 #[blk b] w fun e w' => e = .returned (.tuple #[.int .u64 (0 : Nat), sup bp, .int .i64 (5 : Nat)]) /\ Below w.heap.size w w' := by
 obtain ⟨n, hn⟩ : ∃ n, dM b.toList = n := ⟨_, rfl⟩;obtain ⟨l, hl⟩ : ∃ l, da b.toList = l := ⟨_, rfl⟩;have h1 := (Below.refl w.heap.size w).alloc ai (.cells (cel b).toArray 29);have h2 := h1.alloc h1.size (.cells (aV bp).toArray 37);have HA : Hid (((w.alloc (.cells (cel b).toArray 29)).alloc (.cells (aV bp).toArray 37)).rangeAt w.heap.size 0 (cel b)) := ae (World.rangeAt_alloc (dH w (cel b) 29) _);have hsn := bS.new (w.alloc (.cells (cel b).toArray 29)) bp;rw [World.size_alloc] at hsn;have HR := ae (bm (o := 0) (n := 23) hsn (by rw [aH]; exact ai));have HZ := ae (aW hsn);have HB := ae h2;have HT := ae (T.below h2);have HN := ae hn;have HL := ae hl;clear h1 h2 hsn T;rw [hn] at hev;rw [hl] at hm;have HEV := ae hev;have HM0 := ae hm;clear hev hm;clear hn hl;go_enter func117, ntmps117;go_wp2_with (first | (refine au rfl (cd rfl rfl) ?_) | (refine au rfl (bH rfl) ?_) | (refine au rfl (bk (c := b) rfl rfl ?_) ?_; (with_reducible exact HA.out)) | fail)
 try simp only [World.size_alloc]
 generalize (w.alloc (.cells (cel b).toArray 29)).alloc (.cells (aV bp).toArray 37) = w0 at *;refine (hJ b _ w0 (ae rfl) HT).mono ?_;rintro e w1 ⟨v, rfl, hv, hb⟩;rw [HN.out];rw [h0];have hll : l.length = 44 := by rw [<- HL.out]; exact gZ h0
 have HLL := ae hll;rw [HL.out] at hv;obtain ⟨g, hve, hrow⟩ : ∃ g, v = .slice (some ⟨g, 0, none⟩) 44 44 /\ cl w1 g 5 l := by
  rcases hv with ⟨_, rfl⟩ | ⟨g, e, _, hr, _⟩
  ·simp at hll
  ·rw [hll] at e; exact ⟨g, e, hr⟩
 subst hve;have HR1 := ae (bK HR HZ hb);have HB1 := ae (HB.out.trans (hb.mono HB.out.size));have HZ1 : Hid (w.heap.size + 1 < w1.heap.size) := ae (aq HZ hb.size);have HRW := ae hrow;clear hv hb HA HR HB HZ hll h0 hrow;go_wp2_with fail;refine (sF g l w1 HLL HRW).mono ?_;rintro e w2 ⟨rfl, hb⟩;have hb3 := hb.alloc hb.size (.cells (aV (cg l)).toArray 37);have HW3 : Hid (SgW w (w2.alloc (.cells (aV (cg l)).toArray 37)) b g w2.heap.size l (cg l)) := ae ⟨HRW.out.below HRW.out.lt hb3, bS.new w2 _, bK HR1 HZ1 hb3, HB1.out.trans (hb3.mono HB1.out.size), aq HZ1 hb3.size⟩;have HI : Hid ((cg l).id < 18446744073709551616) := ae (fG (by rw [HLL.out]; omega));clear hb hb3 HRW HR1 HB1 HZ1;obtain ⟨y, hy⟩ : ∃ y, cg l = y := ⟨_, rfl⟩;have HY := ae hy;rw [hy] at HW3 HI HM0;have HM := HM0;rw [hy];clear hy;have HFL := ae (cJ y);go_upto_region 5 with (first | (refine au rfl (bH rfl) ?_) | (refine az rfl (cG rfl rfl rfl) ?_) | fail);generalize w2.alloc (.cells (aV y).toArray 37) = w3 at *;have HS3 := ae HW3.out.sup;have HR3 := ae HW3.out.row;generalize w2.heap.size = s at *;refine bQ (B := w3.heap.size) (by kernel_rfl) ?_;refine dl 1 ?_;refine cu rfl (fun _ => aD call118 rfl (evc adh evn)) (ci ai fun w' hw => jG n w' HEV) ?_;simp only [aa];refine dl 2 ?_;refine adg (fun _ hw => ce (c := y) rfl adh ((HS3.out.below (aW HS3) hw).range)) ?_;refine cu ac1 (fun _ => aD call119 rfl (evc adh evn)) (ci ai fun w' hw => ol y w' HM) ?_;simp only [aa];refine dl 2 ?_;refine nT 6 rfl (fun _ hw => aL rfl adh) (by kernel_rfl) ?_;simp only [bj, ac, aa];refine dl 1 ?_;refine wpQuiet_nil ?_;intro w4 hw;have HW4 := ae (HW3.out.keep hw);have HR4 := ae HW4.out.res;have HB4 := ae HW4.out.bel;clear HW3 HS3 HR3 hw;go_wp2_with (first | (refine au rfl (eX rfl) ?_) | (refine az rfl (cH (c := bp) rfl rfl rfl ?_) ?_; (with_reducible exact HR4.out)) | fail);refine bodyPost_ret (fc (t := 37) (cs := aV bp) rfl _ _ _ rfl ?h1 underlying37 rfl ?h2) rfl ⟨rfl, ?h3⟩
 case h1 => exact World.rangeAt_setCells_same _ _ _ _ (by rw [aH]; exact HR4)
 case h2 => rw [aH]; exact ft
 case h3 => exact below_setCells HB4 (Nat.le_succ _) _
theorem vM (b : Blk) (w : World) (T : Tab w) (h0 : dm b.toList = 0) (hev : evB (dM b.toList) = true) (hm : dW (cg (da b.toList)) = true) (hd : ch (cg (da b.toList)) ≠ da b.toList) : Calls prog 117 #[blk b] w fun e w' => e = .returned (.tuple #[.int .u64 (0 : Nat), sup bp, .int .i64 (5 : Nat)]) /\ Below w.heap.size w w' := by
 obtain ⟨n, hn⟩ : ∃ n, dM b.toList = n := ⟨_, rfl⟩;obtain ⟨l, hl⟩ : ∃ l, da b.toList = l := ⟨_, rfl⟩;have h1 := (Below.refl w.heap.size w).alloc ai (.cells (cel b).toArray 29);have h2 := h1.alloc h1.size (.cells (aV bp).toArray 37);have HA : Hid (((w.alloc (.cells (cel b).toArray 29)).alloc (.cells (aV bp).toArray 37)).rangeAt w.heap.size 0 (cel b)) := ae (World.rangeAt_alloc (dH w (cel b) 29) _);have hsn := bS.new (w.alloc (.cells (cel b).toArray 29)) bp;rw [World.size_alloc] at hsn;have HR := ae (bm (o := 0) (n := 23) hsn (by rw [aH]; exact ai));have HZ := ae (aW hsn);have HB := ae h2;have HT := ae (T.below h2);have HN := ae hn;have HL := ae hl;clear h1 h2 hsn T;rw [hn] at hev;rw [hl] at hm hd;have HEV := ae hev;have HM0 := ae hm;have HD0 : Hid (decide (ch (cg l) = l) = false) := ae (al hd);clear hev hm hd;clear hn hl;go_enter func117, ntmps117;go_wp2_with (first | (refine au rfl (cd rfl rfl) ?_) | (refine au rfl (bH rfl) ?_) | (refine au rfl (bk (c := b) rfl rfl ?_) ?_; (with_reducible exact HA.out)) | fail)
 try simp only [World.size_alloc]
 generalize (w.alloc (.cells (cel b).toArray 29)).alloc (.cells (aV bp).toArray 37) = w0 at *;refine (hJ b _ w0 (ae rfl) HT).mono ?_;rintro e w1 ⟨v, rfl, hv, hb⟩;rw [HN.out];rw [h0];have hll : l.length = 44 := by rw [<- HL.out]; exact gZ h0
 have HLL := ae hll;rw [HL.out] at hv;obtain ⟨g, hve, hrow⟩ : ∃ g, v = .slice (some ⟨g, 0, none⟩) 44 44 /\ cl w1 g 5 l := by
  rcases hv with ⟨_, rfl⟩ | ⟨g, e, _, hr, _⟩
  ·simp at hll
  ·rw [hll] at e; exact ⟨g, e, hr⟩
 subst hve;have HR1 := ae (bK HR HZ hb);have HB1 := ae (HB.out.trans (hb.mono HB.out.size));have HZ1 : Hid (w.heap.size + 1 < w1.heap.size) := ae (aq HZ hb.size);have HRW := ae hrow;clear hv hb HA HR HB HZ hll h0 hrow;go_wp2_with fail;refine (sF g l w1 HLL HRW).mono ?_;rintro e w2 ⟨rfl, hb⟩;have hb3 := hb.alloc hb.size (.cells (aV (cg l)).toArray 37);have HW3 : Hid (SgW w (w2.alloc (.cells (aV (cg l)).toArray 37)) b g w2.heap.size l (cg l)) := ae ⟨HRW.out.below HRW.out.lt hb3, bS.new w2 _, bK HR1 HZ1 hb3, HB1.out.trans (hb3.mono HB1.out.size), aq HZ1 hb3.size⟩;have HI : Hid ((cg l).id < 18446744073709551616) := ae (fG (by rw [HLL.out]; omega));clear hb hb3 HRW HR1 HB1 HZ1;obtain ⟨y, hy⟩ : ∃ y, cg l = y := ⟨_, rfl⟩;have HY := ae hy;rw [hy] at HW3 HI HM0 HD0;have HM := HM0;have HD := HD0;rw [hy];clear hy;have HFL := ae (cJ y);go_upto_region 5 with (first | (refine au rfl (bH rfl) ?_) | (refine az rfl (cG rfl rfl rfl) ?_) | fail);generalize w2.alloc (.cells (aV y).toArray 37) = w3 at *;have HS3 := ae HW3.out.sup;have HR3 := ae HW3.out.row;generalize w2.heap.size = s at *;refine bQ (B := w3.heap.size) (by kernel_rfl) ?_;refine dl 1 ?_;refine cu rfl (fun _ => aD call118 rfl (evc adh evn)) (ci ai fun w' hw => jG n w' HEV) ?_;simp only [aa];refine dl 2 ?_;refine adg (fun _ hw => ce (c := y) rfl adh ((HS3.out.below (aW HS3) hw).range)) ?_;refine cu ac1 (fun _ => aD call119 rfl (evc adh evn)) (ci ai fun w' hw => ol y w' HM) ?_;simp only [aa];refine dl 3 ?_;refine adg (fun _ hw => ce (c := y) rfl adh ((HS3.out.below (aW HS3) hw).range)) ?_;refine cu ac1 (fun _ => aD call120 rfl (evc adh evn)) (ci ai fun w' hw => xO y w' HI HM) ?_;simp only [aa];refine dl 1 ?_;refine adg (fun _ hw => pX rfl adh) ?_;refine adg (fun _ hw => fT HLL rfl adh (br (HR3.out.below HR3.out.lt hw))) ?_;refine adg (fun _ hw => nC false HFL HLL rfl adh adh HD) ?_;refine dl 1 ?_;refine wpQuiet_nil ?_;intro w4 hw;have HW4 := ae (HW3.out.keep hw);have HR4 := ae HW4.out.res;have HB4 := ae HW4.out.bel;clear HW3 HS3 HR3 hw;go_wp2_with (first | (refine au rfl (eX rfl) ?_) | (refine az rfl (cH (c := bp) rfl rfl rfl ?_) ?_; (with_reducible exact HR4.out)) | fail);refine bodyPost_ret (fc (t := 37) (cs := aV bp) rfl _ _ _ rfl ?h1 underlying37 rfl ?h2) rfl ⟨rfl, ?h3⟩
 case h1 => exact World.rangeAt_setCells_same _ _ _ _ (by rw [aH]; exact HR4)
 case h2 => rw [aH]; exact ft
 case h3 => exact below_setCells HB4 (Nat.le_succ _) _
theorem uY (b : Blk) (w : World) (T : Tab w) (h0 : dm b.toList = 0) (hev : evB (dM b.toList) = true) (hm : dW (cg (da b.toList)) = true) (hd : ch (cg (da b.toList)) = da b.toList) : Calls prog 117 #[blk b] w fun e w' => e = .returned (.tuple #[.int .u64 (dM b.toList : Nat), sup (cg (da b.toList)), .int .i64 (0 : Nat)]) /\ Below w.heap.size w w' := by
 obtain ⟨n, hn⟩ : ∃ n, dM b.toList = n := ⟨_, rfl⟩;obtain ⟨l, hl⟩ : ∃ l, da b.toList = l := ⟨_, rfl⟩;have h1 := (Below.refl w.heap.size w).alloc ai (.cells (cel b).toArray 29);have h2 := h1.alloc h1.size (.cells (aV bp).toArray 37);have HA : Hid (((w.alloc (.cells (cel b).toArray 29)).alloc (.cells (aV bp).toArray 37)).rangeAt w.heap.size 0 (cel b)) := ae (World.rangeAt_alloc (dH w (cel b) 29) _);have hsn := bS.new (w.alloc (.cells (cel b).toArray 29)) bp;rw [World.size_alloc] at hsn;have HR := ae (bm (o := 0) (n := 23) hsn (by rw [aH]; exact ai));have HZ := ae (aW hsn);have HB := ae h2;have HT := ae (T.below h2);have HN := ae hn;have HL := ae hl;clear h1 h2 hsn T;rw [hn] at hev;rw [hl] at hm hd;have HEV := ae hev;have HM0 := ae hm;have HD0 : Hid (decide (ch (cg l) = l) = true) := ae (am hd);clear hev hm hd;clear hn hl;go_enter func117, ntmps117;go_wp2_with (first | (refine au rfl (cd rfl rfl) ?_) | (refine au rfl (bH rfl) ?_) | (refine au rfl (bk (c := b) rfl rfl ?_) ?_; (with_reducible exact HA.out)) | fail)
 try simp only [World.size_alloc]
 generalize (w.alloc (.cells (cel b).toArray 29)).alloc (.cells (aV bp).toArray 37) = w0 at *;refine (hJ b _ w0 (ae rfl) HT).mono ?_;rintro e w1 ⟨v, rfl, hv, hb⟩;rw [HN.out];rw [h0];have hll : l.length = 44 := by rw [<- HL.out]; exact gZ h0
 have HLL := ae hll;rw [HL.out] at hv;obtain ⟨g, hve, hrow⟩ : ∃ g, v = .slice (some ⟨g, 0, none⟩) 44 44 /\ cl w1 g 5 l := by
  rcases hv with ⟨_, rfl⟩ | ⟨g, e, _, hr, _⟩
  ·simp at hll
  ·rw [hll] at e; exact ⟨g, e, hr⟩
 subst hve;have HR1 := ae (bK HR HZ hb);have HB1 := ae (HB.out.trans (hb.mono HB.out.size));have HZ1 : Hid (w.heap.size + 1 < w1.heap.size) := ae (aq HZ hb.size);have HRW := ae hrow;clear hv hb HA HR HB HZ hll h0 hrow;go_wp2_with fail;refine (sF g l w1 HLL HRW).mono ?_;rintro e w2 ⟨rfl, hb⟩;have hb3 := hb.alloc hb.size (.cells (aV (cg l)).toArray 37);have HW3 : Hid (SgW w (w2.alloc (.cells (aV (cg l)).toArray 37)) b g w2.heap.size l (cg l)) := ae ⟨HRW.out.below HRW.out.lt hb3, bS.new w2 _, bK HR1 HZ1 hb3, HB1.out.trans (hb3.mono HB1.out.size), aq HZ1 hb3.size⟩;have HI : Hid ((cg l).id < 18446744073709551616) := ae (fG (by rw [HLL.out]; omega));clear hb hb3 HRW HR1 HB1 HZ1;obtain ⟨y, hy⟩ : ∃ y, cg l = y := ⟨_, rfl⟩;have HY := ae hy;rw [hy] at HW3 HI HM0 HD0;have HM := HM0;have HD := HD0;rw [hy];clear hy;have HFL := ae (cJ y);go_upto_region 5 with (first | (refine au rfl (bH rfl) ?_) | (refine az rfl (cG rfl rfl rfl) ?_) | fail);generalize w2.alloc (.cells (aV y).toArray 37) = w3 at *;have HS3 := ae HW3.out.sup;have HR3 := ae HW3.out.row;generalize w2.heap.size = s at *;refine bQ (B := w3.heap.size) (by kernel_rfl) ?_;refine dl 1 ?_;refine cu rfl (fun _ => aD call118 rfl (evc adh evn)) (ci ai fun w' hw => jG n w' HEV) ?_;simp only [aa];refine dl 2 ?_;refine adg (fun _ hw => ce (c := y) rfl adh ((HS3.out.below (aW HS3) hw).range)) ?_;refine cu ac1 (fun _ => aD call119 rfl (evc adh evn)) (ci ai fun w' hw => ol y w' HM) ?_;simp only [aa];refine dl 3 ?_;refine adg (fun _ hw => ce (c := y) rfl adh ((HS3.out.below (aW HS3) hw).range)) ?_;refine cu ac1 (fun _ => aD call120 rfl (evc adh evn)) (ci ai fun w' hw => xO y w' HI HM) ?_;simp only [aa];refine dl 1 ?_;refine adg (fun _ hw => pX rfl adh) ?_;refine adg (fun _ hw => fT HLL rfl adh (br (HR3.out.below HR3.out.lt hw))) ?_;refine adg (fun _ hw => nC true HFL HLL rfl adh adh HD) ?_;refine dl 1 ?_;refine wpQuiet_nil ?_;intro w4 hw;have HW4 := ae (HW3.out.keep hw);have HR4 := ae HW4.out.res;have HB4 := ae HW4.out.bel;have HLD := ae HW4.out.sup.range;clear HW3 HS3 HR3 hw;go_wp2_with fail;refine wp_region_still_tail 3 (by kernel_rfl) (by kernel_rfl) ?_;simp only [ac];refine aJ rfl (aL rfl adh) ?_;simp only [aa];refine aJ rfl (ce (c := y) rfl adh HLD) ?_;simp only [aa];refine aJ rfl (ew rfl adh) ?_;simp only [aa];refine wpStill_nil ?_;change wpList _ _ _ _ _ (World.drew _);refine aZ rfl (cH (c := y) rfl (ev rfl) (ev rfl) HR4.out) ?_;simp only [aa];refine aP 1 ?_;go_wp2_with fail;refine bodyPost_ret (fc (t := 37) (cs := aV y) rfl _ _ _ rfl ?h1 underlying37 rfl ?h2) rfl ⟨by rw [HN.out, HL.out, HY.out]; rfl, ?h3⟩
 case h1 => exact World.rangeAt_setCells_same _ _ _ _ (by rw [aH]; exact HR4)
 case h2 => rw [aH]; exact ft
 case h3 => exact below_setCells (bd HB4) (Nat.le_succ _) _
theorem sB (b : Blk) (w : World) (T : Tab w) : Calls prog 117 #[blk b] w fun e w' => e = .returned (.tuple #[.int .u64 (gsN b : Nat), sup (gsS b), .int .i64 (gsE b : Nat)]) /\ Below w.heap.size w w' := by
 by_cases h0 : dm b.toList = 0
 ·by_cases hev : evB (dM b.toList) = true
  ·by_cases hm : dW (cg (da b.toList)) = true
   ·by_cases hd : ch (cg (da b.toList)) = da b.toList
    ·have hE := xG h0 ⟨hev, hm, hd⟩;rw [ow hE, rq hE, hE];exact uY b w T h0 hev hm hd
    ·have hE := lT h0 (fun h => hd h.2.2);rw [jd (by omega), j5 (by omega), hE];exact vM b w T h0 hev hm hd
   ·have hE := lT h0 (fun h => hm h.2.1);rw [jd (by omega), j5 (by omega), hE];exact tU b w T h0 hev (by simpa using hm)
  ·have hE := lT h0 (fun h => hev h.1);rw [jd (by omega), j5 (by omega), hE];exact vf b w T h0 (by simpa using hev)
 ·have hE := qo h0;rw [jd (by omega), j5 (by omega), hE];exact rt b w T h0
def w3_ (w : World) (a b : Blk) : World := ((w.alloc (.cells (cel a).toArray 29)).alloc (.cells (cel b).toArray 29)).alloc (.cells (aV bp).toArray 37)
theorem ki (w : World) (a b : Blk) : (w3_ w a b).rangeAt w.heap.size 0 (cel a) /\ (w3_ w a b).rangeAt (w.heap.size + 1) 0 (cel b) /\ (w3_ w a b).there (w.heap.size + 1 + 1) 0 23 /\ Below w.heap.size w (w3_ w a b) /\ w.heap.size + 1 + 1 < (w3_ w a b).heap.size := by
 unfold w3_;have e1 := World.size_alloc (w := w) (o := Obj.cells (cel a).toArray 29);have e2 := World.size_alloc (w := (w.alloc (.cells (cel a).toArray 29))) (o := Obj.cells (cel b).toArray 29);have h3 := bS.new ((w.alloc (.cells (cel a).toArray 29)).alloc (.cells (cel b).toArray 29)) bp;rw [e2, e1] at h3;refine ⟨World.rangeAt_alloc (World.rangeAt_alloc (dH w (cel a) _) _) _, ?_, bm (o := 0) (n := 23) h3 (by rw [aH]; exact ai), ?_, aW h3⟩
 ·rw [<- e1]; exact World.rangeAt_alloc (dH _ (cel b) _) _
 ·exact (((Below.refl _ w).alloc ai _).alloc (by omega) _).alloc (by omega) _
theorem pz {fn : Func} {p q u : Tmp} {t : TypeId} {cs : List Value} {d : TypeDesc} (h : fn.results = #[.tmp p, .tmp u, .cell q t]) (tmps : Array Value) (w : World) (b : Nat) (hq : tmps.getD q undef = .pointer (some ⟨b, 0, none⟩)) (hr : w.rangeAt b 0 cs) (hu : prog.underlying t = some d) (hd : d.isRow = true) (hz : (prog.info? t).map (·.size) = some cs.length) :
  (results fn tmps).run prog w = .ok (.tuple #[tmps.getD p undef, tmps.getD u undef, .agg cs.toArray]) w := by
 have hl : (loadVar t ⟨b, 0, none⟩).run prog w = .ok (.agg cs.toArray) w := run_loadVar_mid (P := prog) w b 0 t cs d hr hu hd hz;have hq' : tmps[q]?.getD undef = .pointer (some ⟨b, 0, none⟩) := by simpa using hq
 simp [results, h, hq', asAddr, hl]
theorem lv {w : World} {b : Nat} (c : Sup) (h : w.there b 0 23) : (w.setCells b 0 (aV c)).rangeAt b 0 (aV c) := World.rangeAt_setCells_same _ _ _ _ (by rw [aH]; exact h)
def nwW (a b : Blk) : Nat := if gsN a < gsN b then 1 else 0
theorem uj (a b : Blk) (w : World) (T : Tab w) (hlt : gsN a < gsN b) : Calls prog 105 #[blk a, blk b] w fun e w' => e = .returned (.tuple #[.int .i64 1, .int .u64 (gsN b : Nat), sup (gsS b)]) /\ Below w.heap.size w w' := by
 obtain ⟨h1, h2, h3, h4, h5⟩ := ki w a b;unfold w3_ at h1 h2 h3 h4 h5;obtain ⟨x, hx⟩ : ∃ x, gsN a = x := ⟨_, rfl⟩;obtain ⟨y, hy⟩ : ∃ y, gsN b = y := ⟨_, rfl⟩;rw [hx, hy] at hlt;obtain ⟨p, hp⟩ : ∃ p, gsS a = p := ⟨_, rfl⟩;obtain ⟨q, hq⟩ : ∃ q, gsS b = q := ⟨_, rfl⟩;have HX := ae hx;have HY := ae hy;have HP := ae hp;have HQ := ae hq;have HA := ae h1;have HBK := ae h2;have HR := ae h3;have HB := ae h4;have HZ := ae h5;have HT := ae T;clear h1 h2 h3 h4 h5 T hx hy hp hq;go_enter func105, ntmps105;go_wp2_with (first | (refine au rfl (cd rfl rfl) ?_) | (refine au rfl (bH rfl) ?_) | (refine au rfl (bk (c := a) rfl rfl ?_) ?_; (with_reducible exact HA.out)) | fail)
 try simp only [World.size_alloc]
 generalize ((w.alloc (.cells (cel a).toArray 29)).alloc (.cells (cel b).toArray 29)).alloc (.cells (aV bp).toArray 37) = w0 at *;refine (sB a w0 (HT.out.below HB)).mono ?_;rintro e w1 ⟨rfl, hb⟩;have HBK1 := ae (World.rangeAt_setCells_apart (eK HBK (by have := HZ.out; omega) hb) (w.heap.size + 1 + 1) 0 (aV (gsS a)) (.inl (by omega)));have HR1 := ae (bK HR HZ hb);have hb1 := HB.out.trans (hb.mono HB.out.size);have HB1 := ae (below_setCells (b := w.heap.size + 1 + 1) (o := 0) hb1 (by omega) (aV (gsS a)));have HPR := ae (lv (gsS a) HR1);have HR2 := ae (World.there_setCells HR1 (w.heap.size + 1 + 1) 0 (aV (gsS a)));have HZ1 : Hid (w.heap.size + 1 + 1 < (w1.setCells (w.heap.size + 1 + 1) 0 (aV (gsS a))).heap.size) := ae (by rw [size_setCells]; exact aq HZ hb.size);rw [HP.out] at HBK1 HB1 HPR HR2 HZ1;rw [HX.out, HP.out];clear hb hb1 HBK HR HB HA HZ;go_upto_region 2 with (first | (refine az rfl (cH (c := p) rfl rfl rfl ?_) ?_; (with_reducible exact HR1.out)) | fail);generalize w1.setCells (w.heap.size + 1 + 1) 0 (aV p) = w2 at *;go_wp2_with (first | (refine au rfl (bk (c := b) rfl rfl ?_) ?_; (with_reducible exact HBK1.out)) | fail);refine (sB b w2 (HT.out.below HB1)).mono ?_;rintro e w3 ⟨rfl, hb⟩;have hb3 := hb.alloc hb.size (.cells (aV (gsS b)).toArray 37);have HPR3 := ae (eK HPR HZ1 hb3);have HR3 := ae (bK HR2 HZ1 hb3);have HB3 := ae (HB1.out.trans (hb3.mono HB1.out.size));have HQR3 := ae (bS.new w3 (gsS b)).range;rw [HQ.out] at HPR3 HR3 HB3 HQR3;rw [HY.out, HQ.out];clear hb hb3 HBK1 HPR HR2 HB1 HR1 HZ1;have hd : decide ((x : Int) < (y : Int)) = true := by simp; omega
 have hd2 : decide (x < y) = true := by simp; omega
 clear hlt;go_upto_region 4 with (first | (refine au rfl (bH rfl) ?_) | (refine az rfl (cG rfl rfl rfl) ?_) | fail);generalize w3.alloc (.cells (aV q).toArray 37) = w4 at *;go_wp2_with fail;refine wp_region_still_tail 4 (by kernel_rfl) (by kernel_rfl) ?_;simp only [ac];refine aJ rfl (aL rfl adh) ?_;simp only [aa];refine aJ rfl (ce (c := q) rfl adh HQR3) ?_;simp only [aa];refine aJ rfl (ew rfl evk) ?_;simp only [aa];refine aJ rfl (ew rfl adh) ?_;simp only [aa];refine wpStill_nil ?_;change wpList _ _ _ _ _ (World.drew _);refine aZ rfl (cH (c := q) rfl (ev rfl) (ev rfl) HR3.out) ?_;simp only [aa];refine ag ?_;go_wp2_with fail;refine bodyPost_ret (pz (t := 37) (cs := aV q) rfl _ _ _ rfl ?h1 underlying37 rfl ?h2) rfl ⟨by rw [HY.out, HQ.out]; rfl, ?h3⟩
 case h1 => exact World.rangeAt_setCells_same _ _ _ _ (by rw [aH]; exact HR3)
 case h2 => rw [aH]; exact ft
 case h3 => exact below_setCells (bd HB3) (by omega) _
theorem ut (a b : Blk) (w : World) (T : Tab w) (hlt : ¬ gsN a < gsN b) : Calls prog 105 #[blk a, blk b] w fun e w' => e = .returned (.tuple #[.int .i64 0, .int .u64 (gsN a : Nat), sup (gsS a)]) /\ Below w.heap.size w w' := by
 obtain ⟨h1, h2, h3, h4, h5⟩ := ki w a b;unfold w3_ at h1 h2 h3 h4 h5;obtain ⟨x, hx⟩ : ∃ x, gsN a = x := ⟨_, rfl⟩;obtain ⟨y, hy⟩ : ∃ y, gsN b = y := ⟨_, rfl⟩;rw [hx, hy] at hlt;obtain ⟨p, hp⟩ : ∃ p, gsS a = p := ⟨_, rfl⟩;obtain ⟨q, hq⟩ : ∃ q, gsS b = q := ⟨_, rfl⟩;have HX := ae hx;have HY := ae hy;have HP := ae hp;have HQ := ae hq;have HA := ae h1;have HBK := ae h2;have HR := ae h3;have HB := ae h4;have HZ := ae h5;have HT := ae T;clear h1 h2 h3 h4 h5 T hx hy hp hq;go_enter func105, ntmps105;go_wp2_with (first | (refine au rfl (cd rfl rfl) ?_) | (refine au rfl (bH rfl) ?_) | (refine au rfl (bk (c := a) rfl rfl ?_) ?_; (with_reducible exact HA.out)) | fail)
 try simp only [World.size_alloc]
 generalize ((w.alloc (.cells (cel a).toArray 29)).alloc (.cells (cel b).toArray 29)).alloc (.cells (aV bp).toArray 37) = w0 at *;refine (sB a w0 (HT.out.below HB)).mono ?_;rintro e w1 ⟨rfl, hb⟩;have HBK1 := ae (World.rangeAt_setCells_apart (eK HBK (by have := HZ.out; omega) hb) (w.heap.size + 1 + 1) 0 (aV (gsS a)) (.inl (by omega)));have HR1 := ae (bK HR HZ hb);have hb1 := HB.out.trans (hb.mono HB.out.size);have HB1 := ae (below_setCells (b := w.heap.size + 1 + 1) (o := 0) hb1 (by omega) (aV (gsS a)));have HPR := ae (lv (gsS a) HR1);have HR2 := ae (World.there_setCells HR1 (w.heap.size + 1 + 1) 0 (aV (gsS a)));have HZ1 : Hid (w.heap.size + 1 + 1 < (w1.setCells (w.heap.size + 1 + 1) 0 (aV (gsS a))).heap.size) := ae (by rw [size_setCells]; exact aq HZ hb.size);rw [HP.out] at HBK1 HB1 HPR HR2 HZ1;rw [HX.out, HP.out];clear hb hb1 HBK HR HB HA HZ;go_upto_region 2 with (first | (refine az rfl (cH (c := p) rfl rfl rfl ?_) ?_; (with_reducible exact HR1.out)) | fail);generalize w1.setCells (w.heap.size + 1 + 1) 0 (aV p) = w2 at *;go_wp2_with (first | (refine au rfl (bk (c := b) rfl rfl ?_) ?_; (with_reducible exact HBK1.out)) | fail);refine (sB b w2 (HT.out.below HB1)).mono ?_;rintro e w3 ⟨rfl, hb⟩;have hb3 := hb.alloc hb.size (.cells (aV (gsS b)).toArray 37);have HPR3 := ae (eK HPR HZ1 hb3);have HR3 := ae (bK HR2 HZ1 hb3);have HB3 := ae (HB1.out.trans (hb3.mono HB1.out.size));have HQR3 := ae (bS.new w3 (gsS b)).range;rw [HQ.out] at HPR3 HR3 HB3 HQR3;rw [HY.out, HQ.out];clear hb hb3 HBK1 HPR HR2 HB1 HR1 HZ1;have hd : decide ((x : Int) < (y : Int)) = false := by simp; omega
 have hd2 : decide (x < y) = false := by simp; omega
 clear hlt;go_upto_region 5 with (first | (refine au rfl (bH rfl) ?_) | (refine az rfl (cG rfl rfl rfl) ?_) | fail);generalize w3.alloc (.cells (aV q).toArray 37) = w4 at *;go_wp2_with fail;refine wp_region_still_tail 4 (by kernel_rfl) (by kernel_rfl) ?_;simp only [ac];refine aJ rfl (aL rfl adh) ?_;simp only [aa];refine aJ rfl (ce (c := p) rfl adh HPR3) ?_;simp only [aa];refine aJ rfl (ew rfl evk) ?_;simp only [aa];refine aJ rfl (ew rfl adh) ?_;simp only [aa];refine wpStill_nil ?_;change wpList _ _ _ _ _ (World.drew _);refine aZ rfl (cH (c := p) rfl (ev rfl) (ev rfl) HR3.out) ?_;simp only [aa];refine ag ?_;go_wp2_with fail;refine bodyPost_ret (pz (t := 37) (cs := aV p) rfl _ _ _ rfl ?h1 underlying37 rfl ?h2) rfl ⟨by rw [HX.out, HP.out]; rfl, ?h3⟩
 case h1 => exact World.rangeAt_setCells_same _ _ _ _ (by rw [aH]; exact HR3)
 case h2 => rw [aH]; exact ft
 case h3 => exact below_setCells (bd HB3) (by omega) _
theorem sY (a b : Blk) (w : World) (T : Tab w) : Calls prog 105 #[blk a, blk b] w fun e w' => e = .returned (.tuple #[.int .i64 (nwW a b : Nat), .int .u64 (nwN a b : Nat), sup (nwS a b)]) /\ Below w.heap.size w w' := by
 unfold nwW nwN nwS;by_cases hlt : gsN a < gsN b
 ·rw [if_pos hlt, if_pos hlt, if_pos hlt];exact uj a b w T hlt
 ·rw [if_neg hlt, if_neg hlt, if_neg hlt];exact ut a b w T hlt
theorem zQ (w : World) (a b : Blk) : ((w.alloc (.cells (cel a).toArray 29)).alloc (.cells (cel b).toArray 29)).rangeAt w.heap.size 0 (cel a) /\ ((w.alloc (.cells (cel a).toArray 29)).alloc (.cells (cel b).toArray 29)).rangeAt (w.heap.size + 1) 0 (cel b) /\ Below w.heap.size w ((w.alloc (.cells (cel a).toArray 29)).alloc (.cells (cel b).toArray 29)) /\ w.heap.size + 1 < ((w.alloc (.cells (cel a).toArray 29)).alloc (.cells (cel b).toArray 29)).heap.size := by
 have e1 := World.size_alloc (w := w) (o := Obj.cells (cel a).toArray 29);refine ⟨World.rangeAt_alloc (dH w (cel a) _) _, ?_, ?_, by simp only [World.size_alloc]; omega⟩
 ·rw [<- e1]; exact dH _ (cel b) _
 ·exact ((Below.refl _ w).alloc ai _).alloc (by omega) _
theorem xU (a b : Blk) : kS a b = if nwN a b ≠ 0 /\ nwW a b = 0 then 1 else 0 := by
 unfold kS nwN nwW;by_cases h : gsN a < gsN b
 ·rw [if_pos h, if_pos h, if_neg (by omega), if_neg (by omega)]
 ·rw [if_neg h, if_neg h];by_cases h0 : gsN a ≠ 0
  ·rw [if_pos ⟨h0, h⟩, if_pos ⟨h0, rfl⟩]
  ·rw [if_neg (by omega), if_neg (by omega)]
theorem ya (a b : Blk) : nwW a b = 0 \/ nwW a b = 1 := by unfold nwW; split <;> omega
theorem abK (a b : Blk) (w : World) (T : Tab w) : Calls prog 114 #[blk a, blk b] w fun e w' => e = .returned (.int .i64 (kS a b : Nat)) /\ Below w.heap.size w w' := by
 obtain ⟨h1, h2, h4, h5⟩ := zQ w a b;have HSL := ae (xU a b);have h2w := ya a b;obtain ⟨n, hn⟩ : ∃ n, nwN a b = n := ⟨_, rfl⟩;obtain ⟨k, hk⟩ : ∃ k, nwW a b = k := ⟨_, rfl⟩;obtain ⟨p, hp⟩ : ∃ p, nwS a b = p := ⟨_, rfl⟩;rw [hn, hk] at HSL;rw [hk] at h2w;have HA := ae h1;have HBK := ae h2;have HB := ae h4;have HT := ae (T.below h4);have HN := ae hn;have HK := ae hk;have HP := ae hp;clear h1 h2 h4 h5 T hn hk hp;go_enter func114, ntmps114;go_wp2_with (first | (refine au rfl (cd rfl rfl) ?_) | (refine au rfl (bk (c := a) rfl rfl ?_) ?_; (with_reducible exact HA.out)) | (refine au rfl (bk (c := b) rfl rfl ?_) ?_; (with_reducible exact HBK.out)) | fail);refine (sY a b _ HT).mono ?_;rintro e w1 ⟨rfl, hb⟩;rw [HN.out, HK.out, HP.out];have hb1 := HB.out.trans (hb.mono HB.out.size);have HB1 := ae (hb1.alloc hb1.size (.cells (aV p).toArray 37));clear hb hb1 HA HBK HB HT;by_cases hn0 : n = 0
 ·subst hn0;rw [if_neg (by omega)] at HSL;go_wp2_with (first | (refine au rfl (bH rfl) ?_) | (refine az rfl (cG rfl rfl rfl) ?_) | fail);go_ret;exact ⟨by rw [HSL.out]; rfl, HB1⟩
 ·have hne : ((n : Int) != 0) = true := by simp; omega
  rcases h2w with rfl | rfl
  ·rw [if_pos ⟨hn0, rfl⟩] at HSL;clear hn0;go_wp2_with (first | (refine au rfl (bH rfl) ?_) | (refine az rfl (cG rfl rfl rfl) ?_) | fail);go_ret;exact ⟨by rw [HSL.out]; rfl, HB1⟩
  ·rw [if_neg (by omega)] at HSL;clear hn0;go_wp2_with (first | (refine au rfl (bH rfl) ?_) | (refine az rfl (cG rfl rfl rfl) ?_) | fail);go_ret;exact ⟨by rw [HSL.out]; rfl, HB1⟩
theorem aaz (a b : Blk) : nwE a b = if nwN a b = 0 then 7 else 0 := by
 unfold nwE nwN;by_cases h : gsN a < gsN b
 ·rw [if_pos h, if_neg (by omega), if_neg (by omega)]
 ·rw [if_neg h];by_cases h0 : gsN a = 0
  ·rw [if_pos (by omega), if_pos h0]
  ·rw [if_neg (by omega), if_neg h0]
theorem wW {a b : Blk} (h : nwN a b = 0) : nwS a b = bp := by
 unfold nwN at h;unfold nwS;by_cases hl : gsN a < gsN b
 ·rw [if_pos hl] at h; omega
 ·rw [if_neg hl] at h ⊢;exact j5 (lU.1 h)
theorem rX (a b : Blk) (w : World) (T : Tab w) : Calls prog 82 #[blk a, blk b] w fun e w' => e = .returned (.tuple #[.int .u64 (nwN a b : Nat), sup (nwS a b), .int .i64 (nwE a b : Nat)]) /\ Below w.heap.size w w' := by
 obtain ⟨h1, h2, h3, h4, h5⟩ := ki w a b;unfold w3_ at h1 h2 h3 h4 h5;have HE := ae (aaz a b);have HNO := fun h => ae (wW (a := a) (b := b) h)
 obtain ⟨n, hn⟩ : ∃ n, nwN a b = n := ⟨_, rfl⟩;obtain ⟨p, hp⟩ : ∃ p, nwS a b = p := ⟨_, rfl⟩;rw [hn] at HE HNO;rw [hp] at HNO;have HA := ae h1;have HBK := ae h2;have HR := ae h3;have HB := ae h4;have HZ := ae h5;have HT := ae (T.below h4);have HN := ae hn;have HP := ae hp;clear h1 h2 h3 h4 h5 T hn hp;go_enter func82, ntmps82;go_wp2_with (first | (refine au rfl (cd rfl rfl) ?_) | (refine au rfl (bH rfl) ?_) | (refine au rfl (bk (c := a) rfl rfl ?_) ?_; (with_reducible exact HA.out)) | (refine au rfl (bk (c := b) rfl rfl ?_) ?_; (with_reducible exact HBK.out)) | fail)
 try simp only [World.size_alloc]
 generalize ((w.alloc (.cells (cel a).toArray 29)).alloc (.cells (cel b).toArray 29)).alloc (.cells (aV bp).toArray 37) = w0 at *;refine (sY a b w0 HT).mono ?_;rintro e w1 ⟨rfl, hb⟩;rw [HN.out, HP.out];have hb2 := hb.alloc hb.size (.cells (aV p).toArray 37);have HR1 := ae (bK HR HZ hb2);have HB1 := ae (HB.out.trans (hb2.mono HB.out.size));have HPR := ae (bS.new w1 p).range;clear hb hb2 HA HBK HR HB HT;by_cases hn0 : n = 0
 ·have HPZ := HNO hn0;subst hn0;rw [if_pos rfl] at HE;go_wp2_with (first | (refine au rfl (bH rfl) ?_) | (refine az rfl (cG rfl rfl rfl) ?_) | (refine au rfl (eX rfl) ?_) | (refine az rfl (cH (c := bp) rfl rfl rfl ?_) ?_; (with_reducible exact HR1.out)) | fail);refine bodyPost_ret (fc (t := 37) (cs := aV bp) rfl _ _ _ rfl ?h1 underlying37 rfl ?h2) rfl ⟨by rw [HN.out, HP.out, HPZ.out, HE.out]; rfl, ?h3⟩
  case h1 => exact World.rangeAt_setCells_same _ _ _ _ (by rw [aH]; exact HR1)
  case h2 => rw [aH]; exact ft
  case h3 => exact below_setCells HB1 (by omega) _
 ·have hne : ((n : Int) == 0) = false := by simp; omega
  rw [if_neg hn0] at HE;clear hn0;go_upto_region 4 with (first | (refine au rfl (bH rfl) ?_) | (refine az rfl (cG rfl rfl rfl) ?_) | fail);generalize w1.alloc (.cells (aV p).toArray 37) = w2 at *;go_wp2_with fail;refine wp_region_still_tail 3 (by kernel_rfl) (by kernel_rfl) ?_;simp only [ac];refine aJ rfl (aL rfl adh) ?_;simp only [aa];refine aJ rfl (ce (c := p) rfl adh HPR) ?_;simp only [aa];refine aJ rfl (ew rfl adh) ?_;simp only [aa];refine wpStill_nil ?_;change wpList _ _ _ _ _ (World.drew _);refine aZ rfl (cH (c := p) rfl (ev rfl) (ev rfl) HR1.out) ?_;simp only [aa];refine aP 1 ?_;go_wp2_with fail;refine bodyPost_ret (fc (t := 37) (cs := aV p) rfl _ _ _ rfl ?h1 underlying37 rfl ?h2) rfl ⟨by rw [HN.out, HP.out, HE.out]; rfl, ?h3⟩
  case h1 => exact World.rangeAt_setCells_same _ _ _ _ (by rw [aH]; exact HR1)
  case h2 => rw [aH]; exact ft
  case h3 => exact below_setCells (bd HB1) (by omega) _
def same (a b : List UInt8) : Bool := a == b
theorem vB (A B : Option Addr) (n m c d N : Nat) (a b : List UInt8) (w : World) (ha : Rd w N A n a) (hb : Rd w N B m b) (hN : N <= w.heap.size) (hn : n <= maxLen) :
  Calls prog 71 #[.slice A n c, .slice B m d] w fun e w' => e = .returned (.bool (same a b)) /\ Below w.heap.size w w' := by
 unfold maxLen at hn;by_cases hnm : n = m
 ·subst hnm;go_enter func71, ntmps71;go_wp2
  go_loopw [5] (fun i wr => ∃ k : Nat, k <= n /\ i = .int .i64 k /\ (∀ j, j < k -> bt a j = bt b j) /\ Below w.heap.size w wr) (fun i _ => n - (intOf i).toNat)
  case atStart => exact ⟨0, Nat.zero_le _, rfl, fun j hj => absurd hj (by omega), aj⟩
  case round =>
   obtain ⟨k, hk, rfl, hj, hbl⟩ := hrel;by_cases hlt : k < n
   ·obtain ⟨bA, oA, rfl, hA, cA⟩ := (ha.below (hbl.mono hN)).2 k hlt;obtain ⟨bB, oB, rfl, hB, cB⟩ := (hb.below (hbl.mono hN)).2 k hlt;have hidj := ae hj;clear hj;go_wp2
    go_quiet (fail)
    go_wp2
    ·have hd : (bt a k != bt b k) = true := by assumption
     go_ret;refine ⟨?_, bdn hbl _⟩;have : same a b = false := by
      simp only [same, beq_eq_false_iff_ne];rintro rfl;simp at hd
     rw [this]; rfl
    ·have hd : (bt a k != bt b k) = false := by assumption
     go_roundw
     case rel =>
      refine ⟨k + 1, by omega, by go_num, ?_, bdn hbl _⟩;intro j hj;by_cases h : j = k
      ·subst h; simpa using hd
      ·exact hidj.out j (by omega)
     case measure => simp [intOf]; omega
   ·go_wp2;go_ret;refine ⟨?_, hbl⟩;have : same a b = true := by
     simp only [same, beq_iff_eq];exact fK (by rw [ha.1, hb.1]) fun j h => hj j (by have := ha.1; omega)
    rw [this]; rfl
 ·have hne : ((n : Int) != (m : Int)) = true := by simp; omega
  go_enter func71, ntmps71;go_wp2;go_ret;refine ⟨?_, aj⟩;have : same a b = false := by
   have h1 := ha.1;have h2 := hb.1;simp only [same, beq_eq_false_iff_ne];rintro rfl;omega
  rw [this]; rfl
section
variable {ρ : Operand -> Value} {o : Oper} {x y : Operand} {w : World} {r : TypeId}
theorem xe {ad : Addr} {k : Bool} (h : w.cell? ad = some (.bool k)) : (Instr.loadAt 4 (.pointer (some ad))).run prog w = .ok (.bool k) w := by simp [go_sem, h]
theorem jo {a b : Bool} (c : Bool) (ho : o.op = .binOp .neq 4 x y r) (hx : ρ x = .bool a) (hy : ρ y = .bool b) (h : (a != b) = c) : (execOp ρ o).run prog w = .ok (.value (.bool c)) w := by
 have he := run_equalIn_bool' (P := prog) w 9999 4 a b underlying4;have h' : (!(a == b)) = c := h;unfold execOp;simp [ho, hx, hy, eqGuard, binOp, Op.equal, Op.maxDepth, he]
 simpa using h'
theorem zY {b : Nat} : (Instr.fieldAt 35 (.pointer (some ⟨b, 0, none⟩)) 3).run prog w = .ok (.pointer (some ⟨b, 20, none⟩)) w := by kernel_rfl
theorem acf {b : Nat} : (Instr.fieldAt 32 (.pointer (some ⟨b, 0, none⟩)) 2).run prog w = .ok (.pointer (some ⟨b, 2, none⟩)) w := by kernel_rfl
end
theorem vu (x y : Ros) (w : World) : Calls prog 33 #[ros x, ros y] w fun e w' => e = .returned (.bool (decide (x = y))) /\ Below w.heap.size w w' := by
 obtain ⟨h1, h2, h3⟩ := cY w x;have HX := ae (h1.past (.cells (aU y).toArray 35));have HY : Hid (bF ((w.alloc (.cells (aU x).toArray 35)).alloc (.cells (aU y).toArray 35)) (w.heap.size + 1) y) := ae (by
  have := bF.new (w.alloc (.cells (aU x).toArray 35)) y;rwa [World.size_alloc] at this)
 have HB := ae (h2.alloc h2.size (.cells (aU y).toArray 35));clear h1 h2 h3;go_enter func33, ntmps33;go_upto_region 1 with (first | (refine au rfl (bf rfl rfl) ?_) | fail)
 try simp only [World.size_alloc]
 generalize (w.alloc (.cells (aU x).toArray 35)).alloc (.cells (aU y).toArray 35) = w1 at *;have HXm := ae HX.out.cells.1;have HXs := ae HX.out.cells.2.1;have HXr := ae HX.out.cells.2.2.1;have HXc := ae HX.out.cells.2.2.2.1;have HXg := ae HX.out.cells.2.2.2.2;have HYm := ae HY.out.cells.1;have HYs := ae HY.out.cells.2.1;have HYr := ae HY.out.cells.2.2.1;have HYc := ae HY.out.cells.2.2.2.1;have HYg := ae HY.out.cells.2.2.2.2;refine af ?_;refine ac6 (ax rfl adh kr) ?_;refine ac6 (ax rfl adh o8) ?_;refine ac6 (aE rfl adh (cv HXm)) ?_;refine ac6 (ax rfl adh kr) ?_;refine ac6 (ax rfl adh o8) ?_;refine ac6 (aE rfl adh (cv HYm)) ?_;by_cases qm : x.m = y.m
 ·have HDm : Hid ((x.m != y.m) = false) := ae (by rw [qm]; simp);refine ac6 (aO false rfl adh adh HDm) ?_;refine runs 1 ?_;refine ade (ax rfl adh kr) ?_;refine ade (ax rfl adh wc) ?_;refine ade (aE rfl adh (cv HXs)) ?_;refine ade (ax rfl adh kr) ?_;refine ade (ax rfl adh wc) ?_;refine ade (aE rfl adh (cv HYs)) ?_;by_cases qs : x.s = y.s
  ·have HDs : Hid ((x.s != y.s) = false) := ae (by rw [qs]; simp);refine ade (aO false rfl adh adh HDs) ?_;refine runs 2 ?_;refine ade (ax rfl adh kr) ?_;refine ade (ax rfl adh acf) ?_;refine ade (aE rfl adh (cv HXr)) ?_;refine ade (ax rfl adh kr) ?_;refine ade (ax rfl adh acf) ?_;refine ade (aE rfl adh (cv HYr)) ?_;by_cases qr : x.r = y.r
   ·have HDr : Hid ((x.r != y.r) = false) := ae (by rw [qr]; simp);refine ade (aO false rfl adh adh HDr) ?_;refine runs 2 ?_;refine ade (ax rfl adh uQ) ?_;refine ade (aE rfl adh (cv HXc)) ?_;refine ade (ax rfl adh uQ) ?_;refine ade (aE rfl adh (cv HYc)) ?_;by_cases qc : x.cur = y.cur
    ·have HDc : Hid ((x.cur != y.cur) = false) := ae (by rw [qc]; simp);refine ade (aO false rfl adh adh HDc) ?_;refine runs 2 ?_;refine ade (ax rfl adh zY) ?_;refine ade (aE rfl adh (xe HXg)) ?_;refine ade (ax rfl adh zY) ?_;refine ade (aE rfl adh (xe HYg)) ?_;by_cases qg : x.gone = y.gone
     ·have HDg : Hid ((x.gone != y.gone) = false) := ae (by rw [qg]; simp);refine ade (jo false rfl adh adh HDg) ?_;refine aP 1 ?_;go_wp2_with fail;refine bQ (B := w1.heap.size) (by kernel_rfl) ?_;refine adf (fun _ hw => ax rfl adh kU) ?_;refine adf (fun _ hw => eU rfl adh) ?_;refine adf (fun _ hw => ax rfl adh kU) ?_;refine adf (fun _ hw => eU rfl adh) ?_;refine cu rfl (fun _ => aD call71 rfl (evc adh (evc adh evn))) (ci ai fun w' hw => vB _ _ 16 16 16 16 _ x.st.toList y.st.toList w' (HX.out.below (aW HX) hw).abC (HY.out.below (aW HY) hw).abC ai (by unfold maxLen; omega)) ?_;simp only [aa];refine dl 1 ?_;refine wpQuiet_nil ?_;intro w2 hw;have HB2 := ae (HB.out.trans (hw.mono HB.out.size));clear hw;have HEQ : Hid (same x.st.toList y.st.toList = decide (x = y)) := ae (by
       by_cases h : x.st.toList = y.st.toList
       ·rw [h, am (za ⟨qm, qs, qr⟩ h qc qg)]; simp [same]
       ·rw [al (fun e : x = y => h (by rw [e]))]; exact ar h)
      go_wp2_with fail;go_ret;exact ⟨by rw [<- HEQ.out]; rfl, HB2⟩
     ·have HDg : Hid ((x.gone != y.gone) = true) := ae (by simpa using qg);have HNE : Hid (decide (x = y) = false) := ae (al (fun e : x = y => qg (by rw [e])));refine ade (jo true rfl adh adh HDg) ?_;refine aP 1 ?_;go_wp2_with fail;go_ret;exact ⟨by rw [HNE.out]; rfl, HB⟩
    ·have HDc : Hid ((x.cur != y.cur) = true) := ae (by simpa using qc);have HNE : Hid (decide (x = y) = false) := ae (al (fun e : x = y => qc (by rw [e])));refine ade (aO true rfl adh adh HDc) ?_;refine runs 1 ?_;refine aI 5 rfl (aL rfl adh) (by kernel_rfl) ?_;simp only [bj, ac, aa];refine aP 1 ?_;go_wp2_with fail;go_ret;exact ⟨by rw [HNE.out]; rfl, HB⟩
   ·have HDr : Hid ((x.r != y.r) = true) := ae (by simpa using qr);have HNE : Hid (decide (x = y) = false) := ae (al (fun e : x = y => qr (by rw [e])));refine ade (aO true rfl adh adh HDr) ?_;refine runs 1 ?_;refine aI 5 rfl (aL rfl adh) (by kernel_rfl) ?_;simp only [bj, ac, aa];refine runs 1 ?_;refine aI 5 rfl (aL rfl adh) (by kernel_rfl) ?_;simp only [bj, ac, aa];refine aP 1 ?_;go_wp2_with fail;go_ret;exact ⟨by rw [HNE.out]; rfl, HB⟩
  ·have HDs : Hid ((x.s != y.s) = true) := ae (by simpa using qs);have HNE : Hid (decide (x = y) = false) := ae (al (fun e : x = y => qs (by rw [e])));refine ade (aO true rfl adh adh HDs) ?_;refine runs 1 ?_;refine aI 7 rfl (aL rfl adh) (by kernel_rfl) ?_;simp only [bj, ac, aa];refine runs 1 ?_;refine aI 5 rfl (aL rfl adh) (by kernel_rfl) ?_;simp only [bj, ac, aa];refine runs 1 ?_;refine aI 5 rfl (aL rfl adh) (by kernel_rfl) ?_;simp only [bj, ac, aa];refine aP 1 ?_;go_wp2_with fail;go_ret;exact ⟨by rw [HNE.out]; rfl, HB⟩
 ·have HDm : Hid ((x.m != y.m) = true) := ae (by simpa using qm);have HNE : Hid (decide (x = y) = false) := ae (al (fun e : x = y => qm (by rw [e])));refine ac6 (aO true rfl adh adh HDm) ?_;refine aI 7 rfl (aL rfl adh) (by kernel_rfl) ?_;simp only [bj, ac, aa];refine runs 1 ?_;refine aI 7 rfl (aL rfl adh) (by kernel_rfl) ?_;simp only [bj, ac, aa];refine runs 1 ?_;refine aI 5 rfl (aL rfl adh) (by kernel_rfl) ?_;simp only [bj, ac, aa];refine runs 1 ?_;refine aI 5 rfl (aL rfl adh) (by kernel_rfl) ?_;simp only [bj, ac, aa];refine aP 1 ?_;go_wp2_with fail;go_ret;exact ⟨by rw [HNE.out]; rfl, HB⟩
theorem abi (n : Nat) (x : Sup) (w : World) (hn : n < 18446744073709551616) (hid : x.id < 18446744073709551616) :
  Calls prog 36 #[.int .u64 n, sup x] w fun e w' => e = .returned (.tuple #[blk (dV n x), .int .i64 (jk n x : Nat)]) /\ Below w.heap.size w w' := by
 obtain ⟨h1, h2, h3⟩ := gn w x;have HS := ae (h1.past (.cells (cel aB).toArray 29));have HB := ae (h2.alloc h2.size (.cells (cel aB).toArray 29));have HN := ae hn;have HI := ae hid;have HR : Hid (((w.alloc (.cells (aV x).toArray 37)).alloc (.cells (cel aB).toArray 29)).there (w.heap.size + 1) 0 64) := ae (by
  have := dG (w.alloc (.cells (aV x).toArray 37)) aB 29;rwa [World.size_alloc] at this)
 have HZ : Hid (w.heap.size + 1 < ((w.alloc (.cells (aV x).toArray 37)).alloc (.cells (cel aB).toArray 29)).heap.size) := ae (by simp only [World.size_alloc]; omega);clear h1 h2 h3 hn hid;go_enter func36, ntmps36;go_wp2_with (first | (refine au rfl (ed rfl rfl) ?_) | (refine au rfl (bq rfl) ?_) | fail)
 try simp only [World.size_alloc]
 generalize (w.alloc (.cells (aV x).toArray 37)).alloc (.cells (cel aB).toArray 29) = w1 at *;refine (abm n w1).mono ?_;rintro e w' ⟨rfl, rfl⟩;by_cases hev : evB n = true
 ·rw [hev];have HEV := ae hev;clear hev;go_wp2_with (first | (refine av (by rfl) (ce (c := x) rfl rfl ?_) ?_; (with_reducible exact HS.out.range)) | fail);refine (ab6 x w1).mono ?_;rintro e w2 ⟨rfl, hb⟩;have HS2 := ae (HS.out.below (aW HS) hb);have HB2 := ae (HB.out.trans (hb.mono HB.out.size));have HR2 := ae (bK HR HZ hb);have HZ2 : Hid (w.heap.size + 1 < w2.heap.size) := ae (by have := hb.size; have := HZ.out; omega);clear hb HS HB HR HZ;by_cases hm : dW x = true
  ·rw [hm];have HM := ae hm;clear hm;go_wp2_with (first | (refine au rfl (ce (c := x) rfl rfl ?_) ?_; (with_reducible exact HS2.out.range)) | fail);refine (acg x w2 HI HM).mono ?_;rintro e w3 ⟨v, rfl, hv, hb⟩;obtain ⟨A, c, rfl, hrd, _, _⟩ := hv.open_ (ec x);have HB3 := ae (HB2.out.trans (hb.mono HB2.out.size));have HR3 := ae (bK HR2 HZ2 hb);have HRD := ae hrd;have HZ3 : Hid (w.heap.size + 1 < w3.heap.size) := ae (aq HZ2 hb.size);clear hb hv hrd HS2 HB2 HR2 HZ2;go_wp2_with fail;refine (vd n 21 c _ A (dd x) w3 HN HRD ai (by unfold maxLen; omega)).mono ?_;rintro e w5 ⟨rfl, hb⟩;rw [fE x HEV.out];have HR5 := ae (bK HR3 HZ3 hb);have HB5 := ae (HB3.out.trans (hb.mono HB3.out.size));have HPB := ae (jB HEV HM);have HPE := ae (iC HEV HM);clear hb HRD HR3 HZ3 HB3;generalize dO n (dd x) = pb at *;go_wp2_with (first | (refine az rfl (bc (c := pb) rfl rfl rfl ?_) ?_; (with_reducible exact HR5.out)) | fail);refine bodyPost_ret (cp rfl _ _ _ rfl (World.rangeAt_setCells_same _ _ _ _ (by rw [aF]; exact HR5))) rfl ⟨by rw [HPB.out, HPE.out]; rfl, below_setCells HB5 (Nat.le_succ _) _⟩
  ·have hm' : dW x = false := by simpa using hm
   have HPB := ae (jx (n := n) (x := x) (fun h => hm h.2));have HPE := ae (jr (n := n) (x := x) (fun h => hm h.2));rw [hm'];clear hm hm';go_wp2_with (first | (refine au rfl (cr (c := aB) (parts := []) rfl rfl) ?_) | (refine az rfl (bc (c := aB) rfl rfl rfl ?_) ?_; (with_reducible exact HR2.out)) | fail);refine bodyPost_ret (cp rfl _ _ _ rfl (World.rangeAt_setCells_same _ _ _ _ (by rw [aF]; exact HR2))) rfl ⟨by rw [HPB.out, HPE.out]; rfl, below_setCells HB2 (Nat.le_succ _) _⟩
 ·have hev' : evB n = false := by simpa using hev
  have HPB := ae (jx (n := n) (x := x) (fun h => hev h.1));have HPE := ae (jr (n := n) (x := x) (fun h => hev h.1));rw [hev'];clear hev hev';go_wp2_with (first | (refine au rfl (cr (c := aB) (parts := []) rfl rfl) ?_) | (refine az rfl (bc (c := aB) rfl rfl rfl ?_) ?_; (with_reducible exact HR.out)) | fail);refine bodyPost_ret (cp rfl _ _ _ rfl (World.rangeAt_setCells_same _ _ _ _ (by rw [aF]; exact HR))) rfl ⟨by rw [HPB.out, HPE.out]; rfl, below_setCells HB (Nat.le_succ _) _⟩
theorem nR (x : Ros) (m : Int) (w : World) : Calls prog 87 #[ros x, .int .i64 m] w fun e w' => e = .returned (.bool (fp x m)) /\ Below w.heap.size w w' := by
 obtain ⟨h1, h2, h3⟩ := cY w x;have HR := ae h1;have HB := ae h2;have HC := ae h1.cells.1;clear h1 h2 h3;have HF : Hid (fp x m = decide (0 <= m /\ m < x.m)) := ae rfl;go_enter func87, ntmps87;go_upto_region 1 with (first | (refine au rfl (bf rfl rfl) ?_) | fail);generalize w.alloc (.cells (aU x).toArray 35) = w1 at *;generalize x.m = k at *;by_cases h0 : 0 <= m
 ·have H0 : Hid (decide ((0 : Int) <= m) = true) := ae (am h0);refine bn 1 ?_;refine ac6 (cn true rfl adh evk H0) ?_;refine runs 2 ?_;refine ade (ax rfl adh kr) ?_;refine ade (ax rfl adh o8) ?_;refine ade (aE rfl adh (cv HC)) ?_;by_cases h1 : m < k
  ·have H1 : Hid (decide (m < k) = true) := ae (am h1);have HE : Hid (fp x m = true) := ae (by rw [HF.out, am ⟨h0, h1⟩]);clear h0 h1;refine ade (bw true rfl adh adh H1) ?_;refine aP 2 ?_;go_wp2_with fail;go_ret;exact ⟨a9 (by rw [HE.out]), HB⟩
  ·have H1 : Hid (decide (m < k) = false) := ae (al h1);have HE : Hid (fp x m = false) := ae (by rw [HF.out, al (fun e => h1 e.2)]);clear h0 h1;refine ade (bw false rfl adh adh H1) ?_;refine aP 2 ?_;go_wp2_with fail;go_ret;exact ⟨a9 (by rw [HE.out]), HB⟩
 ·have H0 : Hid (decide ((0 : Int) <= m) = false) := ae (al h0);have HE : Hid (fp x m = false) := ae (by rw [HF.out, al (fun e => h0 e.1)]);clear h0;refine bn 1 ?_;refine ac6 (cn false rfl adh evk H0) ?_;refine aI 5 rfl (aL rfl adh) (by kernel_rfl) ?_;simp only [bj, ac, aa];refine aP 2 ?_;go_wp2_with fail;go_ret;exact ⟨a9 (by rw [HE.out]), HB⟩
theorem y6 (x : Ros) (m : Int) (w : World) : Calls prog 111 #[ros x, .int .i64 m] w fun e w' => e = .returned (.bool (tZ x m)) /\ Below w.heap.size w w' := by
 obtain ⟨h1, h2, h3⟩ := cY w x;have HR := ae h1;have HB := ae h2;have HC := ae h1.cells.2.1;clear h1 h2 h3;have HF : Hid (tZ x m = decide (0 <= m /\ m < x.s)) := ae rfl;go_enter func111, ntmps111;go_upto_region 1 with (first | (refine au rfl (bf rfl rfl) ?_) | fail);generalize w.alloc (.cells (aU x).toArray 35) = w1 at *;generalize x.s = k at *;by_cases h0 : 0 <= m
 ·have H0 : Hid (decide ((0 : Int) <= m) = true) := ae (am h0);refine bn 1 ?_;refine ac6 (cn true rfl adh evk H0) ?_;refine runs 2 ?_;refine ade (ax rfl adh kr) ?_;refine ade (ax rfl adh wc) ?_;refine ade (aE rfl adh (cv HC)) ?_;by_cases h1 : m < k
  ·have H1 : Hid (decide (m < k) = true) := ae (am h1);have HE : Hid (tZ x m = true) := ae (by rw [HF.out, am ⟨h0, h1⟩]);clear h0 h1;refine ade (bw true rfl adh adh H1) ?_;refine aP 2 ?_;go_wp2_with fail;go_ret;exact ⟨a9 (by rw [HE.out]), HB⟩
  ·have H1 : Hid (decide (m < k) = false) := ae (al h1);have HE : Hid (tZ x m = false) := ae (by rw [HF.out, al (fun e => h1 e.2)]);clear h0 h1;refine ade (bw false rfl adh adh H1) ?_;refine aP 2 ?_;go_wp2_with fail;go_ret;exact ⟨a9 (by rw [HE.out]), HB⟩
 ·have H0 : Hid (decide ((0 : Int) <= m) = false) := ae (al h0);have HE : Hid (tZ x m = false) := ae (by rw [HF.out, al (fun e => h0 e.1)]);clear h0;refine bn 1 ?_;refine ac6 (cn false rfl adh evk H0) ?_;refine aI 5 rfl (aL rfl adh) (by kernel_rfl) ?_;simp only [bj, ac, aa];refine aP 2 ?_;go_wp2_with fail;go_ret;exact ⟨a9 (by rw [HE.out]), HB⟩
theorem z3 (x : Ros) (c : Int) (w : World) : Calls prog 110 #[ros x, .int .u8 c] w fun e w' => e = .returned (.int .i64 (many x c : Nat)) /\ Below w.heap.size w w' := by
 obtain ⟨h1, h2, h3⟩ := cY w x;have HR := ae h1;have HB := ae h2;clear h1 h2 h3;have HL := ae (gO x.st);have HH := ae (xN x c);go_enter func110, ntmps110;go_wp2_with (first | (refine au rfl (bf rfl rfl) ?_) | (refine au rfl (dy HL.out rfl rfl ?_) ?_; (with_reducible exact HR.out.sts)) | fail);generalize w.alloc (.cells (aU x).toArray 35) = w1 at *;generalize x.st.toList = l at *
 go_loop [5, 10] (fun n i => ∃ j : Nat, j <= 16 /\ i = .int .i64 j /\ n = .int .i64 (km l c j : Nat)) (fun _ i => 16 - (intOf i).toNat)
 case atStart => exact ⟨0, Nat.zero_le _, rfl, rfl⟩
 case round =>
  obtain ⟨j, hj, rfl, rfl⟩ := hrel;by_cases hlt : j < 16
  ·have hs := ae (eY l c j);have hle := ym l c j;generalize km l c j = n at *;by_cases h2 : bt l j = c
   ·rw [if_pos h2] at hs;have hd : (bt l j == c) = true := by simpa using h2
    clear h2;go_wp2_with (first | (refine au rfl (dI (l := l) (j := j) HL hlt rfl rfl rfl) ?_) | fail)
    go_round
    case rel => exact ⟨j + 1, by omega, by go_num, by rw [hs.out]; go_num⟩
    case measure => simp [intOf]; omega
   ·rw [if_neg h2] at hs;have hd : (bt l j == c) = false := by simpa using h2
    clear h2;go_wp2_with (first | (refine au rfl (dI (l := l) (j := j) HL hlt rfl rfl rfl) ?_) | fail)
    go_round
    case rel => exact ⟨j + 1, by omega, by go_num, by rw [hs.out, Nat.add_zero]⟩
    case measure => simp [intOf]; omega
  ·have e : j = 16 := by omega
   subst e;go_wp2;go_ret;exact ⟨by rw [HH.out]; rfl, HB⟩
theorem yM (x : Ros) (w : World) : Calls prog 92 #[ros x] w fun e w' => e = .returned (.bool (pS x)) /\ Below w.heap.size w w' := by
 obtain ⟨h1, h2, h3⟩ := cY w x;have HR := ae h1;have HB := ae h2;have HZ := ae h3;clear h1 h2 h3;have HC : Hid (pS x = if many x 2 = 0 then decide (x.cur = 0) else tZ x x.cur) := ae (by rw [<- fJ]; rfl);go_enter func92, ntmps92;go_wp2_with (first | (refine au rfl (bf rfl rfl) ?_) | (refine au rfl (bh (c := x) rfl rfl ?_) ?_; (with_reducible exact HR.out.range)) | fail);generalize w.alloc (.cells (aU x).toArray 35) = w1 at *;refine (z3 x 2 w1).mono ?_;rintro e w2 ⟨rfl, hb⟩;have HR2 := ae (HR.out.below HZ hb);obtain ⟨c0, c1, c2, c3, c4⟩ := HR2.out.cells;have HB2 := ae (HB.out.trans (hb.mono (Nat.le_of_lt HZ)));have HZ2 := ae (aW HR2);clear hb;by_cases h0 : many x 2 = 0
 ·rw [if_pos h0] at HC;rw [h0];go_wp2;go_ret;exact ⟨a9 (by rw [HC.out, Bool.eq_iff_iff]; simp), HB2⟩
 ·rw [if_neg h0] at HC;have hd : ((many x 2 : Int) == 0) = false := by simp; omega
  clear h0;generalize many x 2 = n at *;go_wp2_with (first | (refine au rfl (bh (c := x) rfl rfl ?_) ?_; (with_reducible exact HR2.out.range)) | fail);refine (y6 x x.cur w2).mono ?_;rintro e w3 ⟨rfl, hb⟩;have HB3 := ae (HB2.out.trans (hb.mono (Nat.le_of_lt HZ2)));clear hb;go_wp2_with fail;go_ret;exact ⟨a9 (by rw [HC.out]), HB3⟩
theorem abE {x : Ros} (h1 : ∀ k, k < 16 -> sta x k <= 2) (h2 : ∀ k : Nat, k < 16 -> sta x k ≠ 0 -> fp x (k : Int) = true) : eN x = true :=
 gp.2 ⟨h1, fun k hk hm => Classical.byContradiction fun h0 => by have := oh (h2 k hk h0); omega⟩
theorem zl {x : Ros} {k : Nat} (hk : k < 16) (h : 2 < sta x k) : eN x = false := Bool.eq_false_iff.2 fun hs => by have := (gF hs).1 k hk; omega
theorem zm {x : Ros} {k : Nat} (hk : k < 16) (h0 : sta x k ≠ 0) (h : fp x (k : Int) = false) : eN x = false := Bool.eq_false_iff.2 fun hs => by
 have h1 := of_decide_eq_false h;exact h0 ((gF hs).2 k hk (by omega))
theorem xE (x : Ros) (w : World) : Calls prog 91 #[ros x] w fun e w' => e = .returned (.bool (eN x && decide (cF x <= 1))) /\ Below w.heap.size w w' := by
 obtain ⟨h1, h2, h3⟩ := cY w x;have HR := ae h1;have HB := ae h2;have HZ := ae h3;clear h1 h2 h3;have HL := ae (gO x.st);have HOK : Hid ((∀ k, k < 16 -> bt x.st.toList k <= 2) -> (∀ k : Nat, k < 16 -> bt x.st.toList k ≠ 0 -> fp x (k : Int) = true) -> eN x = true) := ae abE;have HBIG : Hid (∀ k, k < 16 -> 2 < bt x.st.toList k -> eN x = false) := ae fun k => zl
 have HFAR : Hid (∀ k : Nat, k < 16 -> bt x.st.toList k ≠ 0 -> fp x (k : Int) = false -> eN x = false) := ae fun k => zm
 go_enter func91, ntmps91;go_wp2_with (first | (refine au rfl (bf rfl rfl) ?_) | (refine au rfl (dy HL.out rfl rfl ?_) ?_; (with_reducible exact HR.out.sts)) | fail);generalize w.alloc (.cells (aU x).toArray 35) = w1 at *;have hb0 := HB.out;have hr0 := HR.out;clear HB HR HZ
 go_loopw [7] (fun i wr => ∃ j : Nat, j <= 16 /\ i = .int .i64 j /\ Below w.heap.size w wr /\ bF wr w.heap.size x /\ (∀ k, k < j -> bt x.st.toList k <= 2) /\ (∀ k : Nat, k < j -> bt x.st.toList k ≠ 0 -> fp x (k : Int) = true)) (fun i _ => 16 - (intOf i).toNat)
 case atStart => exact ⟨0, Nat.zero_le _, rfl, hb0, hr0, fun k hk => absurd hk (by omega), fun k hk => absurd hk (by omega)⟩
 case round =>
  clear hb0 hr0;obtain ⟨j, hj, rfl, hb, hr, h1, h2⟩ := hrel;have HB := ae hb;have HR := ae hr;have HZ := ae (aW hr);have HA1 := ae h1;have HA2 := ae h2;clear hb hr h1 h2;by_cases hlt : j < 16
  ·have HS : Hid (bt x.st.toList j <= 2 -> ∀ k, k < j + 1 -> bt x.st.toList k <= 2) := ae fun hv k hk => by
    by_cases e : k = j
    ·rw [e]; exact hv
    ·exact HA1.out k (by omega)
   have HT : Hid ((bt x.st.toList j ≠ 0 -> fp x (j : Int) = true) -> ∀ k : Nat, k < j + 1 -> bt x.st.toList k ≠ 0 -> fp x (k : Int) = true) := ae fun hv k hk h0 => by
    by_cases e : k = j
    ·rw [e] at h0 ⊢; exact hv h0
    ·exact HA2.out k (by omega) h0
   have HLO := ae (iY x.st.toList j);have HG := ae (HBIG.out j hlt);have HFR := ae (HFAR.out j hlt);clear HOK HBIG HFAR HA1 HA2;obtain ⟨v, hv⟩ : ∃ v, bt x.st.toList j = v := ⟨_, rfl⟩;rw [hv] at HS HT HLO HG HFR;have HV := ae hv;clear hv;by_cases v0 : v = 0
   ·have HN1 := ae (HS.out (by omega));have HN2 := ae (HT.out (fun h => absurd v0 h));have d0 : (v == 0) = true := by simpa using v0
    clear v0;go_wp2_with (first | (refine au rfl (dI (l := x.st.toList) (j := j) HL hlt rfl rfl rfl) ?_; rw [HV.out]) | fail);go_roundw
    case rel => exact ⟨j + 1, by omega, by go_num, HB, HR, HN1, HN2⟩
    case measure => simp [intOf]; omega
   ·by_cases vb : 2 < v
    ·have HF := ae (HG.out vb);have d0 : (v == 0) = false := by simp; omega
     have d1 : (v == 1) = false := by simp; omega
     have d2 : (v == 2) = false := by simp; omega
     clear v0 vb;go_wp2_with (first | (refine au rfl (dI (l := x.st.toList) (j := j) HL hlt rfl rfl rfl) ?_; rw [HV.out]) | fail);go_ret;exact ⟨a9 (by rw [HF.out]; rfl), HB⟩
    ·have HN1 := ae (HS.out (by omega));have HV0 := ae v0;have d0 : (v == 0) = false := by simpa using v0
     obtain ⟨q, hq⟩ : ∃ q, fp x (j : Int) = q := ⟨_, rfl⟩;have HQ := ae hq;rw [hq] at HT HFR;clear hq;have hv2 : v = 1 \/ v = 2 := by have := HLO.out; omega
     rcases hv2 with e | e
     ·have d1 : (v == 1) = true := by simpa using e
      clear e v0 vb;go_wp2_with (first | (refine au rfl (dI (l := x.st.toList) (j := j) HL.out hlt rfl rfl rfl) ?_; rw [HV.out]) | (refine au rfl (bh (c := x) rfl rfl ?_) ?_; (with_reducible exact HR.out.range)) | fail);refine (nR x (j : Int) wr).mono ?_;rintro e w3 ⟨rfl, hb⟩;rw [HQ.out];have HB3 := ae (HB.out.trans (hb.mono (Nat.le_of_lt HZ)));have HR3 := ae (HR.out.below HZ hb);clear hb HR HB HZ;cases q
      ·have HF := ae (HFR.out HV0 rfl);go_wp2_with fail;go_ret;exact ⟨a9 (by rw [HF.out]; rfl), HB3⟩
      ·have HN2 := ae (HT.out (fun _ => rfl));go_wp2_with fail;go_roundw
       case rel => exact ⟨j + 1, by omega, by go_num, HB3, HR3, HN1, HN2⟩
       case measure => simp [intOf]; omega
     ·have d1 : (v == 1) = false := by simp; omega
      have d2 : (v == 2) = true := by simpa using e
      clear e v0 vb;go_wp2_with (first | (refine au rfl (dI (l := x.st.toList) (j := j) HL.out hlt rfl rfl rfl) ?_; rw [HV.out]) | (refine au rfl (bh (c := x) rfl rfl ?_) ?_; (with_reducible exact HR.out.range)) | fail);refine (nR x (j : Int) wr).mono ?_;rintro e w3 ⟨rfl, hb⟩;rw [HQ.out];have HB3 := ae (HB.out.trans (hb.mono (Nat.le_of_lt HZ)));have HR3 := ae (HR.out.below HZ hb);clear hb HR HB HZ;cases q
      ·have HF := ae (HFR.out HV0 rfl);go_wp2_with fail;go_ret;exact ⟨a9 (by rw [HF.out]; rfl), HB3⟩
      ·have HN2 := ae (HT.out (fun _ => rfl));go_wp2_with fail;go_roundw
       case rel => exact ⟨j + 1, by omega, by go_num, HB3, HR3, HN1, HN2⟩
       case measure => simp [intOf]; omega
  ·have e : j = 16 := by omega
   subst e;have HE := ae (HOK.out HA1 HA2);clear HOK HBIG HFAR HA1 HA2 hlt hj;go_wp2_with (first | (refine au rfl (bh (c := x) rfl rfl ?_) ?_; (with_reducible exact HR.out.range)) | fail);refine (z3 x 2 wr).mono ?_;rintro e w3 ⟨rfl, hb⟩;have HB3 := ae (HB.out.trans (hb.mono (Nat.le_of_lt HZ)));clear hb;have hm := ae (fJ x);generalize many x 2 = n at *;go_wp2;go_ret;exact ⟨a9 (by rw [HE.out, Bool.true_and, hm.out, decide_eq_decide]; omega), HB3⟩
theorem acQ (x : Ros) (w : World) : Calls prog 66 #[ros x] w fun e w' => e = .returned (.bool (a8 x)) /\ Below w.heap.size w w' := by
 have HF := ae (mC x);obtain ⟨h1, h2, h3⟩ := cY w x;have HR := ae h1;have HB := ae h2;have HZ := ae h3;clear h1 h2 h3;go_enter func66, ntmps66;go_wp2_with (first | (refine au rfl (bf rfl rfl) ?_) | (refine au rfl (ct (c := x) rfl rfl ?_) ?_; (with_reducible exact HR.out.geo)) | fail);generalize w.alloc (.cells (aU x).toArray 35) = w1 at *;refine (aah x w1).mono ?_;rintro e w2 ⟨rfl, hb⟩;have HR2 := ae (HR.out.below HZ hb);have HB2 := ae (HB.out.trans (hb.mono (Nat.le_of_lt HZ)));have HZ2 := ae (aW HR2);clear hb HR HB HZ;generalize ei x = g at *;cases g
 ·go_wp2_with fail;go_ret;exact ⟨a9 (by rw [HF.out]; rfl), HB2⟩
 ·go_wp2_with (first | (refine av (by rfl) (bh (c := x) rfl rfl ?_) ?_; (with_reducible exact HR2.out.range)) | fail);refine (xE x w2).mono ?_;rintro e w3 ⟨rfl, hb⟩;have HR3 := ae (HR2.out.below HZ2 hb);have HB3 := ae (HB2.out.trans (hb.mono (Nat.le_of_lt HZ2)));have HZ3 := ae (aW HR3);clear hb HR2 HB2 HZ2;generalize (eN x && decide (cF x <= 1)) = p at *;cases p
  ·go_wp2_with fail;go_ret;exact ⟨a9 (by rw [HF.out]; rfl), HB3⟩
  ·go_wp2_with (first | (refine av (by rfl) (bh (c := x) rfl rfl ?_) ?_; (with_reducible exact HR3.out.range)) | fail);refine (yM x w3).mono ?_;rintro e w4 ⟨rfl, hb⟩;have HB4 := ae (HB3.out.trans (hb.mono (Nat.le_of_lt HZ3)));clear hb;generalize pS x = q at *;go_wp2_with fail;go_ret;exact ⟨a9 (by rw [HF.out]; rfl), HB4⟩
theorem abQ (x : Ros) (w : World) : Calls prog 24 #[ros x] w fun e w' => e = .returned (.bool (a8 x)) /\ Below w.heap.size w w' := by
 obtain ⟨h1, h2, h3⟩ := cY w x;have HR := ae h1;have HB := ae h2;have HZ := ae h3;clear h1 h2 h3;go_enter func24, ntmps24;go_wp2_with (first | (refine au rfl (bf rfl rfl) ?_) | (refine au rfl (bh (c := x) rfl rfl ?_) ?_; (with_reducible exact HR.out.range)) | fail);generalize w.alloc (.cells (aU x).toArray 35) = w1 at *;refine (wn x w1).mono ?_;rintro e w2 ⟨rfl, hb⟩;have HB2 := ae (HB.out.trans (hb.mono (Nat.le_of_lt HZ)));clear hb;go_wp2_with fail;go_ret;exact ⟨rfl, HB2⟩
def setW (w : World) (b o : Nat) (v : Value) : World := w.setCell ⟨b, o, none⟩ v
def fZ (w : World) (b : Nat) (x : Ros) : World := w.setCells b 0 (aU x)
section
variable {w w0 : World} {b k o : Nat} {v : Value} {x y : Ros}
theorem qK {B : Nat} (h : Below B w0 w) (hb : B <= b) : Below B w0 (setW w b o v) := below_setCells h hb [v]
theorem vG (hne : k ≠ b) : (setW w b o v).heap[k]? = w.heap[k]? := heap_setCell_other w ⟨b, o, none⟩ k v hne
theorem nq : (fZ w b x).heap.size = w.heap.size := (fa b _ 0 w).1
theorem gD {B : Nat} (h : Below B w0 w) (hb : B <= b) : Below B w0 (fZ w b x) := below_setCells h hb _
theorem qk (hne : k ≠ b) : (fZ w b x).heap[k]? = w.heap[k]? := cy b _ 0 w k hne
theorem iM (h : bF w b y) : bF (fZ w b x) b x := by
 have h' : w.heap[b]? = some (.cells ([] ++ aU y ++ []).toArray 35 (0, 0)) := by rw [List.nil_append, List.append_nil]; exact h
 have := heap_put b 35 [] (aU x) (aU y) [] w (by rw [aY, aY]) h';rw [List.nil_append, List.append_nil] at this;exact this
theorem xQ (x : Ros) {j : Nat} (hj : j < 16) (u : UInt8) : (aU x).set (3 + j) (.int .u8 (u.toNat : Int)) = aU (fo x j u) := by
 rw [fw x, fw (fo x j u), jR];have e1 : cU (fo x j u) = cU x := rfl;rw [e1, List.set_append_right _ _ (by simp [cU]), show 3 + j - (cU x).length = j from by simp [cU], List.set_append_left _ _ (by rw [bi]; simp; omega)];unfold vals;rw [List.map_set]
 rfl
theorem wM (x : Ros) (c : Int) : (aU x).set 19 (.int .i64 c) = aU (ko x c) := by
 rw [fw x, fw (ko x c)];have e1 : cU (ko x c) = cU x := rfl;rw [e1, List.set_append_right _ _ (by simp [cU]), show 19 - (cU x).length = 16 from rfl, List.set_append_right _ _ (by rw [bi]; simp), show 16 - (vals x.st.toList).length = 0 from by rw [bi]; simp]
 rfl
theorem bF.setW (h : bF w b x) (hy : (aU x).set o v = aU y) : bF (setW w b o v) b y := by
 have := heap_setCell_same w b o _ 35 v h;rw [List.setIfInBounds_toArray, hy] at this;exact this
theorem bF.there (h : bF w b x) {o n : Nat} (hn : o + n <= 21) : w.there b o n := bm h (by rw [aY]; exact hn)
end
section
variable {ρ : Operand -> Value} {o : Oper} {x y : Operand} {w : World} {b off : Nat} {c d : Ros}
theorem dv (ho : o.op = .store 35 x y) (hx : ρ x = .pointer (some ⟨b, 0, none⟩)) (hy : ρ y = ros c) (h : bF w b d) : (execOp ρ o).run prog w = .ok .skip (fZ w b c) :=
 eH (by rw [aY]; exact mW) (gl c) ho hx hy (by rw [aY]; exact h.there (by omega))
theorem vN (h : w.there b off 1) : ∃ v, w.cell? ⟨b, off, none⟩ = some v /\ w.frozen? ⟨b, off, none⟩ = false := by
 have := h 0 (by omega);rw [Nat.add_zero] at this;obtain ⟨h1, h2⟩ := this;obtain ⟨v, hv⟩ := Option.isSome_iff_exists.1 h1;exact ⟨v, hv, h2⟩
theorem pl {u : Int} (ho : o.op = .store 5 x y) (hx : ρ x = .pointer (some ⟨b, off, none⟩)) (hy : ρ y = .int .u8 u) (h : w.there b off 1) : (execOp ρ o).run prog w = .ok .skip (setW w b off (.int .u8 u)) := by
 obtain ⟨v, hc, hf⟩ := vN h;exact fS ho hx hy (by simp [go_sem, hc, hf, setW])
theorem vY {u : Int} (ho : o.op = .store 3 x y) (hx : ρ x = .pointer (some ⟨b, off, none⟩)) (hy : ρ y = .int .i64 u) (h : w.there b off 1) : (execOp ρ o).run prog w = .ok .skip (setW w b off (.int .i64 u)) := by
 obtain ⟨v, hc, hf⟩ := vN h;exact fS ho hx hy (by simp [go_sem, hc, hf, setW])
theorem aX (ho : o.op = .load 35 x) (hx : ρ x = .pointer (some ⟨b, 0, none⟩)) (h : bF w b c) : (execOp ρ o).run prog w = .ok (.value (ros c)) w := bh ho hx h.range
theorem ui (w : World) : (Instr.build 35 #[]).run prog w = .ok (ros bO) w := by kernel_rfl
theorem rV (ho : o.op = .build 35 #[]) : (execOp ρ o).run prog w = .ok (.value (ros bO)) w := iJ ho (ui w)
theorem mL {ad : Addr} {n : Bool} (h : w.cell? ad = some (.bool n)) : (Instr.loadAt 4 (.pointer (some ad))).run prog w = .ok (.bool n) w := by simp [go_sem, h]
theorem mM {b : Nat} : (Instr.fieldAt 35 (.pointer (some ⟨b, 0, none⟩)) 3).run prog w = .ok (.pointer (some ⟨b, 20, none⟩)) w := by kernel_rfl
theorem ja {fn : Func} {p u : Tmp} (h : fn.results = #[.cell p 35, .tmp u]) (tmps : Array Value) (w : World) (b : Nat) (hp : tmps.getD p undef = .pointer (some ⟨b, 0, none⟩)) (hc : bF w b c) :
  (results fn tmps).run prog w = .ok (.tuple #[ros c, tmps.getD u undef]) w := by
 have hl : (loadVar 35 ⟨b, 0, none⟩).run prog w = .ok (ros c) w := run_loadVar_mid w b 0 35 (aU c) _ hc.range underlying35 rfl (by rw [aY]; exact mW);have hp' : tmps[p]?.getD undef = .pointer (some ⟨b, 0, none⟩) := by simpa using hp
 simp [results, h, hp', asAddr, hl]
end
structure iT (w0 w : World) (x y : Ros) : Prop where
 bel : Below w0.heap.size w0 w
 at0 : bF w w0.heap.size x
 at1 : bF w (w0.heap.size + 1) y
theorem iT.new (w : World) (x : Ros) : iT w ((w.alloc (.cells (aU x).toArray 35)).alloc (.cells (aU bO).toArray 35)) x bO := by
 refine ⟨((Below.refl _ w).alloc ai _).alloc (by simp) _, (bF.new w x).past _, ?_⟩;have := bF.new (w.alloc (.cells (aU x).toArray 35)) bO;rwa [World.size_alloc] at this
section
variable {w0 w w' : World} {x y z : Ros}
theorem iT.call (h : iT w0 w x y) (hb : Below w.heap.size w w') : iT w0 w' x y :=
 ⟨h.bel.trans (hb.mono h.bel.size), h.at0.below (aW h.at0) hb, h.at1.below (aW h.at1) hb⟩
theorem iT.put (h : iT w0 w x y) (z : Ros) : iT w0 (fZ w (w0.heap.size + 1) z) x z :=
 ⟨gD h.bel (by omega), (qk (by omega)).trans h.at0, iM h.at1⟩
theorem iT.set (h : iT w0 w x y) {o : Nat} {v : Value} (hy : (aU x).set o v = aU z) : iT w0 (setW w w0.heap.size o v) z y :=
 ⟨qK h.bel ai, h.at0.setW hy, (vG (by omega)).trans h.at1⟩
end
structure fz (w0 w : World) (x : Ros) : Prop where
 bel : Below w0.heap.size w0 w
 at0 : bF w w0.heap.size x
theorem fz.new (w : World) (x : Ros) : fz w (w.alloc (.cells (aU x).toArray 35)) x := ⟨(cY w x).2.1, (cY w x).1⟩
theorem fz.call {w0 w w' : World} {x : Ros} (h : fz w0 w x) (hb : Below w.heap.size w w') : fz w0 w' x :=
 ⟨h.bel.trans (hb.mono h.bel.size), h.at0.below (aW h.at0) hb⟩
section
variable {x : Ros} {m : Int} {c : Int} {b : Bool} (w : World)
theorem g7 (h : a8 x = b) : Calls prog 66 #[ros x] w fun e w' => e = .returned (.bool b) /\ Below w.heap.size w w' := by subst h; exact acQ x w
theorem eD (h : a8 x = b) : Calls prog 24 #[ros x] w fun e w' => e = .returned (.bool b) /\ Below w.heap.size w w' := by subst h; exact abQ x w
theorem iK (h : fp x m = b) : Calls prog 87 #[ros x, .int .i64 m] w fun e w' => e = .returned (.bool b) /\ Below w.heap.size w w' := by subst h; exact nR x m w
end
def kT (M : aM) (x : Ros) : Nat -> Bool
 |0 => true
 |k + 1 => kT M x k && !decide (cW M (k : Int) < 2 + x.s)
def kx (M : aM) (id ev : Nat) (x : Ros) : Bool := !decide (id = 0) && (!decide (2305843009213693952 < ev) && (a8 x && (decide ((M.ds.length : Int) = x.m + 1) && kT M x x.m.toNat)))
theorem tc {M : aM} {x : Ros} {i : Nat} (h : cW M (i : Int) < 2 + x.s) : ∀ {n : Nat}, i < n -> kT M x n = false
 |0, hi => absurd hi (by omega)
 |n + 1, hi => by
  rw [kT];by_cases e : i = n
  ·subst e; rw [am h]; simp
  ·rw [tc h (n := n) (by omega)]; rfl
theorem m0 {M : aM} {x : Ros} {i : Nat} (h : kT M x i = true) (h' : ¬ cW M (i : Int) < 2 + x.s) : kT M x (i + 1) = true := by rw [kT, h, al h']; rfl
structure CrG (w : World) (G : Nat -> Prop) : Prop where
 t : Tab w
 off : ¬ G 0
structure pd where
 R : mQ
 J : World -> (Nat -> Prop) -> Nat -> Nat -> HuS -> Prop
 lt : ∀ {w G q p h}, J w G q p h -> ∀ b, G b -> b < w.heap.size
 fin : ∀ {w G q p h}, J w G q p h -> a8 h.R = true /\ h.id ≠ 0
 only : ∀ {w w' G F q p h}, J w G q p h -> Only F w w' -> (∀ b, G b -> ¬ F b) -> J w' G q p h
 ben : ∀ {w G q p h}, J w G q p h -> ∃ Gb, R.Bn w Gb q h.M /\ (∀ b, Gb b -> G b) /\ ∀ w' Gb' M', R.Bn w' Gb' q M' -> Only Gb w w' -> Grow w Gb Gb' -> ∃ G', J w' G' q p { h with M := M' } /\ Only G w w' /\ Grow w G G'
 new_ : ∀ {w G q M} (id ev : Nat) (x : Ros), id < 18446744073709551616 -> ev < 18446744073709551616 -> R.Bn w G q M -> Calls prog 27 #[.pointer (some ⟨q, 0, none⟩), .int .u64 (id : Int), .int .u64 (ev : Int), ros x] w fun e w' =>
  Below w.heap.size w w' /\ ((kx M id ev x = true /\ ∃ p G', e = .returned (.tuple #[.pointer (some ⟨p, 0, none⟩), .int .i64 0]) /\ J w' G' q p ⟨M, id, ev, x⟩ /\ ∀ b, G' b -> G b \/ w.heap.size <= b) \/ (kx M id ev x = false /\ e = .returned (.tuple #[.pointer none, .int .i64 2])))
 new_nil : ∀ (w : World) (id ev : Nat) (x : Ros), id < 18446744073709551616 -> ev < 18446744073709551616 -> Calls prog 27 #[.pointer none, .int .u64 (id : Int), .int .u64 (ev : Int), ros x] w fun e w' => e = .returned (.tuple #[.pointer none, .int .i64 1]) /\ Below w.heap.size w w'
 save : ∀ {w G q p h}, J w G q p h -> CrG w G -> Room h.M 600 -> h.ev <= 4611686018427387000 -> Calls prog 28 #[.pointer (some ⟨p, 0, none⟩)] w fun e w' => e = .returned (.int .i64 (jb h)) /\ ∃ G', (jb h = 0 -> J w' G' q p (hU h)) /\ Only G w w' /\ Grow w G G' /\ ∃ Gb, R.Bn w' Gb q (hU h).M /\ ∀ b, Gb b -> G' b
 abS : ∀ {w G q p h}, J w G q p h -> Calls prog 32 #[.pointer (some ⟨p, 0, none⟩)] w fun e w' => e = .returned (.int .u64 (h.ev : Int)) /\ Below w.heap.size w w'
 abp : ∀ {w G q p h}, J w G q p h -> Calls prog 29 #[.pointer (some ⟨p, 0, none⟩)] w fun e w' => e = .returned (ros h.R) /\ Below w.heap.size w w'
 No : World -> Value -> Prop
 zc : List Value
 zb : List Value
 no_nil : ∀ w : World, No w (.pointer none)
 bld0 : ∀ w : World, (Instr.build 112 #[]).run prog w = .ok (.agg zc.toArray) w
 bldB : ∀ w : World, (Instr.build 75 #[]).run prog w = .ok (.agg zb.toArray) w
 no_zero : ∀ w : World, No (w.alloc (.cells zc.toArray 112)) (.pointer (some ⟨w.heap.size, 0, none⟩))
 no_below : ∀ {w w' : World} {v : Value}, No w v -> Below w.heap.size w w' -> No w' v
 new_zero : ∀ (w : World) (b : Nat) (id ev : Nat) (x : Ros), w.heap[b]? = some (.cells zb.toArray 75 (0, 0)) -> id < 18446744073709551616 -> ev < 18446744073709551616 -> Calls prog 27 #[.pointer (some ⟨b, 0, none⟩), .int .u64 (id : Int), .int .u64 (ev : Int), ros x] w fun e w' => e = .returned (.tuple #[.pointer none, .int .i64 1]) /\ Below w.heap.size w w'
 no_save : ∀ (w : World) (v : Value) , No w v -> Calls prog 28 #[v] w fun e w' => e = .returned (.int .i64 1) /\ Below w.heap.size w w'
 no_event : ∀ (w : World) (v : Value) , No w v -> Calls prog 32 #[v] w fun e w' => e = .returned (.int .u64 0) /\ Below w.heap.size w w'
theorem pd.below (C : pd) {w w' : World} {G : Nat -> Prop} {q p : Nat} {h : HuS} (hj : C.J w G q p h) (k : Below w.heap.size w w') : C.J w' G q p h := C.only hj (Only.of_below (fun _ => False) k) fun _ _ e => e
structure j0 (w0 : World) (B : Nat) : Prop where
 le : B <= w0.heap.size
 t : Tab w0
 lo : 0 < B
theorem kL {w : World} {b j : Nat} {v : Value} (h : w.cell? ⟨b, j, none⟩ = some v) : b < w.heap.size := by
 rcases Nat.lt_or_ge b w.heap.size with h' | h'
 ·exact h'
 ·have : w.heap[b]? = none := Array.getElem?_eq_none h';simp [World.cell?, this] at h
theorem j0.start {w : World} (h : Tab w) : j0 w w.heap.size := ⟨ai, h, kL (h 0 (by omega))⟩
theorem j0.tab {w0 w : World} {B : Nat} (h : j0 w0 B) (hb : Below B w0 w) : Tab w := fun i hi => (World.cell?_of_block (w := w0) (hb.block _ h.lo)).trans (h.t i hi)
def HAt (C : pd) (w0 : World) (B : Nat) (K : Nat -> Prop) (w : World) (q p : Nat) (h : HuS) : Prop := ∃ G, C.J w G q p h /\ (∀ b, G b -> B <= b) /\ Below B w0 w /\ j0 w0 B /\ ∀ b, K b -> ¬ G b /\ b < w.heap.size
def df (K : Nat -> Prop) (w w' : World) : Prop := ∀ b, K b -> w'.heap[b]? = w.heap[b]?
theorem df.trans {K : Nat -> Prop} {w1 w2 w3 : World} (h : df K w1 w2) (k : df K w2 w3) : df K w1 w3 := fun b e => (k b e).trans (h b e)
theorem df.less {K K' : Nat -> Prop} {w1 w2 : World} (h : df K w1 w2) (hK : ∀ b, K' b -> K b) : df K' w1 w2 := fun b e => h b (hK b e)
theorem df.at_ {K : Nat -> Prop} {w w' : World} {b : Nat} {o : Obj} (k : df K w w') (hb : K b) (ho : w.heap[b]? = some o) : w'.heap[b]? = some o := (k b hb).trans ho
theorem df.sw {K : Nat -> Prop} {w w' : World} {g : Nat} (ho : Only (fun b => b = g) w w') (hK : ∀ b, K b -> b ≠ g /\ b < w.heap.size) : df K w w' := fun b e => ho.block b (hK b e).2 (hK b e).1
section
variable {C : pd} {w0 w w' : World} {B q p : Nat} {K K' : Nat -> Prop} {h h' : HuS}
theorem HAt.bel (a : HAt C w0 B K w q p h) : Below B w0 w := by obtain ⟨G, h1, h2, h3, _⟩ := a; exact h3
theorem HAt.guard (a : HAt C w0 B K w q p h) (k : Below w.heap.size w w') (hK : ∀ b, K' b -> K b \/ (w.heap.size <= b /\ b < w'.heap.size)) : HAt C w0 B K' w' q p h := by
 obtain ⟨G, h1, h2, h3, h4, h5⟩ := a;have hs := k.size;refine ⟨G, C.below h1 k, h2, h3.trans (k.mono (ap h4.le h3.size)), h4, fun b hb => ?_⟩;rcases hK b hb with e | ⟨e1, e2⟩
 ·obtain ⟨g1, g2⟩ := h5 b e;exact ⟨g1, by omega⟩
 ·exact ⟨fun hg => by have := C.lt h1 b hg; omega, e2⟩
theorem HAt.below (a : HAt C w0 B K w q p h) (k : Below w.heap.size w w') : HAt C w0 B K w' q p h := a.guard k fun b e => .inl e
theorem HAt.turn {G G' : Nat -> Prop} (h2 : ∀ b, G b -> B <= b) (h3 : Below B w0 w) (h4 : j0 w0 B) (h5 : ∀ b, K b -> ¬ G b /\ b < w.heap.size) (k1 : C.J w' G' q p h') (k2 : Only G w w') (k3 : Grow w G G') : HAt C w0 B K w' q p h' /\ df K w w' := by
 have hs := ap h4.le h3.size;have hs2 := k2.size;refine ⟨⟨G', k1, k3.above h2 hs, h3.trans (k2.below h2 hs), h4, fun b hb => ?_⟩, fun b hb => k2.block b (h5 b hb).2 (h5 b hb).1⟩;obtain ⟨g1, g2⟩ := h5 b hb;refine ⟨fun hg => ?_, by omega⟩;rcases k3 b hg with e | e
 ·exact g1 e
 ·omega
theorem j0.crg {G : Nat -> Prop} (h : j0 w0 B) (hb : Below B w0 w) (hG : ∀ b, G b -> B <= b) : CrG w G := ⟨h.tab hb, fun e => by have := h.lo; have := hG _ e; omega⟩
theorem HAt.save (a : HAt C w0 B K w q p h) (hr : Room h.M 600) (he : h.ev <= 4611686018427387000) (hz : jb h = 0) : Calls prog 28 #[.pointer (some ⟨p, 0, none⟩)] w fun e w' => e = .returned (.int .i64 (jb h)) /\ HAt C w0 B K w' q p (hU h) /\ df K w w' := by
 obtain ⟨G, h1, h2, h3, h4, h5⟩ := a;exact (C.save h1 (h4.crg h3 h2) hr he).mono fun e w' ⟨k0, G', k1, k2, k3, _⟩ => ⟨k0, HAt.turn h2 h3 h4 h5 (k1 hz) k2 k3⟩
theorem HAt.ben {I : FuncId} {vs : Array Value} {v : Value} {M' : aM} (a : HAt C w0 B K w q p h) (hc : ∀ {w F}, C.R.Bn w F q h.M -> Calls prog I vs w fun e w' => e = .returned v /\ ∃ F', C.R.Bn w' F' q M' /\ Only F w w' /\ Grow w F F') : Calls prog I vs w fun e w' => e = .returned v /\ HAt C w0 B K w' q p { h with M := M' } /\ df K w w' := by
 obtain ⟨G, h1, h2, h3, h4, h5⟩ := a;obtain ⟨Gb, b1, b2, b3⟩ := C.ben h1;refine (hc b1).mono fun e w' ⟨he, F', k1, k2, k3⟩ => ?_
 obtain ⟨G', g1, g2, g3⟩ := b3 w' F' M' k1 k2 k3;exact ⟨he, HAt.turn h2 h3 h4 h5 g1 g2 g3⟩
end
def TwB {I J : se} (R : Ben I) (Q : Ben J) (w0 : World) (B : Nat) (K : Nat -> Prop) (w : World) (p q : Nat) (M N : aM) : Prop := ∃ F G, R.Bn w F p M /\ Q.Bn w G q N /\ (∀ b, F b -> ¬ G b) /\ (∀ b, F b \/ G b -> B <= b) /\ Below B w0 w /\ j0 w0 B /\ ∀ b, K b -> ¬ F b /\ ¬ G b /\ b < w.heap.size
section
variable {I J : se} {R : Ben I} {Q : Ben J} {w0 w w' : World} {B p q : Nat} {K K' : Nat -> Prop} {M M' N N' : aM}
theorem TwB.bel (a : TwB R Q w0 B K w p q M N) : Below B w0 w := by obtain ⟨F, G, h1, h2, h3, h4, h5, _⟩ := a; exact h5
theorem TwB.bas (a : TwB R Q w0 B K w p q M N) : j0 w0 B := by obtain ⟨F, G, h1, h2, h3, h4, h5, h6, _⟩ := a; exact h6
theorem TwB.le (a : TwB R Q w0 B K w p q M N) : B <= w.heap.size := ap a.bas.le a.bel.size
theorem TwB.tab (a : TwB R Q w0 B K w p q M N) : Tab w := a.bas.tab a.bel
theorem TwB.guard (a : TwB R Q w0 B K w p q M N) (k : Below w.heap.size w w') (hK : ∀ b, K' b -> K b \/ (w.heap.size <= b /\ b < w'.heap.size)) : TwB R Q w0 B K' w' p q M N := by
 have hle := a.le;obtain ⟨F, G, h1, h2, h3, h4, h5, h6, h7⟩ := a;have hs := k.size;refine ⟨F, G, R.below h1 k, Q.below h2 k, h3, h4, h5.trans (k.mono hle), h6, fun b hb => ?_⟩;rcases hK b hb with e | ⟨e1, e2⟩
 ·obtain ⟨g1, g2, g3⟩ := h7 b e;exact ⟨g1, g2, by omega⟩
 ·exact ⟨fun hf => by have := R.lt h1 b hf; omega, fun hf => by have := Q.lt h2 b hf; omega, e2⟩
theorem TwB.below (a : TwB R Q w0 B K w p q M N) (k : Below w.heap.size w w') : TwB R Q w0 B K w' p q M N := a.guard k fun b e => .inl e
theorem TwB.left {f : FuncId} {vs : Array Value} {v : Value} (a : TwB R Q w0 B K w p q M N) (hc : ∀ F, R.Bn w F p M -> Calls prog f vs w fun e w' => e = .returned v /\ ∃ F', R.Bn w' F' p M' /\ Only F w w' /\ Grow w F F') : Calls prog f vs w fun e w' => e = .returned v /\ TwB R Q w0 B K w' p q M' N /\ df K w w' := by
 have hle := a.le;obtain ⟨F, G, h1, h2, h3, h4, h5, h6, h7⟩ := a;refine (hc F h1).mono fun e w' ⟨k0, F', k1, k2, k3⟩ => ?_
 have hs := k2.size;refine ⟨k0, ⟨F', G, k1, Q.only h2 k2 fun b hb hf => h3 b hf hb, fun b hf hg => ?_, fun b hb => ?_, h5.trans (k2.below (fun b e => h4 b (.inl e)) hle), h6, fun b hb => ?_⟩, fun b hb => k2.block b (h7 b hb).2.2 (h7 b hb).1⟩
 ·rcases k3 b hf with y | y
  ·exact h3 b y hg
  ·have := Q.lt h2 b hg; omega
 ·rcases hb with hb | hb
  ·rcases k3 b hb with y | y
   ·exact h4 b (.inl y)
   ·omega
  ·exact h4 b (.inr hb)
 ·obtain ⟨g1, g2, g3⟩ := h7 b hb;refine ⟨fun hf => ?_, g2, by omega⟩;rcases k3 b hf with y | y
  ·exact g1 y
  ·omega
theorem TwB.aae {f : FuncId} {vs : Array Value} {P : Ending -> World -> Prop} (a : TwB R Q w0 B K w p q M N) (hc : ∀ F, R.Bn w F p M -> Calls prog f vs w P) : Calls prog f vs w P := by
 obtain ⟨F, G, h1, h2, _⟩ := a;exact hc F h1
theorem TwB.start {F G : Nat -> Prop} (hT : Tab w0) (h1 : R.Bn w F p M) (h2 : Q.Bn w G q N) (h3 : ∀ b, F b -> ¬ G b) (h4 : ∀ b, F b \/ G b -> w0.heap.size <= b) (h5 : Below w0.heap.size w0 w) : TwB R Q w0 w0.heap.size (fun _ => False) w p q M N := ⟨F, G, h1, h2, h3, h4, h5, j0.start hT, fun _ e => e.elim⟩
end
structure Fnd where
 ev : Nat
 id : Nat
 R : Ros
deriving DecidableEq
def bZ : Fnd := ⟨0, 0, bO⟩
def oc (M : aM) (s : Int) : Nat -> Bool
 |0 => true
 |k + 1 => oc M s k && !decide (cW M (k : Int) < 2 + s)
def gaF (M : aM) (n : Nat) (R : Ros) : Bool := decide (n <= 2305843009213693952) && decide ((M.ds.length : Int) = R.m + 1) && !decide (cW M R.m < 10 + R.r) && oc M R.s R.m.toNat
def gaX (M : aM) (d : Int) : Blk := dK M d 0
def gaY (M : aM) (d : Int) : Blk := dK M d 1
def gaQ (M : aM) (d : Int) : Bool := decide (0 <= d /\ d < (M.ds.length : Int) - 1) && decide (cf M d 0 = 0) && decide (cf M d 1 = 0) && decide (nwE (gaX M d) (gaY M d) = 0) && gaF M (nwN (gaX M d) (gaY M d)) (nwS (gaX M d) (gaY M d)).ros
def gaE (M : aM) (d : Int) : Int := if M.bz = true then 8 else if gaQ M d = true then 0 else 7
def gaN (M : aM) (d : Int) : Nat := if gaE M d = 0 then nwN (gaX M d) (gaY M d) else 0
def gaS (M : aM) (d : Int) : Sup := if gaE M d = 0 then nwS (gaX M d) (gaY M d) else bp
def gaU (o : Option Fnd) (n : Nat) : Bool := match o with
 |none => true
 |some f => decide (f.ev < n)
def gaP (M : aM) (d : Int) : Fnd := ⟨gaN M d, (gaS M d).id, (gaS M d).ros⟩
def gaK (M : aM) : Nat -> Option Fnd
 |0 => none
 |k + 1 => if gaE M (k : Int) = 0 /\ gaU (gaK M k) (gaN M (k : Int)) = true then some (gaP M (k : Int)) else gaK M k
def mx (x y : Ros) : Bool := decide (x.m = y.m /\ x.s = y.s /\ x.r = y.r)
def gaW (M : aM) (f : Fnd) (j : Nat) : Bool := decide (gaE M (j : Int) = 0) && decide ((gaS M (j : Int)).self = (j : Int)) && decide ((gaS M (j : Int)).id = f.id) && mx (gaS M (j : Int)).ros f.R
def gaL (M : aM) (f : Fnd) : Nat -> Ros
 |0 => f.R
 |k + 1 => if gaW M f k = true then gaL M f k else dh (gaL M f k) (k : Int)
def gaO (M : aM) : Option Fnd := gaK M (M.ds.length - 1)
def glE (M : aM) : Int := if M.bz = true then 8 else match gaO M with
 |none => 7
 |some _ => 0
def glF (M : aM) : Fnd := if M.bz = true then bZ else match gaO M with
 |none => bZ
 |some f => ⟨f.ev, f.id, gaL M f f.R.m.toNat⟩
section
variable {M : aM} {d : Int} {f : Fnd} {a b : Blk}
theorem xP (M : aM) (d : Int) : (gaE M d = 8 /\ M.bz = true) \/ (gaE M d = 0 /\ M.bz = false /\ gaQ M d = true) \/ (gaE M d = 7 /\ M.bz = false /\ gaQ M d = false) := by
 unfold gaE;cases h : M.bz
 ·rw [if_neg (by decide)];cases h2 : gaQ M d
  ·exact .inr (.inr ⟨rfl, rfl, rfl⟩)
  ·exact .inr (.inl ⟨rfl, rfl, rfl⟩)
 ·exact .inl ⟨rfl, rfl⟩
theorem i8 (h : gaQ M d = true) : (0 <= d /\ d < (M.ds.length : Int) - 1) /\ cf M d 0 = 0 /\ cf M d 1 = 0 /\ nwE (gaX M d) (gaY M d) = 0 /\ gaF M (nwN (gaX M d) (gaY M d)) (nwS (gaX M d) (gaY M d)).ros = true := by
 unfold gaQ at h;simp only [Bool.and_eq_true, decide_eq_true_eq] at h;exact ⟨h.1.1.1.1, h.1.1.1.2, h.1.1.2, h.1.2, h.2⟩
theorem xx (h : gaE M d = 0) : M.bz = false /\ gaQ M d = true := by
 rcases xP M d with ⟨e, _⟩ | ⟨_, e⟩ | ⟨e, _⟩
 ·omega
 ·exact e
 ·omega
theorem qU (h : gaE M d = 0) : gaN M d = nwN (gaX M d) (gaY M d) /\ gaS M d = nwS (gaX M d) (gaY M d) := ⟨if_pos h, if_pos h⟩
theorem mJ (h : gaE M d ≠ 0) : gaN M d = 0 /\ gaS M d = bp := ⟨if_neg h, if_neg h⟩
theorem nO {n : Nat} {R : Ros} (h : gaF M n R = true) : n <= 2305843009213693952 /\ (M.ds.length : Int) = R.m + 1 /\ 10 + R.r <= cW M R.m /\ oc M R.s R.m.toNat = true := by
 unfold gaF at h;simp only [Bool.and_eq_true, decide_eq_true_eq, Bool.not_eq_true', decide_eq_false_iff_not] at h;exact ⟨h.1.1.1, h.1.1.2, by omega, h.2⟩
theorem aav {n : Nat} {R : Ros} (h : n <= 2305843009213693952 /\ (M.ds.length : Int) = R.m + 1 /\ 10 + R.r <= cW M R.m /\ oc M R.s R.m.toNat = true) : gaF M n R = true := by
 unfold gaF;simp only [Bool.and_eq_true, decide_eq_true_eq, Bool.not_eq_true', decide_eq_false_iff_not];exact ⟨⟨⟨h.1, h.2.1⟩, by omega⟩, h.2.2.2⟩
theorem jn {s : Int} : ∀ {k : Nat}, oc M s k = true ↔ ∀ j, j < k -> 2 + s <= cW M (j : Int)
 |0 => ⟨fun _ j hj => absurd hj (by omega), fun _ => rfl⟩
 |k + 1 => by
  rw [oc, Bool.and_eq_true, Bool.not_eq_true', decide_eq_false_iff_not, jn (k := k)]
  constructor
  ·rintro ⟨h1, h2⟩ j hj;by_cases e : j = k
   ·subst e; omega
   ·exact h1 j (by omega)
  ·exact fun h => ⟨fun j hj => h j (by omega), by have := h k (by omega); omega⟩
theorem vh (h : nwE a b = 0) : 1 <= nwN a b /\ dW (nwS a b) = true /\ (nwS a b).id < 18446744073709551616 := by
 unfold nwE at h;have h' : ¬ (gsN a = 0 /\ gsN b = 0) := fun e => by rw [if_pos e] at h; cases h
 unfold nwN nwS;by_cases e : gsN a < gsN b
 ·rw [if_pos e, if_pos e];have h0 : gsE b = 0 := Decidable.byContradiction fun x => by have := jd x; omega
  have := mE h0;exact ⟨by omega, this.2.2.1, this.2.2.2⟩
 ·rw [if_neg e, if_neg e];have h0 : gsE a = 0 := Decidable.byContradiction fun x => by have := jd x; omega
  have := mE h0;exact ⟨by omega, this.2.2.1, this.2.2.2⟩
theorem t8 (M : aM) (d : Int) : (gaS M d).id < 18446744073709551616 := by
 unfold gaS
 split
 ·unfold nwS
  split <;> exact ue _
 ·decide
theorem oq (h : gaE M d = 0) : (1 <= gaN M d /\ gaN M d <= 2305843009213693952) /\ (gaS M d).id ≠ 0 /\ a8 (gaS M d).ros = true /\ (0 <= (gaS M d).self /\ (gaS M d).self < (gaS M d).ros.m) /\ (M.ds.length : Int) = (gaS M d).ros.m + 1 /\ 10 + (gaS M d).ros.r <= cW M (gaS M d).ros.m /\ ∀ j, j < (gaS M d).ros.m.toNat -> 2 + (gaS M d).ros.s <= cW M (j : Int) := by
 obtain ⟨e1, e2⟩ := qU h;obtain ⟨_, _, _, q4, q5⟩ := i8 (xx h).2;obtain ⟨f1, f2, f3, f4⟩ := nO q5;obtain ⟨n1, n2, n3⟩ := vh q4;obtain ⟨s1, s2, s3⟩ := jp n2;rw [e1, e2];exact ⟨⟨n1, f1⟩, s1, s2, s3, f2, f3, jn.1 f4⟩
theorem qz : ∀ {k : Nat} {f : Fnd}, gaK M k = some f -> ∃ j, j < k /\ gaE M (j : Int) = 0 /\ f = gaP M (j : Int)
 |0, f, h => by cases h
 |k + 1, f, h => by
  rw [gaK] at h
  split at h
  ·rename_i e
   injection h with h;exact ⟨k, by omega, e.1, h.symm⟩
  ·obtain ⟨j, h1, h2⟩ := qz h;exact ⟨j, by omega, h2⟩
theorem lG {f : Fnd} (hf : a8 f.R = true) : ∀ k, a8 (gaL M f k) = true /\ (gaL M f k).m = f.R.m /\ (gaL M f k).s = f.R.s /\ (gaL M f k).r = f.R.r
 |0 => ⟨hf, rfl, rfl, rfl⟩
 |k + 1 => by
  obtain ⟨h1, h2, h3, h4⟩ := lG hf k;rw [gaL]
  split
  ·exact ⟨h1, h2, h3, h4⟩
  ·have hx : ∀ (x : Ros) (m : Int), (dh x m).m = x.m /\ (dh x m).s = x.s /\ (dh x m).r = x.r := fun x m => by
    unfold dh
    split
    ·split <;> exact ⟨rfl, rfl, rfl⟩
    ·exact ⟨rfl, rfl, rfl⟩
   obtain ⟨x1, x2, x3⟩ := hx (gaL M f k) (k : Int);exact ⟨jF _ h1, x1.trans h2, x2.trans h3, x3.trans h4⟩
theorem re (M : aM) : (glE M = 8 /\ M.bz = true /\ glF M = bZ) \/ (glE M = 7 /\ M.bz = false /\ gaO M = none /\ glF M = bZ) \/ (glE M = 0 /\ M.bz = false /\ ∃ f, gaO M = some f /\ glF M = ⟨f.ev, f.id, gaL M f f.R.m.toNat⟩) := by
 unfold glE glF;cases h : M.bz
 ·rw [if_neg (by decide), if_neg (by decide)];cases h2 : gaO M with
  |none => exact .inr (.inl ⟨rfl, rfl, rfl, rfl⟩)
  |some f => exact .inr (.inr ⟨rfl, rfl, f, rfl, rfl⟩)
 ·exact .inl ⟨rfl, rfl, rfl⟩
theorem vg (h : glE M = 0) : (1 <= (glF M).ev /\ (glF M).ev <= 2305843009213693952) /\ ((glF M).id ≠ 0 /\ (glF M).id < 18446744073709551616) /\ a8 (glF M).R = true /\ (M.ds.length : Int) = (glF M).R.m + 1 /\ 10 + (glF M).R.r <= cW M (glF M).R.m /\ ∀ j, j < (glF M).R.m.toNat -> 2 + (glF M).R.s <= cW M (j : Int) := by
 rcases re M with ⟨e, _⟩ | ⟨e, _⟩ | ⟨_, _, f, e1, e2⟩
 ·omega
 ·omega
 ·obtain ⟨j, _, h1, rfl⟩ := qz e1;obtain ⟨m1, m2, m3, _, m5, m6, m7⟩ := oq h1;obtain ⟨k1, k2, k3, k4⟩ := lG (M := M) (f := gaP M (j : Int)) m3 (gaP M (j : Int)).R.m.toNat
  rw [e2];refine ⟨m1, ⟨m2, t8 M _⟩, k1, ?_, ?_, ?_⟩
  ·show _ = (gaL M _ _).m + 1; rw [k2]; exact m5
  ·show 10 + (gaL M _ _).r <= cW M (gaL M _ _).m; rw [k2, k4]; exact m6
  ·show ∀ j, j < (gaL M _ _).m.toNat -> 2 + (gaL M _ _).s <= _; rw [k2, k3]; exact m7
end
def bP (x : Fnd) : List Value := .int .u64 x.ev :: .int .u64 x.id :: aU x.R
def fnd (x : Fnd) : Value := .agg (bP x).toArray
theorem bL (x : Fnd) : (bP x).length = 23 := by simp [bP, aY]
theorem na (x : Fnd) : ∀ v ∈ bP x, v.oneCell' = true := by
 intro v hv;simp only [bP, List.mem_cons] at hv;rcases hv with rfl | rfl | hv
 ·rfl
 ·rfl
 ·exact gl _ v hv
theorem jU : (prog.info? 50).map (·.size) = some 23 := by kernel_rfl
theorem kQ : (prog.info? 50).map (fun i => i.zero) = some (some (fnd bZ)) := by kernel_rfl
section
variable {ρ : Operand -> Value} {o : Oper} {x y : Operand} {w : World} {b off : Nat}
theorem fe {c : Fnd} (ho : o.op = .load 50 x) (hx : ρ x = .pointer (some ⟨b, off, none⟩)) (hc : w.rangeAt b off (bP c)) : (execOp ρ o).run prog w = .ok (.value (fnd c)) w :=
 dU underlying50 rfl (by rw [bL]; exact jU) ho hx hc
theorem jj {c : Fnd} (ho : o.op = .box 50 x) (hx : ρ x = fnd c) : (execOp ρ o).run prog w = .ok (.value (.pointer (some ⟨w.heap.size, 0, none⟩))) (w.alloc (.cells (bP c).toArray 50)) := eI ho hx
theorem dC (ho : o.op = .alloc 50) : (execOp ρ o).run prog w = .ok (.value (.pointer (some ⟨w.heap.size, 0, none⟩))) (w.alloc (.cells (bP bZ).toArray 50)) := cX kQ ho
theorem eF {c d : Fnd} (ho : o.op = .store 50 x y) (hx : ρ x = .pointer (some ⟨w.heap.size, 0, none⟩)) (hy : ρ y = fnd c) : (execOp ρ o).run prog (w.alloc (.cells (bP d).toArray 50)) = .ok .skip (w.alloc (.cells (bP c).toArray 50)) :=
 eW (by rw [bL]; exact jU) (by rw [bL, bL]) (na c) ho hx hy
theorem i9 {c : Fnd} (ho : o.op = .store 50 x y) (hx : ρ x = .pointer (some ⟨b, off, none⟩)) (hy : ρ y = fnd c) (ht : w.there b off 23) : (execOp ρ o).run prog w = .ok .skip (w.setCells b off (bP c)) :=
 eH (by rw [bL]; exact jU) (na c) ho hx hy (by rw [bL]; exact ht)
theorem uB (w : World) : (Instr.build 50 #[]).run prog w = .ok (fnd bZ) w := by kernel_rfl
theorem gK (ho : o.op = .build 50 #[]) : (execOp ρ o).run prog w = .ok (.value (fnd bZ)) w := iJ ho (uB w)
end
structure qV (P : mQ) : Prop where
 super : ∀ {w F q M} (d : Int), P.Bn w F q M -> Tab w -> Calls prog 18 #[.pointer (some ⟨q, 0, none⟩), .int .i64 d] w fun e w' => e = .returned (.tuple #[.int .u64 (gaN M d : Nat), sup (gaS M d), .int .i64 (gaE M d)]) /\ Below w.heap.size w w'
 look : ∀ {w F q M}, P.Bn w F q M -> Tab w -> Calls prog 20 #[.pointer (some ⟨q, 0, none⟩)] w fun e w' => e = .returned (.tuple #[fnd (glF M), .int .i64 (glE M)]) /\ Below w.heap.size w w'
end Go.Proofs.YtehefifamaofkaaGreatDoor
