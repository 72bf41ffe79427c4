/-
  The walk of SealGets.
-/
import Derived.Test.YtdinnbmeolojgaaDoorSlv
import Derived.Test.YtdinnbmeolojgaaDoorSre
import Derived.Test.YtdinnbmeolojgaaDoorSpoil
import Derived.Test.YtdinnbmeolojgaaDoorSame
namespace Go.Proofs.YtdinnbmeolojgaaDoor
open Go.RowKit
set_option linter.unusedVariables false
set_option maxRecDepth 100000

theorem Made.grown {w w' : World} {B : Nat} {v : Value} {l : List UInt8} {row : Option Nat} (h : Made w B v l) (hg : w.grownBy w' row) (hne : ∀ k, row = Option.some k → k < B) : Made w' B v l := by
  refine ⟨h.1, ?_⟩
  rcases h.2 with hn | ⟨g, cap, cur, rfl, hbg, hgg, rest⟩
  · exact .inl hn
  · refine .inr ⟨g, cap, cur, rfl, hbg, ?_, rest⟩
    rw [hg.block g (Array.getElem?_eq_some_iff.1 hgg).1 (fun e => by have := hne g e.symm; omega)]
    exact hgg
theorem Bod.lt {w : World} {B : Nat} {v : Value} {l : List UInt8} (h : Bod w B v l) : ∀ k, v.ownBlock = some k → B ≤ k ∧ k < w.heap.size := by
  rcases h with ⟨rfl, _⟩ | ⟨g, rfl, hg, hr, _⟩
  · intro k hk; simp [Value.ownBlock] at hk
  · intro k hk
    simp only [Value.ownBlock, Option.some.injEq] at hk
    subst hk
    exact ⟨hg, hr.lt⟩
theorem spoil_bod {w : World} {B : Nat} {v : Value} {l : List UInt8} (h : Bod w B v l) (x : Int) : Calls Tryd.prog 19 #[v, .int .u8 x] w fun e w' => e = .returned (.tuple #[]) ∧ w.grownBy w' v.ownBlock := by
  rcases h with ⟨rfl, rfl⟩ | ⟨g, rfl, hg, hr, hm⟩
  · exact (spoil_nil x w).mono fun e w' ⟨he, hw⟩ => ⟨he, by subst hw; exact World.grownBy.refl w _⟩
  · exact (spoil_row g l.length l.length _ x w hr.row (Nat.le_refl _) hm).mono fun e w' ⟨he, hw⟩ => ⟨he, by simpa [Value.ownBlock] using hw⟩
theorem same_self (l : List UInt8) : same l l = true := by simp [same]
/-- Same, of two rows that read alike. -/
theorem same_made {w : World} {B1 B2 : Nat} {v1 v2 : Value} {l : List UInt8} (h1 : Made w B1 v1 l) (h2 : Made w B2 v2 l) : Calls Tryd.prog 18 #[v1, v2] w fun e w' => e = .returned (.bool true) ∧ Below w.heap.size w w' := by
  obtain ⟨A1, c1, rfl, r1, hc1, hm1⟩ := h1.open_ rfl
  obtain ⟨A2, c2, rfl, r2, hc2, hm2⟩ := h2.open_ rfl
  have h := same_any A1 A2 l.length l.length c1 c2 w.heap.size l l w r1 r2 (Nat.le_refl _) (Nat.le_trans hc1 hm1)
  rw [same_self] at h
  exact h

set_option maxHeartbeats 4000000 in
theorem sealGets_walk (a b : Blk) (w : World) (T : Tab w) :
    Calls Tryd.prog 4 #[blk a, blk b] w fun e w' => e = .returned (.bool true) ∧ Below w.heap.size w w' := by
  have h1 := (Below.refl w.heap.size w).alloc (Nat.le_refl _) (.cells (cel a).toArray 26)
  have h2 := h1.alloc h1.size (.cells (cel b).toArray 26)
  have hA : ((w.alloc (.cells (cel a).toArray 26)).alloc (.cells (cel b).toArray 26)).rangeAt w.heap.size 0 (cel a) := World.rangeAt_alloc (range_new w (cel a) 26) _
  have hB : ((w.alloc (.cells (cel a).toArray 26)).alloc (.cells (cel b).toArray 26)).rangeAt (w.heap.size + 1) 0 (cel b) := by
    have := range_new (w.alloc (.cells (cel a).toArray 26)) (cel b) 26
    rwa [World.size_alloc] at this
  have hs : w.heap.size + 1 < ((w.alloc (.cells (cel a).toArray 26)).alloc (.cells (cel b).toArray 26)).heap.size := by simp only [World.size_alloc]; omega
  have HA := Lib.hid hA
  have HB := Lib.hid hB
  have HS := Lib.hid hs
  have H2 := Lib.hid h2
  have HT := Lib.hid T
  obtain ⟨x, hx⟩ : ∃ x, getN a.toList = x := ⟨_, rfl⟩
  obtain ⟨y, hy⟩ : ∃ y, getE a.toList = y := ⟨_, rfl⟩
  obtain ⟨l, hl⟩ : ∃ l, getB a.toList = l := ⟨_, rfl⟩
  obtain ⟨p, hp⟩ : ∃ p, newW a.toList b.toList = p := ⟨_, rfl⟩
  obtain ⟨q, hq⟩ : ∃ q, newE a.toList b.toList = q := ⟨_, rfl⟩
  have HG : Hid (∀ (w : World), Tab w → Calls Tryd.prog 14 #[blk a] w fun e w' => ∃ v, e = .returned (.tuple #[.int .u64 (x : Nat), v, .int .i64 (y : Nat)]) ∧ Bod w' w.heap.size v l ∧ Below w.heap.size w w') := Lib.hid fun w T => by
    have := pget_any a _ w (Lib.hid rfl) T
    rwa [hx, hy, hl] at this
  have HRG : Hid (∀ (w : World), Calls Tryd.prog 15 #[blk a] w fun e w' => ∃ v, e = .returned (.tuple #[.int .u64 (x : Nat), v, .int .i64 (y : Nat)]) ∧ Made w' w.heap.size v l ∧ Below w.heap.size w w') := Lib.hid fun w => by
    have := rget_any a _ w (Lib.hid rfl)
    rwa [hx, hy, hl] at this
  have HN : Hid (∀ (w : World), Tab w → Calls Tryd.prog 16 #[blk a, blk b] w fun e w' => e = .returned (.tuple #[.int .i64 (p : Nat), .int .i64 (q : Nat)]) ∧ Below w.heap.size w w') := Lib.hid fun w T => by
    have := pnew_any a b w T
    rwa [hp, hq] at this
  have HRN : Hid (∀ (w : World), Calls Tryd.prog 17 #[blk a, blk b] w fun e w' => e = .returned (.tuple #[.int .i64 (p : Nat), .int .i64 (q : Nat)]) ∧ Below w.heap.size w w') := Lib.hid fun w => by
    have := rnew_any a b w
    rwa [hp, hq] at this
  clear h1 h2 hA hB hs T hx hy hl hp hq
  go_enter Tryd.func4, Tryd.ntmps4
  go_wp2_with (first | (refine wpList_val rfl (exec_box rfl rfl) ?_) | (refine wpList_val rfl (exec_load rfl rfl HA.out) ?_) | fail)
  generalize hw0 : (w.alloc (.cells (cel a).toArray 26)).alloc (.cells (cel b).toArray 26) = w0 at *
  clear hw0
  refine (HG.out w0 (HT.out.below H2.out)).mono ?_
  rintro e w1 ⟨v1, rfl, hv1, hb1⟩
  have HV1 := Lib.hid hv1
  have HB1 := Lib.hid (H2.out.trans (hb1.mono H2.out.size))
  have HA1 := Lib.hid (range_below HA.out (by have := HS.out; omega) hb1)
  have HBB1 := Lib.hid (range_below HB.out HS.out hb1)
  have HS1 : Hid (w0.heap.size ≤ w1.heap.size) := Lib.hid hb1.size
  clear hv1 hb1 HA HB
  go_wp2_with (first | (refine wpList_val rfl (exec_load rfl rfl HA1.out) ?_) | fail)
  refine (HRG.out w1).mono ?_
  rintro e w2 ⟨v2, rfl, hv2, hb2⟩
  have HV12 := Lib.hid (HV1.out.below hb2)
  have HV2 := Lib.hid hv2
  have HB2 := Lib.hid (HB1.out.trans (hb2.mono HB1.out.size))
  have HA2 := Lib.hid (range_below HA1.out (by have := HS.out; have := HS1.out; omega) hb2)
  have HBB2 := Lib.hid (range_below HBB1.out (by have := HS.out; have := HS1.out; omega) hb2)
  have HS2 : Hid (w1.heap.size ≤ w2.heap.size) := Lib.hid hb2.size
  clear hv2 hb2 HA1 HBB1 HB1
  go_wp2_with (first | (refine wpList_val rfl (exec_load rfl rfl HA2.out) ?_) | (refine wpList_val rfl (exec_load rfl rfl HBB2.out) ?_) | fail)
  refine (HN.out w2 (HT.out.below HB2.out)).mono ?_
  rintro e w3 ⟨rfl, hb3⟩
  have HV13 := Lib.hid (HV12.out.below hb3)
  have HV23 := Lib.hid (HV2.out.below hb3)
  have HB3 := Lib.hid (HB2.out.trans (hb3.mono HB2.out.size))
  have HA3 := Lib.hid (range_below HA2.out (by have := HS.out; have := HS1.out; have := HS2.out; omega) hb3)
  have HBB3 := Lib.hid (range_below HBB2.out (by have := HS.out; have := HS1.out; have := HS2.out; omega) hb3)
  have HS3 : Hid (w2.heap.size ≤ w3.heap.size) := Lib.hid hb3.size
  clear hb3 HA2 HBB2 HB2 HV12 HV2
  go_wp2_with (first | (refine wpList_val rfl (exec_load rfl rfl HA3.out) ?_) | (refine wpList_val rfl (exec_load rfl rfl HBB3.out) ?_) | fail)
  refine (HRN.out w3).mono ?_
  rintro e w4 ⟨rfl, hb4⟩
  have HV14 := Lib.hid (HV13.out.below hb4)
  have HV24 := Lib.hid (HV23.out.below hb4)
  have HB4 := Lib.hid (HB3.out.trans (hb4.mono HB3.out.size))
  have HA4 := Lib.hid (range_below HA3.out (by have := HS.out; have := HS1.out; have := HS2.out; have := HS3.out; omega) hb4)
  have HS4 : Hid (w3.heap.size ≤ w4.heap.size) := Lib.hid hb4.size
  clear hb4 HA3 HBB3 HB3 HV13 HV23
  go_wp2_with fail
  refine (same_made HV14.out.made HV24.out).mono ?_
  rintro e w5 ⟨rfl, hb5⟩
  have HV15 := Lib.hid (HV14.out.below hb5)
  have HV25 := Lib.hid (HV24.out.below hb5)
  have HB5 := Lib.hid (HB4.out.trans (hb5.mono HB4.out.size))
  have HA5 := Lib.hid (range_below HA4.out (by have := HS.out; have := HS1.out; have := HS2.out; have := HS3.out; have := HS4.out; omega) hb5)
  have HS5 : Hid (w0.heap.size ≤ w5.heap.size ∧ w1.heap.size ≤ w5.heap.size) := Lib.hid (by have := hb5.size; have := HS1.out; have := HS2.out; have := HS3.out; have := HS4.out; omega)
  clear hb5 HA4 HB4 HV14 HV24 HS2 HS3 HS4
  go_wp2_with fail
  refine (spoil_bod HV15.out 9).mono ?_
  rintro e w6 ⟨rfl, hg6⟩
  have hlt := HV15.out.lt
  have hlt1 := HV1.out.lt
  have HV26 := Lib.hid (HV25.out.grown hg6 fun k hk => (hlt1 k hk).2)
  have hb6 : Below w0.heap.size w5 w6 := (Below.refl _ _).grown hg6 HS5.out.1 (fun k hk => (hlt k hk).1)
  have HB6 := Lib.hid (HB5.out.trans (hb6.mono (by have := HS.out; omega)))
  have HA6 := Lib.hid (range_below HA5.out (by have := HS.out; omega) hb6)
  have HS6 : Hid (w5.heap.size ≤ w6.heap.size) := Lib.hid hg6.size
  clear hg6 hlt hlt1 hb6 HA5 HB5 HV15 HV25 HV1
  go_wp2_with (first | (refine wpList_val rfl (exec_load rfl rfl HA6.out) ?_) | fail)
  refine (HG.out w6 (HT.out.below HB6.out)).mono ?_
  rintro e w7 ⟨v7, rfl, hv7, hb7⟩
  have HV7 := Lib.hid hv7.made
  have HV27 := Lib.hid (HV26.out.below hb7)
  have HB7 := Lib.hid (HB6.out.trans (hb7.mono HB6.out.size))
  clear hv7 hb7 HA6 HB6 HV26
  go_wp2_with fail
  refine (same_made HV7.out HV27.out).mono ?_
  rintro e w8 ⟨rfl, hb8⟩
  have HB8 := Lib.hid (HB7.out.trans (hb8.mono HB7.out.size))
  clear hb8 HB7
  go_wp2_with fail
  refine (seal_lives w8 (HT.out.below HB8.out)).mono ?_
  rintro e w9 ⟨rfl, hb9⟩
  have HB9 := Lib.hid (HB8.out.trans (hb9.mono HB8.out.size))
  clear hb9
  go_wp2
  go_ret
  exact ⟨rfl, HB9.out⟩
end Go.Proofs.YtdinnbmeolojgaaDoor
