import Derived.Test.YtcafafdimcecpaaGreatDoorLsak
import Derived.Test.YtcafafdimcecpaaGreatDoorLsab
import Derived.Test.YtcafafdimcecpaaGreatDoorLsac
import Derived.Test.YtcafafdimcecpaaGreatDoorLsaf
import Derived.Test.YtcafafdimcecpaaGreatDoorLsZ
namespace Go.Proofs.YtcafafdimcecpaaGreatDoor
open Go.RowKit
set_option linter.unusedVariables false
set_option maxRecDepth 100000 in
set_option maxHeartbeats 4000000 in
theorem r_crash (p : Nat) (vS vL : Value) (S : List Blk) (L : List (Int × Blk)) (g : Bool) (A : Option Addr) (n c : Nat) (P : List Int) (w : World) (h : RefD w p vS vL S L g) (hF : Fit S L) (hP : RdE IntE w w.heap.size A n P) (hN : ∀ x, A = some x → 0 < n → ¬ foot p vS vL x.block) :
    Calls Tryz.prog 107 #[.pointer (some ⟨p, 0, none⟩), .slice A n c] w fun e w' => e = .returned (.int .i64 ((min L.length n : Nat) : Int)) ∧ RefD w' p vS (.slice none 0 0) (crI S L P L.length) [] g ∧ Only (foot p vS vL) w w' := by
  obtain ⟨AL, cL, rfl, hl1, hl2⟩ := h.L_.form
  unfold maxLen at hl2
  have HH := Lib.hid h
  have HF := Lib.hid hF
  have HP := Lib.hid hP
  have HN := Lib.hid hN
  have HPL := Lib.hid hP.1
  clear h hF hP hN
  go_enter Tryz.func107, Tryz.ntmps107
  go_wp2_with fail
  go_loopw [5, 6, 7] (fun t i v7 wr => ∃ j : Nat, j ≤ L.length ∧ i = .int .i64 j ∧ t = .int .i64 ((min j n : Nat) : Int) ∧ RefD wr p vS (.slice AL L.length cL) (crI S L P j) L g ∧ Only (foot p vS (.slice AL L.length cL)) w wr) (fun _ i _ _ => L.length - (intOf i).toNat)
  case atStart => exact ⟨0, Nat.zero_le _, rfl, by rw [Nat.zero_min]; rfl, HH.out, Only.refl _ _⟩
  case round =>
    obtain ⟨j, hj, rfl, rfl, hr, hon⟩ := hrel
    obtain ⟨c0, c1, c2⟩ := cells3 hr.at_
    have HB := Lib.hid (HP.out.only hon (Nat.le_refl _) HN.out)
    by_cases hlt : j < L.length
    · obtain ⟨k, hqk, hk⟩ := HF.out.at_ hlt
      have hlenS := crI_len S L P j
      have hstep : crI S L P (j + 1) = (crI S L P j).set k (torn ((crI S L P j).getD k al) (L.getD j (0, al)).2 (P.getD j 0)) := by rw [crI, hqk]; rfl
      obtain ⟨gS, cS, rfl⟩ := hr.S_.slice hlenS (by omega)
      obtain ⟨bA, oA, hAe, hAl, cA, rA⟩ := hr.L_.rd.pair hlt
      obtain ⟨bS, oS, hSe, hSl, rS⟩ := hr.S_.rd.blk hk
      rw [hqk] at cA
      injection hSe with hSe
      injection hSe with e1 e2
      subst e1 e2
      rw [Nat.zero_add] at rS
      generalize (L.getD j (0, al)).2 = x at *
      generalize (crI S L P j).getD k al = y at *
      have HST := Lib.hid hstep
      have HRr := Lib.hid hr
      have HON := Lib.hid hon
      have HKT := Lib.hid (show wr.there gS (k * 64) 64 from by
        have := HRr.out.S_.there hk (j := 0) (m := 64) (Nat.le_refl _)
        rw [Nat.add_zero] at this
        exact this)
      have HFACT := Lib.hid (⟨hr.at_, cA, rA, rS⟩ : _ ∧ _ ∧ _ ∧ _)
      subst hAe
      clear hr hon rA hqk hlenS hstep cA rS
      have hLL : (j : Int) < (L.length : Int) := by omega
      have hcell : j < n → ∃ bP oP, A = some ⟨bP, oP, none⟩ ∧ wr.cell? ⟨bP, oP + j, none⟩ = some (.int .i64 (P.getD j 0)) := fun h => by
        obtain ⟨bP, oP, e, _, hc⟩ := HB.out.int h
        exact ⟨bP, oP, e, hc⟩
      have hzero : ¬ j < n → P.getD j 0 = 0 := fun h => by
        rw [List.getD, List.getElem?_eq_none (by have := HPL.out; omega)]; rfl
      generalize P.getD j 0 = z at *
      have HZ := Lib.hid hzero
      have HCL := Lib.hid hcell
      clear hzero hcell
      by_cases hjn : j < n
      · obtain ⟨bP, oP, hAe, cP⟩ := HCL.out hjn
        have hmin : ((min (j + 1) n : Nat) : Int) = ((min j n : Nat) : Int) + 1 := by omega
        have HMIN := Lib.hid hmin
        have hmn : min j n ≤ 9223372036854775000 ∨ True := .inr trivial
        have hjb : ((min j n : Nat) : Int) = (j : Int) := by omega
        rw [hjb] at HMIN
        rw [hjb]
        have hjn' : (j : Int) < (n : Int) := by omega
        subst hAe
        clear hmin hmn hjb
        go_wp2_with fail
        refine bC (fun w' => w'.heap[p]? = some (.cells #[.slice (some ⟨gS, 0, none⟩) S.length cS, .slice (some ⟨bA, oA, none⟩) L.length cL, .bool g] 154) ∧ w'.cell? ⟨bA, oA + j * 65, none⟩ = some (.int .i64 (k : Int)) ∧ w'.rangeAt bA (oA + j * 65 + 1) (cel x) ∧ w'.rangeAt gS (k * 64) (cel y)) 37 (by kernel_rfl) ?_
        change cp _ _ _ _ _ _ 38 _ _ wr.drew
        have hS : wr.drew.heap[p]? = some (.cells #[.slice (some ⟨gS, 0, none⟩) S.length cS, .slice (some ⟨bA, oA, none⟩) L.length cL, .bool g] 154) ∧ wr.drew.cell? ⟨bA, oA + j * 65, none⟩ = some (.int .i64 (k : Int)) ∧ wr.drew.rangeAt bA (oA + j * 65 + 1) (cel x) ∧ wr.drew.rangeAt gS (k * 64) (cel y) := HFACT.out
        refine ap 0 rfl (by kernel_rfl) (by kernel_rfl) (by kernel_rfl) (by decide) (by kernel_rfl) rfl (fun w' hw => ah rfl (ev rfl)) (fun _ _ _ h => h) hS ?_
        simp only [Act.put, aa, ae, af]
        refine ap 1 rfl (by kernel_rfl) (by kernel_rfl) (by kernel_rfl) (by decide) (by kernel_rfl) rfl (fun w' hw => ay rfl (ev rfl)) (fun _ _ _ h => h) hS ?_
        simp only [Act.put, aa, ae, af]
        refine ap 2 rfl (by kernel_rfl) (by kernel_rfl) (by kernel_rfl) (by decide) (by kernel_rfl) rfl (fun w' hw => ak rfl (ev rfl) faD0) (fun _ _ _ h => h) hS ?_
        simp only [Act.put, aa, ae, af]
        refine ap 3 rfl (by kernel_rfl) (by kernel_rfl) (by kernel_rfl) (by decide) (by kernel_rfl) rfl (fun w' hw => au rfl (ev rfl) (ldB (cells3 hw.1).1)) (fun _ _ _ h => h) hS ?_
        simp only [Act.put, aa, ae, af]
        refine ap 4 rfl (by kernel_rfl) (by kernel_rfl) (by kernel_rfl) (by decide) (by kernel_rfl) rfl (fun w' hw => ah rfl (ev rfl)) (fun _ _ _ h => h) hS ?_
        simp only [Act.put, aa, ae, af]
        refine ap 5 rfl (by kernel_rfl) (by kernel_rfl) (by kernel_rfl) (by decide) (by kernel_rfl) rfl (fun w' hw => ay rfl (ev rfl)) (fun _ _ _ h => h) hS ?_
        simp only [Act.put, aa, ae, af]
        refine ap 6 rfl (by kernel_rfl) (by kernel_rfl) (by kernel_rfl) (by decide) (by kernel_rfl) rfl (fun w' hw => ak rfl (ev rfl) faD1) (fun _ _ _ h => h) hS ?_
        simp only [Act.put, aa, ae, af]
        refine ap 7 rfl (by kernel_rfl) (by kernel_rfl) (by kernel_rfl) (by decide) (by kernel_rfl) rfl (fun w' hw => au rfl (ev rfl) (ldSl (cells3 hw.1).2.1)) (fun _ _ _ h => h) hS ?_
        simp only [Act.put, aa, ae, af]
        refine ap 8 rfl (by kernel_rfl) (by kernel_rfl) (by kernel_rfl) (by decide) (by kernel_rfl) rfl (fun w' hw => ah rfl (ev rfl)) (fun _ _ _ h => h) hS ?_
        simp only [Act.put, aa, ae, af]
        refine ap 9 rfl (by kernel_rfl) (by kernel_rfl) (by kernel_rfl) (by decide) (by kernel_rfl) rfl (fun w' hw => aZ (E := LooE) rfl (ev rfl) (ev rfl) hlt) (fun _ _ _ h => h) hS ?_
        simp only [Act.put, aa, ae, af]
        refine ap 10 rfl (by kernel_rfl) (by kernel_rfl) (by kernel_rfl) (by decide) (by kernel_rfl) rfl (fun w' hw => ak rfl (ev rfl) faL0) (fun _ _ _ h => h) hS ?_
        simp only [Act.put, aa, ae, af]
        refine ap 11 rfl (by kernel_rfl) (by kernel_rfl) (by kernel_rfl) (by decide) (by kernel_rfl) rfl (fun w' hw => au rfl (ev rfl) (ldI hw.2.1)) (fun _ _ _ h => h) hS ?_
        simp only [Act.put, aa, ae, af]
        refine ap 12 rfl (by kernel_rfl) (by kernel_rfl) (by kernel_rfl) (by decide) (by kernel_rfl) rfl (fun w' hw => ah rfl (ev rfl)) (fun _ _ _ h => h) hS ?_
        simp only [Act.put, aa, ae, af]
        refine ap 13 rfl (by kernel_rfl) (by kernel_rfl) (by kernel_rfl) (by decide) (by kernel_rfl) rfl (fun w' hw => ay rfl (ev rfl)) (fun _ _ _ h => h) hS ?_
        simp only [Act.put, aa, ae, af]
        refine ap 14 rfl (by kernel_rfl) (by kernel_rfl) (by kernel_rfl) (by decide) (by kernel_rfl) rfl (fun w' hw => ak rfl (ev rfl) faD0) (fun _ _ _ h => h) hS ?_
        simp only [Act.put, aa, ae, af]
        refine ap 15 rfl (by kernel_rfl) (by kernel_rfl) (by kernel_rfl) (by decide) (by kernel_rfl) rfl (fun w' hw => au rfl (ev rfl) (ldB (cells3 hw.1).1)) (fun _ _ _ h => h) hS ?_
        simp only [Act.put, aa, ae, af]
        refine ap 16 rfl (by kernel_rfl) (by kernel_rfl) (by kernel_rfl) (by decide) (by kernel_rfl) rfl (fun w' hw => ah rfl (ev rfl)) (fun _ _ _ h => h) hS ?_
        simp only [Act.put, aa, ae, af]
        refine ap 17 rfl (by kernel_rfl) (by kernel_rfl) (by kernel_rfl) (by decide) (by kernel_rfl) rfl (fun w' hw => ay rfl (ev rfl)) (fun _ _ _ h => h) hS ?_
        simp only [Act.put, aa, ae, af]
        refine ap 18 rfl (by kernel_rfl) (by kernel_rfl) (by kernel_rfl) (by decide) (by kernel_rfl) rfl (fun w' hw => ak rfl (ev rfl) faD1) (fun _ _ _ h => h) hS ?_
        simp only [Act.put, aa, ae, af]
        refine ap 19 rfl (by kernel_rfl) (by kernel_rfl) (by kernel_rfl) (by decide) (by kernel_rfl) rfl (fun w' hw => au rfl (ev rfl) (ldSl (cells3 hw.1).2.1)) (fun _ _ _ h => h) hS ?_
        simp only [Act.put, aa, ae, af]
        refine ap 20 rfl (by kernel_rfl) (by kernel_rfl) (by kernel_rfl) (by decide) (by kernel_rfl) rfl (fun w' hw => ah rfl (ev rfl)) (fun _ _ _ h => h) hS ?_
        simp only [Act.put, aa, ae, af]
        refine ap 21 rfl (by kernel_rfl) (by kernel_rfl) (by kernel_rfl) (by decide) (by kernel_rfl) rfl (fun w' hw => aZ (E := LooE) rfl (ev rfl) (ev rfl) hlt) (fun _ _ _ h => h) hS ?_
        simp only [Act.put, aa, ae, af]
        refine ap 22 rfl (by kernel_rfl) (by kernel_rfl) (by kernel_rfl) (by decide) (by kernel_rfl) rfl (fun w' hw => ak rfl (ev rfl) faL0) (fun _ _ _ h => h) hS ?_
        simp only [Act.put, aa, ae, af]
        refine ap 23 rfl (by kernel_rfl) (by kernel_rfl) (by kernel_rfl) (by decide) (by kernel_rfl) rfl (fun w' hw => au rfl (ev rfl) (ldI hw.2.1)) (fun _ _ _ h => h) hS ?_
        simp only [Act.put, aa, ae, af]
        refine ap 24 rfl (by kernel_rfl) (by kernel_rfl) (by kernel_rfl) (by decide) (by kernel_rfl) rfl (fun w' hw => bX (E := BlkE) rfl (ev rfl) (ev rfl) hk) (fun _ _ _ h => h) hS ?_
        simp only [Act.put, aa, ae, af]
        refine ap 25 rfl (by kernel_rfl) (by kernel_rfl) (by kernel_rfl) (by decide) (by kernel_rfl) rfl (fun w' hw => aI rfl (ev rfl) hw.2.2.2) (fun _ _ _ h => h) hS ?_
        simp only [Act.put, aa, ae, af]
        refine ap 26 rfl (by kernel_rfl) (by kernel_rfl) (by kernel_rfl) (by decide) (by kernel_rfl) rfl (fun w' hw => ah rfl (ev rfl)) (fun _ _ _ h => h) hS ?_
        simp only [Act.put, aa, ae, af]
        refine ap 27 rfl (by kernel_rfl) (by kernel_rfl) (by kernel_rfl) (by decide) (by kernel_rfl) rfl (fun w' hw => ay rfl (ev rfl)) (fun _ _ _ h => h) hS ?_
        simp only [Act.put, aa, ae, af]
        refine ap 28 rfl (by kernel_rfl) (by kernel_rfl) (by kernel_rfl) (by decide) (by kernel_rfl) rfl (fun w' hw => ak rfl (ev rfl) faD1) (fun _ _ _ h => h) hS ?_
        simp only [Act.put, aa, ae, af]
        refine ap 29 rfl (by kernel_rfl) (by kernel_rfl) (by kernel_rfl) (by decide) (by kernel_rfl) rfl (fun w' hw => au rfl (ev rfl) (ldSl (cells3 hw.1).2.1)) (fun _ _ _ h => h) hS ?_
        simp only [Act.put, aa, ae, af]
        refine ap 30 rfl (by kernel_rfl) (by kernel_rfl) (by kernel_rfl) (by decide) (by kernel_rfl) rfl (fun w' hw => ah rfl (ev rfl)) (fun _ _ _ h => h) hS ?_
        simp only [Act.put, aa, ae, af]
        refine ap 31 rfl (by kernel_rfl) (by kernel_rfl) (by kernel_rfl) (by decide) (by kernel_rfl) rfl (fun w' hw => aZ (E := LooE) rfl (ev rfl) (ev rfl) hlt) (fun _ _ _ h => h) hS ?_
        simp only [Act.put, aa, ae, af]
        refine ap 32 rfl (by kernel_rfl) (by kernel_rfl) (by kernel_rfl) (by decide) (by kernel_rfl) rfl (fun w' hw => ak rfl (ev rfl) faL1) (fun _ _ _ h => h) hS ?_
        simp only [Act.put, aa, ae, af]
        refine ap 33 rfl (by kernel_rfl) (by kernel_rfl) (by kernel_rfl) (by decide) (by kernel_rfl) rfl (fun w' hw => aI rfl (ev rfl) hw.2.2.1) (fun _ _ _ h => h) hS ?_
        simp only [Act.put, aa, ae, af]
        refine ap 34 rfl (by kernel_rfl) (by kernel_rfl) (by kernel_rfl) (by decide) (by kernel_rfl) rfl (fun w' hw => ah rfl (ev rfl)) (fun _ _ _ h => h) hS ?_
        simp only [Act.put, aa, ae, af]
        refine de 35 rfl (by kernel_rfl) rfl (aq Tryz.call160 rfl (evc (ev rfl) (evc (ev rfl) (evc (ev rfl) evn)))) ((refTorn_any y x z wr.drew).mono ?_)
        rintro e w5 ⟨rfl, hb5⟩
        have hS5 : w5.heap[p]? = some (.cells #[.slice (some ⟨gS, 0, none⟩) S.length cS, .slice (some ⟨bA, oA, none⟩) L.length cL, .bool g] 154) ∧ w5.cell? ⟨bA, oA + j * 65, none⟩ = some (.int .i64 (k : Int)) ∧ w5.rangeAt bA (oA + j * 65 + 1) (cel x) ∧ w5.rangeAt gS (k * 64) (cel y) :=
          ⟨bM hS.1 hb5, (hb5.cell (p := ⟨bA, oA + j * 65, none⟩) hAl).trans hS.2.1, cU hS.2.2.1 hAl hb5, cU hS.2.2.2 hSl hb5⟩
        have hd : RefD wr.drew p (.slice (some ⟨gS, 0, none⟩) S.length cS) (.slice (some ⟨bA, oA, none⟩) L.length cL) (crI S L P j) L g := ⟨HRr.out.at_, HRr.out.S_, HRr.out.L_⟩
        have HD5 := Lib.hid (hd.below hb5)
        have HO5 := Lib.hid (HON.out.drew.cK hb5)
        have HKT5 := Lib.hid (aK (w := wr.drew) HKT.out hSl hb5)
        clear hd hb5
        refine ⟨_, rfl, fun _ => hS5, ?_⟩
        simp only [Act.put, aa, ae, af]
        refine bk 36 rfl (by kernel_rfl) rfl (bX (E := BlkE) rfl (ev rfl) (ev rfl) hk) (fun _ => hS5) ?_
        simp only [Act.put, aa, ae, af]
        refine eB 37 rfl (by kernel_rfl) rfl (aH rfl (ev rfl) (ev rfl) HKT5.out) (fun e => absurd rfl e) ?_
        simp only [Act.put]
        refine b8 (by kernel_rfl) ?_ _
        go_wp2_with fail
        go_roundw
        case rel => exact ⟨j + 1, by omega, by go_num, by rw [HMIN.out], by rw [HST.out]; exact HD5.out.setS hk _, HO5.out.setCells (.inl (.inr (.inl rfl))) _ _⟩
        case measure => simp [intOf]; omega
      · have HMIN := Lib.hid (show ((min (j + 1) n : Nat) : Int) = ((min j n : Nat) : Int) by omega)
        have hz0 := HZ.out hjn
        subst hz0
        have hjn' : ¬ (j : Int) < (n : Int) := by omega
        generalize ((min j n : Nat) : Int) = mn at *
        go_wp2_with fail
        refine bC (fun w' => w'.heap[p]? = some (.cells #[.slice (some ⟨gS, 0, none⟩) S.length cS, .slice (some ⟨bA, oA, none⟩) L.length cL, .bool g] 154) ∧ w'.cell? ⟨bA, oA + j * 65, none⟩ = some (.int .i64 (k : Int)) ∧ w'.rangeAt bA (oA + j * 65 + 1) (cel x) ∧ w'.rangeAt gS (k * 64) (cel y)) 37 (by kernel_rfl) ?_
        change cp _ _ _ _ _ _ 38 _ _ wr.drew
        have hS : wr.drew.heap[p]? = some (.cells #[.slice (some ⟨gS, 0, none⟩) S.length cS, .slice (some ⟨bA, oA, none⟩) L.length cL, .bool g] 154) ∧ wr.drew.cell? ⟨bA, oA + j * 65, none⟩ = some (.int .i64 (k : Int)) ∧ wr.drew.rangeAt bA (oA + j * 65 + 1) (cel x) ∧ wr.drew.rangeAt gS (k * 64) (cel y) := HFACT.out
        refine ap 0 rfl (by kernel_rfl) (by kernel_rfl) (by kernel_rfl) (by decide) (by kernel_rfl) rfl (fun w' hw => ah rfl (ev rfl)) (fun _ _ _ h => h) hS ?_
        simp only [Act.put, aa, ae, af]
        refine ap 1 rfl (by kernel_rfl) (by kernel_rfl) (by kernel_rfl) (by decide) (by kernel_rfl) rfl (fun w' hw => ay rfl (ev rfl)) (fun _ _ _ h => h) hS ?_
        simp only [Act.put, aa, ae, af]
        refine ap 2 rfl (by kernel_rfl) (by kernel_rfl) (by kernel_rfl) (by decide) (by kernel_rfl) rfl (fun w' hw => ak rfl (ev rfl) faD0) (fun _ _ _ h => h) hS ?_
        simp only [Act.put, aa, ae, af]
        refine ap 3 rfl (by kernel_rfl) (by kernel_rfl) (by kernel_rfl) (by decide) (by kernel_rfl) rfl (fun w' hw => au rfl (ev rfl) (ldB (cells3 hw.1).1)) (fun _ _ _ h => h) hS ?_
        simp only [Act.put, aa, ae, af]
        refine ap 4 rfl (by kernel_rfl) (by kernel_rfl) (by kernel_rfl) (by decide) (by kernel_rfl) rfl (fun w' hw => ah rfl (ev rfl)) (fun _ _ _ h => h) hS ?_
        simp only [Act.put, aa, ae, af]
        refine ap 5 rfl (by kernel_rfl) (by kernel_rfl) (by kernel_rfl) (by decide) (by kernel_rfl) rfl (fun w' hw => ay rfl (ev rfl)) (fun _ _ _ h => h) hS ?_
        simp only [Act.put, aa, ae, af]
        refine ap 6 rfl (by kernel_rfl) (by kernel_rfl) (by kernel_rfl) (by decide) (by kernel_rfl) rfl (fun w' hw => ak rfl (ev rfl) faD1) (fun _ _ _ h => h) hS ?_
        simp only [Act.put, aa, ae, af]
        refine ap 7 rfl (by kernel_rfl) (by kernel_rfl) (by kernel_rfl) (by decide) (by kernel_rfl) rfl (fun w' hw => au rfl (ev rfl) (ldSl (cells3 hw.1).2.1)) (fun _ _ _ h => h) hS ?_
        simp only [Act.put, aa, ae, af]
        refine ap 8 rfl (by kernel_rfl) (by kernel_rfl) (by kernel_rfl) (by decide) (by kernel_rfl) rfl (fun w' hw => ah rfl (ev rfl)) (fun _ _ _ h => h) hS ?_
        simp only [Act.put, aa, ae, af]
        refine ap 9 rfl (by kernel_rfl) (by kernel_rfl) (by kernel_rfl) (by decide) (by kernel_rfl) rfl (fun w' hw => aZ (E := LooE) rfl (ev rfl) (ev rfl) hlt) (fun _ _ _ h => h) hS ?_
        simp only [Act.put, aa, ae, af]
        refine ap 10 rfl (by kernel_rfl) (by kernel_rfl) (by kernel_rfl) (by decide) (by kernel_rfl) rfl (fun w' hw => ak rfl (ev rfl) faL0) (fun _ _ _ h => h) hS ?_
        simp only [Act.put, aa, ae, af]
        refine ap 11 rfl (by kernel_rfl) (by kernel_rfl) (by kernel_rfl) (by decide) (by kernel_rfl) rfl (fun w' hw => au rfl (ev rfl) (ldI hw.2.1)) (fun _ _ _ h => h) hS ?_
        simp only [Act.put, aa, ae, af]
        refine ap 12 rfl (by kernel_rfl) (by kernel_rfl) (by kernel_rfl) (by decide) (by kernel_rfl) rfl (fun w' hw => ah rfl (ev rfl)) (fun _ _ _ h => h) hS ?_
        simp only [Act.put, aa, ae, af]
        refine ap 13 rfl (by kernel_rfl) (by kernel_rfl) (by kernel_rfl) (by decide) (by kernel_rfl) rfl (fun w' hw => ay rfl (ev rfl)) (fun _ _ _ h => h) hS ?_
        simp only [Act.put, aa, ae, af]
        refine ap 14 rfl (by kernel_rfl) (by kernel_rfl) (by kernel_rfl) (by decide) (by kernel_rfl) rfl (fun w' hw => ak rfl (ev rfl) faD0) (fun _ _ _ h => h) hS ?_
        simp only [Act.put, aa, ae, af]
        refine ap 15 rfl (by kernel_rfl) (by kernel_rfl) (by kernel_rfl) (by decide) (by kernel_rfl) rfl (fun w' hw => au rfl (ev rfl) (ldB (cells3 hw.1).1)) (fun _ _ _ h => h) hS ?_
        simp only [Act.put, aa, ae, af]
        refine ap 16 rfl (by kernel_rfl) (by kernel_rfl) (by kernel_rfl) (by decide) (by kernel_rfl) rfl (fun w' hw => ah rfl (ev rfl)) (fun _ _ _ h => h) hS ?_
        simp only [Act.put, aa, ae, af]
        refine ap 17 rfl (by kernel_rfl) (by kernel_rfl) (by kernel_rfl) (by decide) (by kernel_rfl) rfl (fun w' hw => ay rfl (ev rfl)) (fun _ _ _ h => h) hS ?_
        simp only [Act.put, aa, ae, af]
        refine ap 18 rfl (by kernel_rfl) (by kernel_rfl) (by kernel_rfl) (by decide) (by kernel_rfl) rfl (fun w' hw => ak rfl (ev rfl) faD1) (fun _ _ _ h => h) hS ?_
        simp only [Act.put, aa, ae, af]
        refine ap 19 rfl (by kernel_rfl) (by kernel_rfl) (by kernel_rfl) (by decide) (by kernel_rfl) rfl (fun w' hw => au rfl (ev rfl) (ldSl (cells3 hw.1).2.1)) (fun _ _ _ h => h) hS ?_
        simp only [Act.put, aa, ae, af]
        refine ap 20 rfl (by kernel_rfl) (by kernel_rfl) (by kernel_rfl) (by decide) (by kernel_rfl) rfl (fun w' hw => ah rfl (ev rfl)) (fun _ _ _ h => h) hS ?_
        simp only [Act.put, aa, ae, af]
        refine ap 21 rfl (by kernel_rfl) (by kernel_rfl) (by kernel_rfl) (by decide) (by kernel_rfl) rfl (fun w' hw => aZ (E := LooE) rfl (ev rfl) (ev rfl) hlt) (fun _ _ _ h => h) hS ?_
        simp only [Act.put, aa, ae, af]
        refine ap 22 rfl (by kernel_rfl) (by kernel_rfl) (by kernel_rfl) (by decide) (by kernel_rfl) rfl (fun w' hw => ak rfl (ev rfl) faL0) (fun _ _ _ h => h) hS ?_
        simp only [Act.put, aa, ae, af]
        refine ap 23 rfl (by kernel_rfl) (by kernel_rfl) (by kernel_rfl) (by decide) (by kernel_rfl) rfl (fun w' hw => au rfl (ev rfl) (ldI hw.2.1)) (fun _ _ _ h => h) hS ?_
        simp only [Act.put, aa, ae, af]
        refine ap 24 rfl (by kernel_rfl) (by kernel_rfl) (by kernel_rfl) (by decide) (by kernel_rfl) rfl (fun w' hw => bX (E := BlkE) rfl (ev rfl) (ev rfl) hk) (fun _ _ _ h => h) hS ?_
        simp only [Act.put, aa, ae, af]
        refine ap 25 rfl (by kernel_rfl) (by kernel_rfl) (by kernel_rfl) (by decide) (by kernel_rfl) rfl (fun w' hw => aI rfl (ev rfl) hw.2.2.2) (fun _ _ _ h => h) hS ?_
        simp only [Act.put, aa, ae, af]
        refine ap 26 rfl (by kernel_rfl) (by kernel_rfl) (by kernel_rfl) (by decide) (by kernel_rfl) rfl (fun w' hw => ah rfl (ev rfl)) (fun _ _ _ h => h) hS ?_
        simp only [Act.put, aa, ae, af]
        refine ap 27 rfl (by kernel_rfl) (by kernel_rfl) (by kernel_rfl) (by decide) (by kernel_rfl) rfl (fun w' hw => ay rfl (ev rfl)) (fun _ _ _ h => h) hS ?_
        simp only [Act.put, aa, ae, af]
        refine ap 28 rfl (by kernel_rfl) (by kernel_rfl) (by kernel_rfl) (by decide) (by kernel_rfl) rfl (fun w' hw => ak rfl (ev rfl) faD1) (fun _ _ _ h => h) hS ?_
        simp only [Act.put, aa, ae, af]
        refine ap 29 rfl (by kernel_rfl) (by kernel_rfl) (by kernel_rfl) (by decide) (by kernel_rfl) rfl (fun w' hw => au rfl (ev rfl) (ldSl (cells3 hw.1).2.1)) (fun _ _ _ h => h) hS ?_
        simp only [Act.put, aa, ae, af]
        refine ap 30 rfl (by kernel_rfl) (by kernel_rfl) (by kernel_rfl) (by decide) (by kernel_rfl) rfl (fun w' hw => ah rfl (ev rfl)) (fun _ _ _ h => h) hS ?_
        simp only [Act.put, aa, ae, af]
        refine ap 31 rfl (by kernel_rfl) (by kernel_rfl) (by kernel_rfl) (by decide) (by kernel_rfl) rfl (fun w' hw => aZ (E := LooE) rfl (ev rfl) (ev rfl) hlt) (fun _ _ _ h => h) hS ?_
        simp only [Act.put, aa, ae, af]
        refine ap 32 rfl (by kernel_rfl) (by kernel_rfl) (by kernel_rfl) (by decide) (by kernel_rfl) rfl (fun w' hw => ak rfl (ev rfl) faL1) (fun _ _ _ h => h) hS ?_
        simp only [Act.put, aa, ae, af]
        refine ap 33 rfl (by kernel_rfl) (by kernel_rfl) (by kernel_rfl) (by decide) (by kernel_rfl) rfl (fun w' hw => aI rfl (ev rfl) hw.2.2.1) (fun _ _ _ h => h) hS ?_
        simp only [Act.put, aa, ae, af]
        refine ap 34 rfl (by kernel_rfl) (by kernel_rfl) (by kernel_rfl) (by decide) (by kernel_rfl) rfl (fun w' hw => ah rfl (ev rfl)) (fun _ _ _ h => h) hS ?_
        simp only [Act.put, aa, ae, af]
        refine de 35 rfl (by kernel_rfl) rfl (aq Tryz.call160 rfl (evc (ev rfl) (evc (ev rfl) (evc (ev rfl) evn)))) ((refTorn_any y x 0 wr.drew).mono ?_)
        rintro e w5 ⟨rfl, hb5⟩
        have hS5 : w5.heap[p]? = some (.cells #[.slice (some ⟨gS, 0, none⟩) S.length cS, .slice (some ⟨bA, oA, none⟩) L.length cL, .bool g] 154) ∧ w5.cell? ⟨bA, oA + j * 65, none⟩ = some (.int .i64 (k : Int)) ∧ w5.rangeAt bA (oA + j * 65 + 1) (cel x) ∧ w5.rangeAt gS (k * 64) (cel y) :=
          ⟨bM hS.1 hb5, (hb5.cell (p := ⟨bA, oA + j * 65, none⟩) hAl).trans hS.2.1, cU hS.2.2.1 hAl hb5, cU hS.2.2.2 hSl hb5⟩
        have hd : RefD wr.drew p (.slice (some ⟨gS, 0, none⟩) S.length cS) (.slice (some ⟨bA, oA, none⟩) L.length cL) (crI S L P j) L g := ⟨HRr.out.at_, HRr.out.S_, HRr.out.L_⟩
        have HD5 := Lib.hid (hd.below hb5)
        have HO5 := Lib.hid (HON.out.drew.cK hb5)
        have HKT5 := Lib.hid (aK (w := wr.drew) HKT.out hSl hb5)
        clear hd hb5
        refine ⟨_, rfl, fun _ => hS5, ?_⟩
        simp only [Act.put, aa, ae, af]
        refine bk 36 rfl (by kernel_rfl) rfl (bX (E := BlkE) rfl (ev rfl) (ev rfl) hk) (fun _ => hS5) ?_
        simp only [Act.put, aa, ae, af]
        refine eB 37 rfl (by kernel_rfl) rfl (aH rfl (ev rfl) (ev rfl) HKT5.out) (fun e => absurd rfl e) ?_
        simp only [Act.put]
        refine b8 (by kernel_rfl) ?_ _
        go_wp2_with fail
        go_roundw
        case rel => exact ⟨j + 1, by omega, by go_num, by rw [HMIN.out], by rw [HST.out]; exact HD5.out.setS hk _, HO5.out.setCells (.inl (.inr (.inl rfl))) _ _⟩
        case measure => simp [intOf]; omega
    · have hjn : j = L.length := by omega
      subst hjn
      have f1 := frozen_of_row wr p 1 _ _ hr.at_
      have HRr := Lib.hid hr
      have HON := Lib.hid hon
      clear hr hon
      have hLL : ¬((L.length : Int) < (L.length : Int)) := by omega
      generalize hmn : ((min L.length n : Nat) : Int) = mn at *
      have HMN := Lib.hid hmn
      clear hmn
      go_wp2
      go_ret
      exact ⟨by rw [HMN.out]; rfl, HRr.out.setL (az.nil _ _), HON.out.setCell (.inl (.inl rfl)) _⟩
set_option maxRecDepth 100000
section
variable {w : World} {p b off gg n c k i : Nat} {vL : Value} {S : List Blk} {L : List (Int × Blk)} {g : Bool}
theorem RefD.setByte (h : RefD w p (.slice (some ⟨gg, 0, none⟩) n c) vL S L g) (hk : k < n) (hi : i < 64) (v : UInt8) : RefD (w.setCell ⟨gg, k * 64 + i, none⟩ (.int .u8 (v.toNat : Int))) p (.slice (some ⟨gg, 0, none⟩) n c) vL (S.set k ((S.getD k al).set i v)) L g := by
  have hO : Only (fun b => b = gg) w (w.setCell ⟨gg, k * 64 + i, none⟩ (.int .u8 (v.toNat : Int))) := cy w gg _ _
  refine ⟨hO.keep h.at_ (fun e => h.S_.cw h.at_ (by decide) (by rw [e]; rfl)), ?_, h.L_.only hO fun b hb e => ?_⟩
  · refine h.S_.put hk (j := i) (vs := [.int .u8 (v.toNat : Int)]) ((S.getD k al).set i v) ?_ (by show i + 1 ≤ 64; omega)
    show cel ((S.getD k al).set i v) = (cel (S.getD k al)).take i ++ [_] ++ (cel (S.getD k al)).drop (i + 1)
    rw [← cel_set _ hi, List.set_eq_take_append_cons_drop, if_pos (by rw [aw]; exact hi)]
    simp
  · rcases h.L_.other h.S_ (by decide) with e' | e'
    · rw [e'] at hb; cases hb
    · exact e' (by rw [hb, e]; rfl)
end
set_option maxHeartbeats 2000000 in
theorem r_rot_ok (p k i : Nat) (u : UInt8) (vS vL : Value) (S : List Blk) (L : List (Int × Blk)) (w : World) (h : RefD w p vS vL S L false) (hk : k < S.length) (hi : i < 64) :
    Calls Tryz.prog 108 #[.pointer (some ⟨p, 0, none⟩), .int .i64 k, .int .i64 i, .int .u8 (u.toNat : Int)] w fun e w' => e = .returned (.int .i64 0) ∧ RefD w' p vS vL (S.set k (rotB (S.getD k al) i u)) L false ∧ Only (foot p vS vL) w w' := by
  obtain ⟨c0, c1, c2⟩ := cells3 h.at_
  obtain ⟨gS, cS, rfl⟩ := h.S_.slice rfl (by omega)
  obtain ⟨bS, oS, hSe, hSl, rS⟩ := h.S_.rd.blk hk
  injection hSe with hSe
  injection hSe with e1 e2
  subst e1 e2
  obtain ⟨y, hy⟩ : ∃ y, S.getD k al = y := ⟨_, rfl⟩
  have HY := Lib.hid hy
  rw [hy] at rS
  have hc := rS i _ (dW _ hi)
  rw [Nat.zero_add, dN _ hi] at hc
  have hkl : (k : Int) < (S.length : Int) := by omega
  have hil : (i : Int) < 64 := by omega
  have HT := Lib.hid (show w.there gS (k * 64 + i) 1 from h.S_.there hk (j := i) (m := 1) (by show i + 1 ≤ 64; omega))
  have hf : w.frozen? ⟨gS, k * 64 + i, none⟩ = false := by have := (HT.out 0 (by omega)).2; simpa using this
  have HH := Lib.hid h
  have HA := Lib.hid c0
  have HR : rotB (S.getD k al) i u = y.set i (y[i] ^^^ u) := by rw [hy]; unfold rotB; rw [dif_pos hi]
  have HRR := Lib.hid HR
  have HC := Lib.hid hc
  clear h rS HR hy
  go_enter Tryz.func108, Tryz.ntmps108
  go_wp2_with fail
  refine wp_region_still_tail 19 (by kernel_rfl) (by kernel_rfl) ?_
  simp only [List.take_succ_cons, List.take_zero, List.drop_succ_cons, List.drop_zero]
  refine av rfl (ah rfl (ev rfl)) ?_
  simp only [Act.put, aa, ae, af]
  refine av rfl (ay rfl (ev rfl)) ?_
  simp only [Act.put, aa, ae, af]
  refine av rfl (ak rfl (ev rfl) faD0) ?_
  simp only [Act.put, aa, ae, af]
  refine av rfl (au rfl (ev rfl) (ldB HA.out)) ?_
  simp only [Act.put, aa, ae, af]
  refine av rfl (ah rfl (ev rfl)) ?_
  simp only [Act.put, aa, ae, af]
  refine av rfl (ah rfl (ev rfl)) ?_
  simp only [Act.put, aa, ae, af]
  refine av rfl (ah rfl (ev rfl)) ?_
  simp only [Act.put, aa, ae, af]
  refine av rfl (ay rfl (ev rfl)) ?_
  simp only [Act.put, aa, ae, af]
  refine av rfl (ak rfl (ev rfl) faD0) ?_
  simp only [Act.put, aa, ae, af]
  refine av rfl (au rfl (ev rfl) (ldB HA.out)) ?_
  simp only [Act.put, aa, ae, af]
  refine av rfl (ah rfl (ev rfl)) ?_
  simp only [Act.put, aa, ae, af]
  refine av rfl (ah rfl (ev rfl)) ?_
  simp only [Act.put, aa, ae, af]
  refine av rfl (fx rfl (ev rfl) (ev rfl) hk) ?_
  simp only [Act.put, aa, ae, af]
  refine av rfl (dO rfl (ev rfl) (ev rfl) (run_ixB hi)) ?_
  simp only [Act.put, aa, ae, af]
  refine av rfl (au rfl (ev rfl) (ldU HC.out)) ?_
  simp only [Act.put, aa, ae, af]
  refine av rfl (ah rfl (ev rfl)) ?_
  simp only [Act.put, aa, ae, af]
  refine av rfl (exec_xor8 rfl (ev rfl) (ev rfl)) ?_
  simp only [Act.put, aa, ae, af]
  refine av rfl (fx rfl (ev rfl) (ev rfl) hk) ?_
  simp only [Act.put, aa, ae, af]
  refine av rfl (dO rfl (ev rfl) (ev rfl) (run_ixB hi)) ?_
  simp only [Act.put, aa, ae, af]
  refine wpStill_nil ?_
  change wpList _ _ _ _ _ w.drew
  have hcd : w.drew.cell? ⟨gS, k * 64 + i, none⟩ = some (.int .u8 (y[i].toNat : Int)) := HC.out
  have hfd : w.drew.frozen? ⟨gS, k * 64 + i, none⟩ = false := hf
  go_wp2_with fail
  go_ret
  refine ⟨rfl, ?_, (Only.refl _ w).drew.setCell (.inl (.inr (.inl rfl))) _⟩
  rw [HRR.out]
  have hset := HH.out.setByte hk hi (y[i] ^^^ u)
  rw [HY.out] at hset
  simp only [UInt8.toNat_xor] at hset
  exact ⟨hset.at_, hset.S_, hset.L_⟩
theorem r_rot_no (p : Nat) (n i : Int) (u : UInt8) (vS vL : Value) (S : List Blk) (L : List (Int × Blk)) (g : Bool) (w : World) (h : RefD w p vS vL S L g) (he : rotE S g n i ≠ 0) :
    Calls Tryz.prog 108 #[.pointer (some ⟨p, 0, none⟩), .int .i64 n, .int .i64 i, .int .u8 (u.toNat : Int)] w fun e w' => e = .returned (.int .i64 (rotE S g n i)) ∧ w = w' := by
  obtain ⟨c0, c1, c2⟩ := cells3 h.at_
  obtain ⟨A, c, rfl, hc1, hc2⟩ := h.S_.form
  have hor : n < 0 ∨ (0 ≤ n ∧ (S.length : Int) ≤ n) ∨ (0 ≤ n ∧ n < S.length ∧ i < 0) ∨ (0 ≤ n ∧ n < S.length ∧ 0 ≤ i ∧ 64 ≤ i) ∨ (0 ≤ n ∧ n < S.length ∧ 0 ≤ i ∧ i < 64) := by omega
  rcases hor with h1 | ⟨h1, h2⟩ | ⟨h1, h2, h3⟩ | ⟨h1, h2, h3, h4⟩ | ⟨h1, h2, h3, h4⟩
  rotate_right 1
  · cases g
    · exact absurd (show rotE S false n i = 0 by unfold rotE; rw [if_pos ⟨h1, h2, h3, h4⟩]; rfl) he
    · have HE := Lib.hid (show rotE S true n i = 9 by unfold rotE; rw [if_pos ⟨h1, h2, h3, h4⟩]; rfl)
      clear he
      go_enter Tryz.func108, Tryz.ntmps108
      go_wp2
      go_ret
      exact ⟨aL HE.out.symm, rfl⟩
  all_goals
    have HE := Lib.hid (show rotE S g n i = 2 by unfold rotE; rw [if_neg (by omega)])
    clear he
    go_enter Tryz.func108, Tryz.ntmps108
    go_wp2
    go_ret
    exact ⟨aL HE.out.symm, rfl⟩
theorem r_rot (p : Nat) (n i : Int) (u : UInt8) (vS vL : Value) (S : List Blk) (L : List (Int × Blk)) (g : Bool) (w : World) (h : RefD w p vS vL S L g) :
    Calls Tryz.prog 108 #[.pointer (some ⟨p, 0, none⟩), .int .i64 n, .int .i64 i, .int .u8 (u.toNat : Int)] w fun e w' => e = .returned (.int .i64 (rotE S g n i)) ∧ RefD w' p vS vL (rotS S g n i u) L g ∧ Only (foot p vS vL) w w' := by
  by_cases he : rotE S g n i = 0
  · have hin : 0 ≤ n ∧ n < S.length ∧ 0 ≤ i ∧ i < 64 := by
      by_cases h0 : 0 ≤ n ∧ n < S.length ∧ 0 ≤ i ∧ i < 64
      · exact h0
      · unfold rotE at he; rw [if_neg h0] at he; omega
    have hg : g = false := by
      cases g
      · rfl
      · unfold rotE at he; rw [if_pos hin] at he; simp at he
    subst hg
    obtain ⟨k, rfl⟩ := Int.eq_ofNat_of_zero_le hin.1
    obtain ⟨j, rfl⟩ := Int.eq_ofNat_of_zero_le hin.2.2.1
    have e : rotS S false k j u = S.set k (rotB (S.getD k al) j u) := by unfold rotS; rw [if_pos he]; rfl
    rw [e, he]
    exact r_rot_ok p k j u vS vL S L w h (by omega) (by omega)
  · have e : rotS S g n i u = S := by unfold rotS; rw [if_neg he]
    rw [e]
    exact (r_rot_no p n i u vS vL S L g w h he).mono fun e w' ⟨h1, h2⟩ => by subst h2; exact ⟨h1, h, Only.refl _ _⟩
set_option maxHeartbeats 1000000 in
theorem r_new_ok (k : Nat) (w : World) (h1 : 1 ≤ k) (h2 : k ≤ 512) :
    Calls Tryz.prog 104 #[.int .i64 k] w fun e w' => ∃ p vS, e = .returned (.tuple #[.pointer (some ⟨p, 0, none⟩), .int .i64 0]) ∧ RefD w' p vS (.slice none 0 0) (List.replicate k al) [] false ∧ Below w.heap.size w w' ∧ ∀ b, foot p vS (.slice none 0 0) b → w.heap.size ≤ b := by
  go_enter Tryz.func104, Tryz.ntmps104
  have HM := Lib.hid (heap_alloc_new w (.cells (madeCells (cel al).toArray (k * 64)) 65))
  have HB := Lib.hid ((Below.refl w.heap.size w).alloc (Nat.le_refl _) (.cells (madeCells (cel al).toArray (k * 64)) 65))
  have HSZ := Lib.hid (World.size_alloc w (.cells (madeCells (cel al).toArray (k * 64)) 65))
  go_wp2_with (first | (refine ai rfl (exec_make (n := k) rfl rfl rfl (by omega)) ?_))
  generalize w.alloc (.cells (madeCells (cel al).toArray (k * 64)) 65) = w1 at *
  go_ret2
  have hS : az BlkE w1 0 (.slice (some ⟨w.heap.size, 0, none⟩) k k) (List.replicate k al) := az.of_block (E := BlkE) HM.out (by rw [← flat_zeros]; rfl) (Nat.zero_le _) (by simp) (by unfold maxLen; omega)
  have hnw := heap_alloc_new w1 (.cells #[.slice (some ⟨w.heap.size, 0, none⟩) k k, .slice none 0 0, .bool false] 154)
  rw [HSZ.out] at hnw
  refine ⟨w.heap.size + 1, _, rfl, ⟨hnw, hS.below ((Below.refl _ _).alloc (Nat.le_refl _) _), az.nil _ _⟩, HB.out.alloc HB.out.size _, fun b hb => ?_⟩
  rcases hb with rfl | hb | hb
  · omega
  · simp [Value.ownBlock] at hb; omega
  · simp [Value.ownBlock] at hb
theorem r_new_no (n : Int) (w : World) (h : ¬(1 ≤ n ∧ n ≤ 512)) :
    Calls Tryz.prog 104 #[.int .i64 n] w fun e w' => e = .returned (.tuple #[.pointer none, .int .i64 2]) ∧ w = w' := by
  have hor : n < 1 ∨ (1 ≤ n ∧ 512 < n) := by omega
  clear h
  rcases hor with h | ⟨h, h'⟩
  all_goals
    go_enter Tryz.func104, Tryz.ntmps104
    go_wp2
    go_ret2
    exact ⟨rfl, rfl⟩
def Rv (w : World) (F : Nat → Prop) (p : Nat) (S : List Blk) (L : List (Int × Blk)) (g : Bool) : Prop := ∃ vS vL, F = foot p vS vL ∧ RefD w p vS vL S L g ∧ Fit S L
section
variable {w w' : World} {F G : Nat → Prop} {p : Nat} {S : List Blk} {L : List (Int × Blk)} {g : Bool}
theorem Rv.lt (h : Rv w F p S L g) : ∀ b, F b → b < w.heap.size := by
  obtain ⟨vS, vL, rfl, h, _⟩ := h
  exact h.lt
theorem Rv.only (h : Rv w F p S L g) (k : Only G w w') (hn : ∀ b, F b → ¬ G b) : Rv w' F p S L g := by
  obtain ⟨vS, vL, rfl, h, hF⟩ := h
  exact ⟨vS, vL, rfl, h.only k hn, hF⟩
end
section
variable {w : World} {F : Nat → Prop} {p : Nat} {S : List Blk} {L : List (Int × Blk)} {g : Bool}
theorem rv_read (n : Int) (h : Rv w F p S L g) : Calls Tryz.prog 145 #[.pointer (some ⟨p, 0, none⟩), .int .i64 n] w fun e w' => e = .returned (.tuple #[blk (ej S L g n), .int .i64 (cf S g n)]) ∧ Below w.heap.size w w' := by
  obtain ⟨vS, vL, rfl, h, _⟩ := h
  exact r_read p vS vL S L g n w h
theorem rv_sure (n : Int) (h : Rv w F p S L g) : Calls Tryz.prog 113 #[.pointer (some ⟨p, 0, none⟩), .int .i64 n] w fun e w' => e = .returned (.tuple #[blk (sureB S g n), .int .i64 (cf S g n)]) ∧ Below w.heap.size w w' := by
  obtain ⟨vS, vL, rfl, h, _⟩ := h
  exact r_sure p vS vL S L g n w h
theorem rv_write (n : Int) (b : Blk) (hL : L.length < 1000000) (h : Rv w F p S L g) : Calls Tryz.prog 86 #[.pointer (some ⟨p, 0, none⟩), .int .i64 n, blk b] w fun e w' => e = .returned (.int .i64 (cf S g n)) ∧ ∃ F', Rv w' F' p S (wrL S L g n b) g ∧ Only F w w' ∧ Grow w F F' := by
  obtain ⟨vS, vL, rfl, h, hF⟩ := h
  refine (r_write p vS vL S L g n b w h hL).mono ?_
  rintro e w' ⟨he, vL', h1, h2, h3⟩
  refine ⟨he, _, ⟨vS, vL', rfl, h1, hF.wr g n b⟩, h2, fun k hk => ?_⟩
  rcases hk with e | e | e
  · exact .inl (.inl e)
  · exact .inl (.inr (.inl e))
  · rcases h3 k e with e | e
    · exact .inl (.inr (.inr e))
    · exact .inr e
theorem rv_flush (h : Rv w F p S L g) : Calls Tryz.prog 158 #[.pointer (some ⟨p, 0, none⟩)] w fun e w' => e = .returned (.int .i64 (if g = true then 9 else 0)) ∧ ∃ F', Rv w' F' p (if g = true then S else flS S L) (if g = true then L else []) g ∧ Only F w w' ∧ Grow w F F' := by
  obtain ⟨vS, vL, rfl, h, hF⟩ := h
  cases g
  · refine (r_flush_ok p vS vL S L w h hF).mono ?_
    rintro e w' ⟨he, h1, h2⟩
    refine ⟨he, _, ⟨vS, _, rfl, h1, Fit.nil _⟩, h2, fun k hk => ?_⟩
    rcases hk with e | e | e
    · exact .inl (.inl e)
    · exact .inl (.inr (.inl e))
    · simp [Value.ownBlock] at e
  · refine (r_flush_dead p vS vL S L w h).mono ?_
    rintro e w' ⟨he, rfl⟩
    exact ⟨he, _, ⟨vS, vL, rfl, h, hF⟩, Only.refl _ _, Grow.same _ _⟩
theorem rv_fail (h : Rv w F p S L g) : Calls Tryz.prog 110 #[.pointer (some ⟨p, 0, none⟩)] w fun e w' => (∃ v, e = .returned v) ∧ ∃ F', Rv w' F' p S [] true ∧ Only F w w' ∧ Grow w F F' := by
  obtain ⟨vS, vL, rfl, h, hF⟩ := h
  refine (r_fail p vS vL S L g w h).mono ?_
  rintro e w' ⟨he, h1, h2⟩
  refine ⟨he, _, ⟨vS, _, rfl, h1, Fit.nil _⟩, h2, fun k hk => ?_⟩
  rcases hk with e | e | e
  · exact .inl (.inl e)
  · exact .inl (.inr (.inl e))
  · simp [Value.ownBlock] at e
theorem rv_rot (n i : Int) (u : UInt8) (h : Rv w F p S L g) : Calls Tryz.prog 108 #[.pointer (some ⟨p, 0, none⟩), .int .i64 n, .int .i64 i, .int .u8 (u.toNat : Int)] w fun e w' => e = .returned (.int .i64 (rotE S g n i)) ∧ ∃ F', Rv w' F' p (rotS S g n i u) L g ∧ Only F w w' ∧ Grow w F F' := by
  obtain ⟨vS, vL, rfl, h, hF⟩ := h
  refine (r_rot p n i u vS vL S L g w h).mono ?_
  rintro e w' ⟨he, h1, h2⟩
  exact ⟨he, _, ⟨vS, vL, rfl, h1, hF.len (rotS_len _ _ _ _ _)⟩, h2, Grow.same _ _⟩
theorem rv_crash {A : Option Addr} {n c : Nat} {P : List Int} (hP : RdE IntE w w.heap.size A n P) (hN : ∀ x, A = some x → 0 < n → ¬ F x.block) (h : Rv w F p S L g) : Calls Tryz.prog 107 #[.pointer (some ⟨p, 0, none⟩), .slice A n c] w fun e w' => e = .returned (.int .i64 ((min L.length n : Nat) : Int)) ∧ ∃ F', Rv w' F' p (crI S L P L.length) [] g ∧ Only F w w' ∧ Grow w F F' := by
  obtain ⟨vS, vL, rfl, h, hF⟩ := h
  refine (r_crash p vS vL S L g A n c P w h hF hP hN).mono ?_
  rintro e w' ⟨he, h1, h2⟩
  refine ⟨he, _, ⟨vS, _, rfl, h1, Fit.nil _⟩, h2, fun k hk => ?_⟩
  rcases hk with e | e | e
  · exact .inl (.inl e)
  · exact .inl (.inr (.inl e))
  · simp [Value.ownBlock] at e
theorem rv_new (k : Nat) (w : World) (h1 : 1 ≤ k) (h2 : k ≤ 512) : Calls Tryz.prog 104 #[.int .i64 k] w fun e w' => ∃ p F, e = .returned (.tuple #[.pointer (some ⟨p, 0, none⟩), .int .i64 0]) ∧ Rv w' F p (List.replicate k al) [] false ∧ Below w.heap.size w w' ∧ ∀ b, F b → w.heap.size ≤ b := by
  refine (r_new_ok k w h1 h2).mono ?_
  rintro e w' ⟨p, vS, he, hr, hb, hf⟩
  exact ⟨p, _, he, ⟨vS, _, rfl, hr, Fit.nil _⟩, hb, hf⟩
end
def bK : BKind where
  K := ⟨Rv, Rv.lt, Rv.only⟩
  s := 134
  t := 133
  und := Tryz.underlying134
  info := by kernel_rfl
  o := 136
  cs := fun v left ce steps => #[v, .int .i64 left, .bool ce, .int .i64 steps]
  ne := by decide
theorem r4cells {w : World} {b : Nat} {t : TypeId} {x y z u : Value} (h : w.heap[b]? = some (.cells #[x, y, z, u] t (0, 0))) : w.cell? ⟨b, 0, none⟩ = some x ∧ w.cell? ⟨b, 1, none⟩ = some y ∧ w.cell? ⟨b, 2, none⟩ = some z ∧ w.cell? ⟨b, 3, none⟩ = some u := by
  refine ⟨?_, ?_, ?_, ?_⟩
  · rw [cell_of_row w b 0 _ t (0, 0) h]; rfl
  · rw [cell_of_row w b 1 _ t (0, 0) h]; rfl
  · rw [cell_of_row w b 2 _ t (0, 0) h]; rfl
  · rw [cell_of_row w b 3 _ t (0, 0) h]; rfl
theorem rv_asks {w : World} {F : Nat → Prop} {p : Nat} {S : List Blk} {L : List (Int × Blk)} {g : Bool} (n : Int) (h : Rv w F p S L g) : Calls Tryz.prog 84 #[.pointer (some ⟨p, 0, none⟩), .int .i64 n] w fun e w' => e = .returned (.int .i64 (cf S g n)) ∧ w = w' := by
  obtain ⟨vS, vL, rfl, h, _⟩ := h
  exact r_asks p vS vL S L g n w h
theorem rv_cells {w : World} {F : Nat → Prop} {p : Nat} {S : List Blk} {L : List (Int × Blk)} {g : Bool} (h : Rv w F p S L g) : ∃ A c, w.cell? ⟨p, 0, none⟩ = some (.slice A S.length c) ∧ w.cell? ⟨p, 2, none⟩ = some (.bool g) := by
  obtain ⟨vS, vL, rfl, h, _⟩ := h
  obtain ⟨c0, c1, c2⟩ := cells3 h.at_
  obtain ⟨A, c, rfl, _, _⟩ := h.S_.form
  exact ⟨A, c, c0, c2⟩
section
variable {w w' : World} {p : Nat} {v : Value} {Fs : Nat → Nat → Prop} {ps : List Nat} {M : BenS}
theorem BenAt.dl (h : BenAt bK w p v Fs ps M) : w.cell? ⟨p, 0, none⟩ = some v ∧ w.cell? ⟨p, 1, none⟩ = some (.int .i64 M.left) ∧ w.cell? ⟨p, 2, none⟩ = some (.bool M.ce) ∧ w.cell? ⟨p, 3, none⟩ = some (.int .i64 M.steps) := r4cells h.at_
theorem c_dark (h : BenAt bK w p v Fs ps M) :
    Calls Tryz.prog 54 #[.pointer (some ⟨p, 0, none⟩)] w fun e w' => e = .returned (.bool M.ce) ∧ w = w' := by
  obtain ⟨c0, c1, c2, c3⟩ := h.dl
  go_enter Tryz.func54, Tryz.ntmps54
  go_wp2
  go_ret
  exact ⟨rfl, rfl⟩
theorem c_steps (h : BenAt bK w p v Fs ps M) :
    Calls Tryz.prog 53 #[.pointer (some ⟨p, 0, none⟩)] w fun e w' => e = .returned (.int .i64 (M.steps : Int)) ∧ w = w' := by
  obtain ⟨c0, c1, c2, c3⟩ := h.dl
  go_enter Tryz.func53, Tryz.ntmps53
  go_wp2
  go_ret
  exact ⟨rfl, rfl⟩
theorem c_has_no (h : BenAt bK w p v Fs ps M) {d : Int} (hd : ¬(0 ≤ d ∧ d < M.ds.length)) :
    Calls Tryz.prog 87 #[.pointer (some ⟨p, 0, none⟩), .int .i64 d] w fun e w' => e = .returned (.bool false) ∧ w = w' := by
  obtain ⟨g, c, rfl, _, _⟩ := h.slice
  obtain ⟨c0, c1, c2, c3⟩ := h.dl
  clear h
  by_cases h0 : 0 ≤ d
  · have h1 : ¬(d < (M.ds.length : Int)) := by omega
    clear hd
    go_enter Tryz.func87, Tryz.ntmps87
    go_wp2
    go_ret
    exact ⟨rfl, rfl⟩
  · clear hd
    go_enter Tryz.func87, Tryz.ntmps87
    go_wp2
    go_ret
    exact ⟨rfl, rfl⟩
theorem c_has_ok (h : BenAt bK w p v Fs ps M) {k : Nat} (hk : k < M.ds.length) :
    Calls Tryz.prog 87 #[.pointer (some ⟨p, 0, none⟩), .int .i64 k] w fun e w' => e = .returned (.bool true) ∧ w = w' := by
  obtain ⟨g, c, rfl, _, _⟩ := h.slice
  obtain ⟨c0, c1, c2, c3⟩ := h.dl
  clear h
  go_enter Tryz.func87, Tryz.ntmps87
  go_wp2
  go_ret
  exact ⟨rfl, rfl⟩
theorem c_asks (d : Int) (h : BenAt bK w p v Fs ps M) :
    Calls Tryz.prog 83 #[.pointer (some ⟨p, 0, none⟩), .int .i64 d] w fun e w' => e = .returned (.int .i64 (cR M d)) ∧ w = w' := by
  obtain ⟨c0, c1, c2, c3⟩ := h.dl
  rcases cJ M d with ⟨e, hdk⟩ | ⟨e, hdk, ho⟩ | ⟨e, hdk, k, rfl, hk⟩
  · rw [e]
    rw [hdk] at c2
    clear e hdk h
    go_enter Tryz.func83, Tryz.ntmps83
    go_wp2
    go_ret
    exact ⟨rfl, rfl⟩
  · rw [e]
    rw [hdk] at c2
    have HO := Lib.hid (c_has_no h ho)
    clear e hdk h ho
    go_enter Tryz.func83, Tryz.ntmps83
    go_wp2_with fail
    refine HO.out.mono ?_
    rintro e w1 ⟨rfl, rfl⟩
    go_wp2_with fail
    go_ret
    exact ⟨rfl, rfl⟩
  · rw [e]
    rw [hdk] at c2
    have HO := Lib.hid (c_has_ok h hk)
    clear e hdk h hk
    go_enter Tryz.func83, Tryz.ntmps83
    go_wp2_with fail
    refine HO.out.mono ?_
    rintro e w1 ⟨rfl, rfl⟩
    go_wp2_with fail
    go_ret
    exact ⟨rfl, rfl⟩
theorem c_sectors (d : Int) (h : BenAt bK w p v Fs ps M) :
    Calls Tryz.prog 49 #[.pointer (some ⟨p, 0, none⟩), .int .i64 d] w fun e w' => e = .returned (.int .i64 (ca M d)) ∧ w = w' := by
  rcases dD M d with ⟨e, ho⟩ | ⟨e, k, rfl, hk⟩
  · have HS : Hid (ca M d = 0) := Lib.hid (by unfold ca; rw [if_neg (by omega)])
    have HO := Lib.hid (c_has_no h ho)
    clear e h ho
    go_enter Tryz.func49, Tryz.ntmps49
    go_wp2_with fail
    refine HO.out.mono ?_
    rintro e w1 ⟨rfl, rfl⟩
    go_wp2_with fail
    go_ret
    exact ⟨aL HS.out.symm, rfl⟩
  · obtain ⟨x, hx⟩ : ∃ x, M.ds.getD k bu = x := ⟨_, rfl⟩
    have hat := h.devs.at_ k hk
    rw [hx] at hat
    have HS : Hid (ca M (k : Int) = (x.S.length : Int)) := Lib.hid (by unfold ca; rw [if_pos e, M.dev_nat, hx])
    have HO := Lib.hid (c_has_ok h hk)
    obtain ⟨g, c, rfl, _, _⟩ := h.slice
    obtain ⟨c0, c1, c2, c3⟩ := h.dl
    have ck := h.cell hk
    obtain ⟨AS, cS, d0, d2⟩ := rv_cells hat
    clear e h hat hx
    generalize ps.getD k 0 = q at *
    go_enter Tryz.func49, Tryz.ntmps49
    go_wp2_with fail
    refine HO.out.mono ?_
    rintro e w1 ⟨rfl, rfl⟩
    go_wp2_with fail
    go_ret
    exact ⟨aL HS.out.symm, rfl⟩
set_option maxHeartbeats 1000000 in
theorem c_read (d n : Int) (h : BenAt bK w p v Fs ps M) :
    Calls Tryz.prog 88 #[.pointer (some ⟨p, 0, none⟩), .int .i64 d, .int .i64 n] w fun e w' => e = .returned (.tuple #[blk (cO M d n), .int .i64 (bW M d n)]) ∧ Below w.heap.size w w' := by
  have hA := (Below.refl w.heap.size w).alloc (Nat.le_refl _) (.cells (cel al).toArray 65)
  have h1 := h.below hA
  have HT := Lib.hid (dd w al 65)
  have HA := Lib.hid hA
  have HO := Lib.hid (c_asks d h1)
  by_cases hl : cR M d = 0
  · rcases cJ M d with ⟨e, _⟩ | ⟨e, _⟩ | ⟨e, hdk, k, rfl, hk⟩
    · omega
    · omega
    obtain ⟨x, hx⟩ : ∃ x, M.ds.getD k bu = x := ⟨_, rfl⟩
    have hat := h1.devs.at_ k hk
    rw [hx] at hat
    have HB : Hid (cO M (k : Int) n = ej x.S x.L x.g n) := Lib.hid (by unfold cO; rw [if_pos e, ← hx]; rfl)
    have HE : Hid (bW M (k : Int) n = cf x.S x.g n) := Lib.hid (by unfold bW; rw [if_pos e, ← hx]; rfl)
    rw [e] at HO
    have HD := Lib.hid (rv_read n hat)
    have HSZ := Lib.hid (World.size_alloc w (.cells (cel al).toArray 65))
    obtain ⟨g, c, rfl, _, _⟩ := h1.slice
    obtain ⟨c0, c1, c2, c3⟩ := h1.dl
    have ck := h1.cell hk
    clear e h h1 hat hx hdk hA hl
    rw [HB.out, HE.out]
    clear HB HE
    generalize ej x.S x.L x.g n = y at *
    generalize cf x.S x.g n = z at *
    generalize ps.getD k 0 = q at *
    go_enter Tryz.func88, Tryz.ntmps88
    go_wp2_with (first | (refine ai rfl (aJ rfl) ?_) | fail)
    refine HO.out.mono ?_
    rintro e w1 ⟨rfl, rfl⟩
    go_wp2_with fail
    refine HD.out.mono ?_
    rintro e w2 ⟨rfl, hb⟩
    have HT2 := Lib.hid (aK HT.out (by rw [HSZ.out]; omega) hb)
    have HB2 := Lib.hid (HA.out.trans (hb.mono (by rw [HSZ.out]; omega)))
    clear hb
    go_wp2_with (first | (refine aF rfl (aH rfl rfl rfl HT2.out) ?_) | fail)
    exact bodyPost_ret (bO rfl _ _ _ rfl (World.rangeAt_setCells_same _ _ _ _ (by rw [aw]; exact HT2.out))) rfl ⟨rfl, below_setCells HB2.out (Nat.le_refl _) _⟩
  · have HB : Hid (cO M d n = al) := Lib.hid (by unfold cO; rw [if_neg hl])
    have HE : Hid (bW M d n = cR M d) := Lib.hid (by unfold bW; rw [if_neg hl])
    clear h h1 hA
    rw [HB.out, HE.out]
    rcases cJ M d with ⟨e, _⟩ | ⟨e, _⟩ | ⟨e, _⟩
    rotate_right 1
    · exact absurd e hl
    all_goals
      rw [e] at HO ⊢
      clear e hl
      go_enter Tryz.func88, Tryz.ntmps88
      go_wp2_with (first | (refine ai rfl (aJ rfl) ?_) | fail)
      refine HO.out.mono ?_
      rintro e w1 ⟨rfl, rfl⟩
      go_wp2_with (first | (refine ai rfl (bV (c := al) (parts := []) rfl rfl) ?_) | (refine aF rfl (aH rfl rfl rfl HT.out) ?_))
      exact bodyPost_ret (bO rfl _ _ _ rfl (World.rangeAt_setCells_same _ _ _ _ (by rw [aw]; exact HT.out))) rfl ⟨rfl, below_setCells HA.out (Nat.le_refl _) _⟩
set_option maxHeartbeats 1000000 in
theorem c_sure (d n : Int) (h : BenAt bK w p v Fs ps M) :
    Calls Tryz.prog 51 #[.pointer (some ⟨p, 0, none⟩), .int .i64 d, .int .i64 n] w fun e w' => e = .returned (.tuple #[blk (suB6 M d n), .int .i64 (suE6 M d n)]) ∧ Below w.heap.size w w' := by
  have hA := (Below.refl w.heap.size w).alloc (Nat.le_refl _) (.cells (cel al).toArray 65)
  have h1 := h.below hA
  have HT := Lib.hid (dd w al 65)
  have HA := Lib.hid hA
  rcases dD M d with ⟨e, ho⟩ | ⟨e, k, rfl, hk⟩
  · have HB : Hid (suB6 M d n = al) := Lib.hid (by unfold suB6; rw [if_neg (by omega)])
    have HE : Hid (suE6 M d n = 2) := Lib.hid (by unfold suE6; rw [if_neg (by omega), e])
    have HO := Lib.hid (c_has_no h1 ho)
    clear e h h1 ho hA
    rw [HB.out, HE.out]
    go_enter Tryz.func51, Tryz.ntmps51
    go_wp2_with (first | (refine ai rfl (aJ rfl) ?_) | fail)
    refine HO.out.mono ?_
    rintro e w1 ⟨rfl, rfl⟩
    go_wp2_with (first | (refine ai rfl (bV (c := al) (parts := []) rfl rfl) ?_) | (refine aF rfl (aH rfl rfl rfl HT.out) ?_))
    exact bodyPost_ret (bO rfl _ _ _ rfl (World.rangeAt_setCells_same _ _ _ _ (by rw [aw]; exact HT.out))) rfl ⟨rfl, below_setCells HA.out (Nat.le_refl _) _⟩
  · obtain ⟨x, hx⟩ : ∃ x, M.ds.getD k bu = x := ⟨_, rfl⟩
    have hat := h1.devs.at_ k hk
    rw [hx] at hat
    have HB : Hid (suB6 M (k : Int) n = sureB x.S x.g n) := Lib.hid (by unfold suB6; rw [if_pos e, ← hx]; rfl)
    have HE : Hid (suE6 M (k : Int) n = cf x.S x.g n) := Lib.hid (by unfold suE6; rw [if_pos e, ← hx]; rfl)
    have HO := Lib.hid (c_has_ok h1 hk)
    have HD := Lib.hid (rv_sure n hat)
    have HSZ := Lib.hid (World.size_alloc w (.cells (cel al).toArray 65))
    obtain ⟨g, c, rfl, _, _⟩ := h1.slice
    obtain ⟨c0, c1, c2, c3⟩ := h1.dl
    have ck := h1.cell hk
    clear e h h1 hat hx hA
    rw [HB.out, HE.out]
    clear HB HE
    generalize sureB x.S x.g n = y at *
    generalize cf x.S x.g n = z at *
    generalize ps.getD k 0 = q at *
    go_enter Tryz.func51, Tryz.ntmps51
    go_wp2_with (first | (refine ai rfl (aJ rfl) ?_) | fail)
    refine HO.out.mono ?_
    rintro e w1 ⟨rfl, rfl⟩
    go_wp2_with fail
    refine HD.out.mono ?_
    rintro e w2 ⟨rfl, hb⟩
    have HT2 := Lib.hid (aK HT.out (by rw [HSZ.out]; omega) hb)
    have HB2 := Lib.hid (HA.out.trans (hb.mono (by rw [HSZ.out]; omega)))
    clear hb
    go_wp2_with (first | (refine aF rfl (aH rfl rfl rfl HT2.out) ?_) | fail)
    exact bodyPost_ret (bO rfl _ _ _ rfl (World.rangeAt_setCells_same _ _ _ _ (by rw [aw]; exact HT2.out))) rfl ⟨rfl, below_setCells HB2.out (Nat.le_refl _) _⟩
theorem c_arm (n : Int) (h : BenAt bK w p v Fs ps M) :
    Calls Tryz.prog 40 #[.pointer (some ⟨p, 0, none⟩), .int .i64 n] w fun e w' => e = .returned (.int .i64 (arE6 M n)) ∧ BenAt bK w' p v Fs ps (arS6 M n) ∧ Only (fun b => b = p) w w' := by
  obtain ⟨c0, c1, c2, c3⟩ := h.dl
  have f1 := frozen_of_row w p 1 _ _ h.at_
  have HH := Lib.hid h
  cases hdk : M.ce
  · rw [hdk] at c2
    by_cases hn : n < 0
    · have HE : Hid (arE6 M n = 2) := Lib.hid (by unfold arE6; rw [if_neg (by rw [hdk]; decide), if_pos hn])
      have HS : Hid (arS6 M n = M) := Lib.hid (by unfold arS6; rw [HE.out, if_neg (by decide)])
      clear h hdk
      go_enter Tryz.func40, Tryz.ntmps40
      go_wp2_with fail
      go_ret
      exact ⟨aL HE.out.symm, by rw [HS.out]; exact HH.out, Only.refl _ _⟩
    · have HE : Hid (arE6 M n = 0) := Lib.hid (by unfold arE6; rw [if_neg (by rw [hdk]; decide), if_neg hn])
      have HS : Hid (arS6 M n = ⟨M.ds, n.toNat, M.ce, M.steps⟩) := Lib.hid (by unfold arS6; rw [HE.out, if_pos rfl])
      have HN : Hid (((n.toNat : Nat) : Int) = n) := Lib.hid (by omega)
      clear h hdk
      go_enter Tryz.func40, Tryz.ntmps40
      go_wp2_with fail
      go_ret
      have ho := cy w p 1 (.int .i64 n)
      refine ⟨aL HE.out.symm, ?_, ho⟩
      rw [HS.out]
      refine HH.out.obj _ _ _ ho ?_
      have := heap_setCell_same w p 1 _ _ (.int .i64 n) HH.out.at_
      simpa [bK, HN.out] using this
  · have HE : Hid (arE6 M n = 8) := Lib.hid (by unfold arE6; rw [if_pos hdk])
    have HS : Hid (arS6 M n = M) := Lib.hid (by unfold arS6; rw [HE.out, if_neg (by decide)])
    rw [hdk] at c2
    clear h hdk
    go_enter Tryz.func40, Tryz.ntmps40
    go_wp2_with fail
    go_ret
    exact ⟨aL HE.out.symm, by rw [HS.out]; exact HH.out, Only.refl _ _⟩
theorem c_fail (d : Int) (h : BenAt bK w p v Fs ps M) :
    Calls Tryz.prog 44 #[.pointer (some ⟨p, 0, none⟩), .int .i64 d] w fun e w' => e = .returned (.int .i64 (dx M d)) ∧ Left bK w p v Fs ps M.ds.length (faS6 M d) w' := by
  rcases dD M d with ⟨e, ho⟩ | ⟨e, k, rfl, hk⟩
  · have HL := Lib.hid (Left.same h (M' := faS6 M d) (by unfold faS6; rw [if_neg (by omega)]))
    have HO := Lib.hid (c_has_no h ho)
    have HE := Lib.hid e
    clear e h ho
    go_enter Tryz.func44, Tryz.ntmps44
    go_wp2_with fail
    refine HO.out.mono ?_
    rintro e w1 ⟨rfl, rfl⟩
    go_wp2_with fail
    go_ret
    exact ⟨aL HE.out.symm, HL.out⟩
  · obtain ⟨x, hx⟩ : ∃ x, M.ds.getD k bu = x := ⟨_, rfl⟩
    have hat := h.devs.at_ k hk
    rw [hx] at hat
    have HS : Hid (faS6 M (k : Int) = M.put k ⟨x.S, [], true⟩) := Lib.hid (by unfold faS6; rw [if_pos e, ← hx]; rfl)
    have HO := Lib.hid (c_has_ok h hk)
    have HD := Lib.hid (rv_fail hat)
    have HE := Lib.hid e
    have HH := Lib.hid h
    obtain ⟨g, c, rfl, _, _⟩ := h.slice
    obtain ⟨c0, c1, c2, c3⟩ := h.dl
    have ck := h.cell hk
    obtain ⟨q, hq⟩ : ∃ q, ps.getD k 0 = q := ⟨_, rfl⟩
    rw [hq] at ck HD
    have HQ := Lib.hid hq
    clear e h hat hx hq
    go_enter Tryz.func44, Tryz.ntmps44
    go_wp2_with fail
    refine HO.out.mono ?_
    rintro e w1 ⟨rfl, rfl⟩
    go_wp2_with fail
    refine HD.out.mono ?_
    rintro e w2 ⟨⟨z, rfl⟩, F', h1, h2, h3⟩
    go_wp2_with fail
    go_ret
    exact ⟨aL HE.out.symm, Left.turn HH.out hk h2 h3 (d := ⟨x.S, [], true⟩) (by rw [HQ.out]; exact h1) HS.out⟩
theorem c_rot (d n i : Int) (u : UInt8) (h : BenAt bK w p v Fs ps M) :
    Calls Tryz.prog 42 #[.pointer (some ⟨p, 0, none⟩), .int .i64 d, .int .i64 n, .int .i64 i, .int .u8 (u.toNat : Int)] w fun e w' => e = .returned (.int .i64 (roE6 M d n i)) ∧ Left bK w p v Fs ps M.ds.length (roS6 M d n i u) w' := by
  rcases dD M d with ⟨e, ho⟩ | ⟨e, k, rfl, hk⟩
  · have HL := Lib.hid (Left.same h (M' := roS6 M d n i u) (by unfold roS6; rw [if_neg (by omega)]))
    have HO := Lib.hid (c_has_no h ho)
    have HE : Hid (roE6 M d n i = 2) := Lib.hid (by unfold roE6; rw [if_neg (by omega), e])
    clear e h ho
    go_enter Tryz.func42, Tryz.ntmps42
    go_wp2_with fail
    refine HO.out.mono ?_
    rintro e w1 ⟨rfl, rfl⟩
    go_wp2_with fail
    go_ret
    exact ⟨aL HE.out.symm, HL.out⟩
  · obtain ⟨x, hx⟩ : ∃ x, M.ds.getD k bu = x := ⟨_, rfl⟩
    have hat := h.devs.at_ k hk
    rw [hx] at hat
    have HS : Hid (roS6 M (k : Int) n i u = M.put k ⟨rotS x.S x.g n i u, x.L, x.g⟩) := Lib.hid (by unfold roS6; rw [if_pos e, ← hx]; rfl)
    have HO := Lib.hid (c_has_ok h hk)
    have HD := Lib.hid (rv_rot n i u hat)
    have HE : Hid (roE6 M (k : Int) n i = rotE x.S x.g n i) := Lib.hid (by unfold roE6; rw [if_pos e, ← hx]; rfl)
    have HH := Lib.hid h
    obtain ⟨g, c, rfl, _, _⟩ := h.slice
    obtain ⟨c0, c1, c2, c3⟩ := h.dl
    have ck := h.cell hk
    obtain ⟨q, hq⟩ : ∃ q, ps.getD k 0 = q := ⟨_, rfl⟩
    rw [hq] at ck HD
    have HQ := Lib.hid hq
    clear e h hat hx hq
    go_enter Tryz.func42, Tryz.ntmps42
    go_wp2_with fail
    refine HO.out.mono ?_
    rintro e w1 ⟨rfl, rfl⟩
    go_wp2_with fail
    refine HD.out.mono ?_
    rintro e w2 ⟨rfl, F', h1, h2, h3⟩
    go_wp2_with fail
    go_ret
    exact ⟨aL HE.out.symm, Left.turn HH.out hk h2 h3 (d := ⟨rotS x.S x.g n i u, x.L, x.g⟩) (by rw [HQ.out]; exact h1) HS.out⟩
def BenS.step (M : BenS) : BenS := if M.left = 1 then M.night else M.done
theorem c_step (h : BenAt bK w p v Fs ps M) (hs : M.steps < 1000000) (hll : M.left < 9223372036854775808) :
    Calls Tryz.prog 85 #[.pointer (some ⟨p, 0, none⟩)] w fun e w' => e = .returned (.int .i64 M.dz) ∧ BenAt bK w' p v Fs ps M.step ∧ Only (fun b => b = p) w w' := by
  obtain ⟨c0, c1, c2, c3⟩ := h.dl
  have f1 := frozen_of_row w p 1 _ _ h.at_
  have f2 := frozen_of_row w p 2 _ _ h.at_
  have f3 := frozen_of_row w p 3 _ _ h.at_
  have HH := Lib.hid h
  clear h
  by_cases h1 : M.left = 1
  · have HE : Hid (M.dz = 8) := Lib.hid (by unfold BenS.dz; rw [if_pos h1])
    have HS : Hid (M.step = M.night) := Lib.hid (by unfold BenS.step; rw [if_pos h1])
    rw [h1] at c1
    clear h1 hs hll
    go_enter Tryz.func85, Tryz.ntmps85
    go_wp2_with fail
    go_ret
    have ho := cy w p 2 (.bool true)
    refine ⟨aL HE.out.symm, ?_, ho⟩
    rw [HS.out]
    refine HH.out.obj _ _ _ ho ?_
    have := heap_setCell_same w p 2 _ _ (.bool true) HH.out.at_
    simpa [bK] using this
  · have HE : Hid (M.dz = 0) := Lib.hid (by unfold BenS.dz; rw [if_neg h1])
    have HS : Hid (M.step = M.done) := Lib.hid (by unfold BenS.step; rw [if_neg h1])
    by_cases h2 : 1 < M.left
    · have hl1 : ((M.left : Int) == 1) = false := by simpa using (by omega : ¬ (M.left : Int) = 1)
      go_enter Tryz.func85, Tryz.ntmps85
      go_wp2_with fail
      go_ret
      have ho := (cy w p 1 (.int .i64 ((M.left : Int) - 1))).setCell (p := ⟨p, 3, none⟩) (.inl rfl) (.int .i64 ((M.steps : Int) + 1))
      refine ⟨aL HE.out.symm, ?_, ho⟩
      rw [HS.out]
      refine HH.out.obj _ _ _ ho ?_
      have h3 := heap_setCell_same _ p 3 _ _ (.int .i64 ((M.steps : Int) + 1)) (heap_setCell_same w p 1 _ _ (.int .i64 ((M.left : Int) - 1)) HH.out.at_)
      have e : ((M.left - 1 : Nat) : Int) = (M.left : Int) - 1 := by omega
      simpa [bK, e] using h3
    · have hl0 : M.left = 0 := by omega
      have HL0 := Lib.hid hl0
      rw [hl0] at c1
      clear h1 hll h2 hl0
      go_enter Tryz.func85, Tryz.ntmps85
      go_wp2_with fail
      go_ret
      have ho := cy w p 3 (.int .i64 ((M.steps : Int) + 1))
      refine ⟨aL HE.out.symm, ?_, ho⟩
      rw [HS.out]
      refine HH.out.obj _ _ _ ho ?_
      have h3 := heap_setCell_same w p 3 _ _ (.int .i64 ((M.steps : Int) + 1)) HH.out.at_
      simpa [bK, HL0.out] using h3
end
end Go.Proofs.YtcafafdimcecpaaGreatDoor
