/-
  DiskSure's walk.
-/
import Derived.Test.YtokdmcikoaagmaaDfill
namespace Go.Proofs.Ytokdmcikoaagmaa
open Go.RowKit
set_option linter.unusedVariables false

theorem crI_off {S : List Blk} {L : List (Int × Blk)} {P : List Int} {k : Nat} (h : ∀ q ∈ L, 0 ≤ q.1 ∧ q.1 ≠ (k : Int)) : ∀ i, i ≤ L.length → (crI S L P i).getD k zeroB = S.getD k zeroB := by
  intro i
  induction i with
  | zero => intro _; rfl
  | succ i ih =>
    intro hi
    have hq := h _ (List.getElem_mem (show i < L.length by omega))
    have e : L.getD i (0, zeroB) = L[i] := by simp [List.getD, List.getElem?_eq_getElem (show i < L.length by omega)]
    rw [crI, e, List.getD, List.getElem?_set_ne (by omega), ← List.getD]
    exact ih (by omega)
theorem readB_nil {S : List Blk} {k : Nat} (h : k < S.length) : readB S [] false (k : Int) = S.getD k zeroB ∧ sureB S false (k : Int) = S.getD k zeroB ∧ askE S false (k : Int) = 0 := by
  have he := askE_ok (S := S) (n := (k : Int)) (by omega)
  refine ⟨?_, sureB_ok he, he⟩
  rw [readB_ok he]
  rfl
set_option maxRecDepth 100000 in
set_option maxHeartbeats 4000000 in
theorem sure_walk (D : Dev) (a t : Nat) (A A2 A3 : Option Addr) (n c n2 c2 n3 c3 : Nat) (l l2 : List (Int × Blk)) (P : List Int) (w : World) (ha : a < 256) (ht : t < 256) (hl : RdE WrE w w.heap.size A n l) (hnc : n ≤ c) (hc : c ≤ maxLen)
    (hl2 : RdE WrE w w.heap.size A2 n2 l2) (hnc2 : n2 ≤ c2) (hc2 : c2 ≤ maxLen) (hP : RdE IntE w w.heap.size A3 n3 P) (hnc3 : n3 ≤ c3) (hc3 : c3 ≤ maxLen) :
    Calls Try.prog 4 #[.int .u8 a, .slice A n c, .slice A2 n2 c2, .int .u8 t, .slice A3 n3 c3] w fun e w' => e = .returned (.bool true) ∧ Below w.heap.size w w' := by
  have HL2 := Lib.hid hl2
  have HP := Lib.hid hP
  have hc2' := hc2
  unfold maxLen at hc2
  have hk1 : 1 ≤ 1 + a % 16 ∧ 1 + a % 16 ≤ 16 := by omega
  have hlenR : (List.replicate (1 + a % 16) zeroB).length = 1 + a % 16 := by simp
  go_enter Try.func4, Try.ntmps4
  go_wp2_with fail
  refine (filled_ok D a A n c l w ha hl hnc hc).mono ?_
  rintro e w1 ⟨p, rfl, F1, L1, hd1, hL1, hb1, hf1⟩
  clear hl hl2 hP
  generalize 1 + a % 16 = k at *
  go_wp2_with fail
  refine (D.flush hd1).mono ?_
  rintro e w2 ⟨rfl, F2, hd2, ho2, hg2⟩
  rw [if_neg (by simp), if_neg (by simp)] at hd2
  have hlenS : (flS (List.replicate k zeroB) L1).length = k := by rw [flS_len, hlenR]
  generalize flS (List.replicate k zeroB) L1 = S at *
  have hb2 := hb1.trans (ho2.below hf1 hb1.size)
  have hf2 := hg2.above hf1 hb1.size
  clear hd1 hb1 ho2 hg2 hf1
  have hkne : (k : Int) ≠ 0 := by omega
  have hti : t % k < k := Nat.mod_lt _ (by omega)
  go_wp2_with fail
  rw [show (t : Int) % (k : Int) = ((t % k : Nat) : Int) from rfl]
  generalize t % k = q at *
  have hqS : q < S.length := by omega
  obtain ⟨hrd, hsu, hask⟩ := readB_nil hqS
  have HRD := Lib.hid hrd
  have HAS := Lib.hid hask
  clear hrd hsu hask
  refine (D.read (q : Int) hd2).mono ?_
  rintro e w3 ⟨rfl, hb3⟩
  rw [HRD.out, HAS.out]
  obtain ⟨was, hwas⟩ : ∃ x, S.getD q zeroB = x := ⟨_, rfl⟩
  rw [hwas]
  have HWAS := Lib.hid hwas
  clear hwas
  have hd4 := D.below (D.below hd2 hb3) ((Below.refl _ _).alloc (Nat.le_refl _) (.cells (cel was).toArray 33))
  have hlt4 := D.lt (D.below hd2 hb3)
  have K4 := new1 w3 (cel was).toArray 33
  have hb4 := (hb2.trans (hb3.mono hb2.size)).alloc (hb2.trans (hb3.mono hb2.size)).size (.cells (cel was).toArray 33)
  have hx4 : ¬ F2 w3.heap.size := fun e => absurd (hlt4 _ e) (Nat.lt_irrefl _)
  clear hd2 hb3 hb2 hlt4
  go_wp2_with (first | (refine wpList_val rfl (exec_alloc rfl) ?_) | (refine wpList_nul rfl (exec_fill rfl rfl rfl) ?_) | fail)
  generalize hy : w3.heap.size = y at *
  generalize w3.alloc (.cells (cel was).toArray 33) = w4 at *
  go_loopw [17, 18] (fun i m wr => ∃ (j : Nat) (F : Nat → Prop) (L : List (Int × Blk)), j ≤ n2 ∧ j ≤ 40 ∧ i = .int .i64 j ∧ D.Dv wr F p S L false ∧ L.length ≤ j ∧ (∀ q' ∈ L, 0 ≤ q'.1 ∧ q'.1 ≠ (q : Int)) ∧ Below w.heap.size w wr ∧ (∀ b, F b → w.heap.size ≤ b) ∧ wr.heap[y]? = some (.cells (cel was).toArray 33) ∧ ¬ F y) (fun i _ _ => n2 - (intOf i).toNat)
  case atStart => exact ⟨0, F2, [], Nat.zero_le _, by omega, rfl, hd4, by simp, (fun q' h => absurd h (by simp)), hb4, hf2, K4, hx4⟩
  case round =>
    clear hd4 hb4 K4 hx4 hf2
    obtain ⟨j, F, L, hjn, hj4, rfl, hd, hLj, hoff, hbl, hf, hK, hxF⟩ := hrel
    have HD := Lib.hid hd
    have HBL := Lib.hid hbl
    have HK := Lib.hid hK
    have HOFF := Lib.hid hoff
    by_cases hltt : j < n2 ∧ j < 40
    · obtain ⟨hlt, h40⟩ := hltt
      have h40' : (j : Int) < 40 := by omega
      have hln : (j : Int) < (n2 : Int) := by omega
      obtain ⟨bA, oA, hAe, hA, cA, rA⟩ := (HL2.out.below hbl).pair hlt
      generalize (l2.getD j (0, zeroB)).1 = bn at *
      generalize (l2.getD j (0, zeroB)).2 = x at *
      obtain ⟨m, hmk, hm⟩ := place_u bn k (by omega)
      have HRA := Lib.hid rA
      have HM := Lib.hid hm
      subst hAe
      clear rA hd hbl hK hoff
      by_cases hmq : m = q
      · subst hmq
        go_wp2_with fail
        go_roundw
        case rel => exact ⟨j + 1, F, L, by omega, by omega, by go_num, HD.out, by omega, HOFF.out, HBL.out, hf, HK.out, hxF⟩
        case measure => simp [intOf]; omega
      · have hmq' : (m : Int) ≠ (q : Int) := by omega
        have hbm : ((m : Int) != (q : Int)) = true := by simp; omega
        obtain ⟨hask, hwr⟩ := wrL_ok (L := L) (b := x) (show m < S.length by omega)
        have HASK := Lib.hid hask
        have HWR := Lib.hid hwr
        clear hask hwr
        go_wp2_with (first | (refine wpList_val rfl (exec_load rfl rfl HRA.out) ?_) | fail)
        refine (D.write (m : Int) x (by omega) HD.out).mono ?_
        rintro e w5 ⟨rfl, F5, hd5, ho5, hg5⟩
        rw [HASK.out]
        rw [HWR.out] at hd5
        have K5 := ho5.keep HK.out hxF
        have hx5 : ¬ F5 y := fun e => by
          rcases hg5 y e with e | e
          · exact hxF e
          · have := blk_lt HK.out; omega
        have hb5 := HBL.out.trans (ho5.below hf HBL.out.size)
        have hf5 := hg5.above hf HBL.out.size
        clear ho5 hg5
        go_wp2_with fail
        go_roundw
        case rel => exact ⟨j + 1, F5, _, by omega, by omega, by go_num, hd5, by rw [List.length_append]; simp; omega, (fun q' hq' => by
          rcases List.mem_append.1 hq' with h | h
          · exact HOFF.out q' h
          · simp at h; subst h; exact ⟨by simp, hmq'⟩), hb5, hf5, K5, hx5⟩
        case measure => simp [intOf]; omega
    · have hor : ¬((j : Int) < (n2 : Int)) ∨ (((j : Int) < (n2 : Int)) ∧ ¬((j : Int) < 40)) := by omega
      have hPr := (HP.out.below hbl).more (B' := wr.heap.size) hbl.size
      have hnF : ∀ x, A3 = some x → 0 < n3 → ¬ F x.block := fun x hx hn hF => by
        obtain ⟨b, off, e, hb, _⟩ := HP.out.2 0 hn
        rw [hx] at e; injection e with e; subst e
        have := hf b hF
        omega
      have HPR := Lib.hid hPr
      have HNF := Lib.hid hnF
      have HCR := Lib.hid (crI_off (P := P) (S := S) hoff L.length (Nat.le_refl _))
      have hlenC := crI_len S L P L.length
      clear hd hbl hK hoff hPr hnF
      rcases hor with h | ⟨h, h'⟩
      all_goals
        go_wp2_with fail
        refine (D.crash HPR.out hnc3 hc3 HNF.out HD.out).mono ?_
        rintro e w5 ⟨rfl, F5, hd5, ho5, hg5⟩
        have K5 := ho5.keep HK.out hxF
        have hb5 := HBL.out.trans (ho5.below hf HBL.out.size)
        generalize crI S L P L.length = SC at *
        obtain ⟨hrd, hsu, hask⟩ := readB_nil (S := SC) (k := q) (by omega)
        rw [HCR.out, HWAS.out] at hrd hsu
        have HRD5 := Lib.hid hrd
        have HSU5 := Lib.hid hsu
        have HAS5 := Lib.hid hask
        clear hrd hsu hask ho5 hg5
        generalize ((min L.length n3 : Nat) : Int) = mm at *
        go_wp2_with fail
        refine (D.read (q : Int) hd5).mono ?_
        rintro e w6 ⟨rfl, hb6⟩
        rw [HRD5.out, HAS5.out]
        have hd7 := D.below (D.below hd5 hb6) ((Below.refl _ _).alloc (Nat.le_refl _) (.cells (cel was).toArray 33))
        have K7 := blk_past (blk_keep K5 hb6) (.cells (cel was).toArray 33)
        have M7 := new1 w6 (cel was).toArray 33
        have hb7 := (hb5.trans (hb6.mono hb5.size)).alloc (hb5.trans (hb6.mono hb5.size)).size (.cells (cel was).toArray 33)
        clear hd5 hb6 K5 hb5
        go_wp2_with (first | (refine wpList_val rfl (exec_alloc rfl) ?_) | (refine wpList_nul rfl (exec_fill rfl rfl rfl) ?_) | fail)
        generalize hy7 : w6.heap.size = y7 at *
        generalize w6.alloc (.cells (cel was).toArray 33) = w7 at *
        clear hy7
        refine (D.sure (q : Int) hd7).mono ?_
        rintro e w8 ⟨rfl, hb8⟩
        rw [HSU5.out, HAS5.out]
        have hd9 := D.below (D.below hd7 hb8) ((Below.refl _ _).alloc (Nat.le_refl _) (.cells (cel was).toArray 33))
        have K9 := blk_past (blk_keep K7 hb8) (.cells (cel was).toArray 33)
        have M9 := blk_past (blk_keep M7 hb8) (.cells (cel was).toArray 33)
        have N9 := new1 w8 (cel was).toArray 33
        have hb9 := (hb7.trans (hb8.mono hb7.size)).alloc (hb7.trans (hb8.mono hb7.size)).size (.cells (cel was).toArray 33)
        have HK9 := Lib.hid (blk_range K9)
        have HM9 := Lib.hid (blk_range M9)
        have HN9 := Lib.hid (blk_range N9)
        clear hd7 hb8 K7 M7 hb7 K9 M9 N9
        go_wp2_with (first | (refine wpList_val rfl (exec_alloc rfl) ?_) | (refine wpList_nul rfl (exec_fill rfl rfl rfl) ?_) | (refine wpList_val rfl (exec_load rfl rfl HK9.out) ?_) | (refine wpList_val rfl (exec_load rfl rfl HM9.out) ?_) | (refine wpList_val rfl (exec_load rfl rfl HN9.out) ?_) | (refine wpList_val rfl (exec_eql rfl rfl rfl) ?_) | fail)
        refine (D.loose hd9).mono ?_
        rintro e w10 ⟨rfl, hb10⟩
        have HB10 := Lib.hid (hb9.trans (hb10.mono hb9.size))
        clear hb9 hb10 hd9
        go_wp2_with fail
        refine (lives_yes D w10).mono ?_
        rintro e w11 ⟨rfl, hb11⟩
        go_wp2_with fail
        go_ret
        exact ⟨by simp, HB10.out.trans (hb11.mono HB10.out.size)⟩
end Go.Proofs.Ytokdmcikoaagmaa
