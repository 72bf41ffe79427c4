/-
  BenchPlace's walk.
-/
import Derived.Test.YtpcdcnnnkblhiaaMJ
import Derived.Deep.DeepCutAuto
namespace Go.Proofs.Ytpcdcnnnkblhiaa
open Go.RowKit
set_option linter.unusedVariables false
set_option maxRecDepth 100000

def Zs : List Blk := List.replicate 8 zeroB
theorem Zs_len : Zs.length = 8 := by unfold Zs; simp
/-- On the first i devices x was written to sector q, and is sure. -/
structure Placed (q : Nat) (x : Blk) (i : Nat) (M : BenS) : Prop where
  len : M.ds.length = 3
  at_ : ∀ j, j < 3 → M.ds.getD j dev0 = ⟨if j < i then Zs.set q x else Zs, [], false⟩
  dark : M.dark = false
  left : M.left = 0
  steps : M.steps = 2 * i
theorem placed_zero (q : Nat) (x : Blk) : Placed q x 0 sm0 := by
  refine ⟨rfl, fun j hj => ?_, rfl, rfl, rfl⟩
  match j, hj with
  | 0, _ => rfl
  | 1, _ => rfl
  | 2, _ => rfl
theorem bput_at {M : BenS} {i : Nat} {d : DevS} (hi : i < M.ds.length) : (M.put i d).ds.getD i dev0 = d := getD_set_at hi
theorem bput_off {M : BenS} {i j : Nat} {d : DevS} (h : j ≠ i) : (M.put i d).ds.getD j dev0 = M.ds.getD j dev0 := getD_set_off h
theorem zs_ask {S : List Blk} {q : Nat} (hS : S.length = 8) (hq : q < 8) : askE S false (q : Int) = 0 := askE_ok (by omega)
theorem placed_wr {q : Nat} {x : Blk} {i : Nat} {M : BenS} (h : Placed q x i M) (hi : i < 3) (hq : q < 8) : wrE6 M (i : Int) (q : Int) = 0 ∧ wrS6 M (i : Int) (q : Int) x = M.done.put i ⟨Zs, [((q : Int), x)], false⟩ := by
  have hat := h.at_ i hi
  rw [if_neg (by omega)] at hat
  have hd : M.dev (i : Int) = ⟨Zs, [], false⟩ := hat
  have ha := zs_ask Zs_len hq
  have hr : rdE6 M (i : Int) (q : Int) = 0 := by unfold rdE6; rw [if_pos (litE_ok h.dark (by rw [h.len]; exact hi)), hd]; exact ha
  have hl : M.left ≠ 1 := by rw [h.left]; decide
  refine ⟨by unfold wrE6; rw [if_pos hr]; unfold BenS.stepE; rw [if_neg hl], ?_⟩
  unfold wrS6
  rw [if_pos hr, if_neg hl, hd]
  show M.done.put i ⟨Zs, wrL Zs [] false (q : Int) x, false⟩ = _
  unfold wrL
  rw [if_pos ha]
  rfl
theorem placed_step {q : Nat} {x : Blk} {i : Nat} {M : BenS} (h : Placed q x i M) (hi : i < 3) (hq : q < 8) : flE6 (wrS6 M (i : Int) (q : Int) x) (i : Int) = 0 ∧ Placed q x (i + 1) (flS6 (wrS6 M (i : Int) (q : Int) x) (i : Int)) := by
  rw [(placed_wr h hi hq).2]
  obtain ⟨M1, hM1⟩ : ∃ M1, M.done.put i ⟨Zs, [((q : Int), x)], false⟩ = M1 := ⟨_, rfl⟩
  rw [hM1]
  have hl1 : M1.ds.length = 3 := by rw [← hM1, BenS.put_len]; exact h.len
  have hdk : M1.dark = false := by rw [← hM1]; exact h.dark
  have hlf : M1.left = 0 := by rw [← hM1]; show M.left - 1 = 0; rw [h.left]
  have hst : M1.steps = 2 * i + 1 := by rw [← hM1]; show M.steps + 1 = _; rw [h.steps]
  have hd : M1.dev (i : Int) = ⟨Zs, [((q : Int), x)], false⟩ := by rw [← hM1]; exact bput_at (by show i < M.ds.length; rw [h.len]; exact hi)
  have hoff : ∀ j, j < 3 → j ≠ i → M1.ds.getD j dev0 = ⟨if j < i then Zs.set q x else Zs, [], false⟩ := fun j hj hji => by
    rw [← hM1, bput_off hji]; exact h.at_ j hj
  clear hM1
  have hf : flA6 M1 (i : Int) = 0 := by unfold flA6; rw [if_pos (litE_ok hdk (by rw [hl1]; exact hi)), hd, if_neg Bool.false_ne_true]
  have hl : M1.left ≠ 1 := by rw [hlf]; decide
  refine ⟨by unfold flE6; rw [if_pos hf]; unfold BenS.stepE; rw [if_neg hl], ?_⟩
  have e : flS6 M1 (i : Int) = M1.done.put i ⟨Zs.set q x, [], false⟩ := by
    unfold flS6
    rw [if_pos hf, if_neg hl, hd]
    rfl
  rw [e]
  refine ⟨by rw [BenS.put_len]; exact hl1, fun j hj => ?_, hdk, by show M1.left - 1 = 0; omega, by show M1.steps + 1 = _; omega⟩
  by_cases hji : j = i
  · subst hji
    rw [bput_at (by show j < M1.ds.length; omega), if_pos (by omega)]
  · rw [bput_off hji]
    show M1.ds.getD j dev0 = _
    rw [hoff j hj hji]
    by_cases hlt : j < i
    · rw [if_pos hlt, if_pos (by omega)]
    · rw [if_neg hlt, if_neg (by omega)]
/-- The k-th one is dead. -/
structure DeadAt (q : Nat) (x : Blk) (k : Nat) (M : BenS) : Prop where
  len : M.ds.length = 3
  at_ : ∀ j, j < 3 → M.ds.getD j dev0 = if j = k then ⟨Zs.set q x, [], true⟩ else ⟨Zs.set q x, [], false⟩
  dark : M.dark = false
  steps : M.steps = 6
theorem dead_of {q : Nat} {x : Blk} {k : Nat} {M : BenS} (h : Placed q x 3 M) (hk : k < 3) : hasE M (k : Int) = 0 ∧ DeadAt q x k (faS6 M (k : Int)) := by
  have hh : hasE M (k : Int) = 0 := hasE_ok (by rw [h.len]; exact hk)
  have hd : M.dev (k : Int) = ⟨Zs.set q x, [], false⟩ := by
    have := h.at_ k hk
    rwa [if_pos hk] at this
  refine ⟨hh, ?_⟩
  have e : faS6 M (k : Int) = M.put k ⟨Zs.set q x, [], true⟩ := by unfold faS6; rw [if_pos hh, hd]; rfl
  rw [e]
  refine ⟨by rw [BenS.put_len]; exact h.len, fun j hj => ?_, h.dark, h.steps⟩
  by_cases hjk : j = k
  · subst hjk; rw [bput_at (by rw [h.len]; exact hj), if_pos rfl]
  · rw [bput_off hjk, h.at_ j hj, if_pos hj, if_neg hjk]
theorem dead_facts {q : Nat} {x : Blk} {k : Nat} {M : BenS} (h : DeadAt q x k M) (hk : k < 3) (hq : q < 8) :
    deG6 M (k : Int) = true ∧ rdE6 M (k : Int) (q : Int) = 9 ∧ rdB6 M (k : Int) (q : Int) = zeroB ∧ wrE6 M (k : Int) (q : Int) = 9 ∧ wrS6 M (k : Int) (q : Int) x = M ∧ flE6 M (k : Int) = 9 ∧ flS6 M (k : Int) = M ∧ inE6 M (k : Int) = 0 := by
  have hh : hasE M (k : Int) = 0 := hasE_ok (by rw [h.len]; exact hk)
  have hl : litE M (k : Int) = 0 := litE_ok h.dark (by rw [h.len]; exact hk)
  have hd : M.dev (k : Int) = ⟨Zs.set q x, [], true⟩ := by
    have := h.at_ k hk
    rwa [if_pos rfl] at this
  have ha : askE (Zs.set q x) true (q : Int) = 9 := askE_dead (by rw [List.length_set, Zs_len]; omega)
  have hr : rdE6 M (k : Int) (q : Int) = 9 := by unfold rdE6; rw [if_pos hl, hd]; exact ha
  have hf : flA6 M (k : Int) = 9 := by unfold flA6; rw [if_pos hl, hd, if_pos rfl]
  refine ⟨by unfold deG6; rw [if_pos hh, hd], hr, ?_, by unfold wrE6; rw [if_neg (by rw [hr]; decide), hr], by unfold wrS6; rw [if_neg (by rw [hr]; decide)], by unfold flE6; rw [if_neg (by rw [hf]; decide), hf], by unfold flS6; rw [if_neg (by rw [hf]; decide)], by unfold inE6; rw [if_pos hl, hd, if_pos rfl]⟩
  unfold rdB6
  rw [if_pos hl, hd]
  exact readB_no (by rw [ha]; decide)
/-- Behind Insert. -/
structure Anew (q : Nat) (x : Blk) (k : Nat) (M : BenS) : Prop where
  len : M.ds.length = 3
  at_ : ∀ j, j < 3 → M.ds.getD j dev0 = ⟨if j = k then Zs else Zs.set q x, [], false⟩
  dark : M.dark = false
theorem anew_of {q : Nat} {x : Blk} {k : Nat} {M : BenS} (h : DeadAt q x k M) (hk : k < 3) (hq : q < 8) : Anew q x k (inS6 M (k : Int)) := by
  have hd : M.dev (k : Int) = ⟨Zs.set q x, [], true⟩ := by
    have := h.at_ k hk
    rwa [if_pos rfl] at this
  have e : inS6 M (k : Int) = M.put k ⟨Zs, [], false⟩ := by
    unfold inS6
    rw [if_pos (dead_facts h hk hq).2.2.2.2.2.2.2, hd]
    show M.put k ⟨List.replicate (Zs.set q x).length zeroB, [], false⟩ = _
    rw [List.length_set, Zs_len]; rfl
  rw [e]
  refine ⟨by rw [BenS.put_len]; exact h.len, fun j hj => ?_, h.dark⟩
  by_cases hjk : j = k
  · subst hjk; rw [bput_at (by rw [h.len]; exact hj), if_pos rfl]
  · rw [bput_off hjk, h.at_ j hj, if_neg hjk, if_neg hjk]
theorem anew_facts {q : Nat} {x : Blk} {k : Nat} {M : BenS} (h : Anew q x k M) (hk : k < 3) (hq : q < 8) : deG6 M (k : Int) = false ∧ seN6 M (k : Int) = 8 ∧ inE6 M (k : Int) = 17 := by
  have hh : hasE M (k : Int) = 0 := hasE_ok (by rw [h.len]; exact hk)
  have hl : litE M (k : Int) = 0 := litE_ok h.dark (by rw [h.len]; exact hk)
  have hd : M.dev (k : Int) = ⟨Zs, [], false⟩ := by
    have := h.at_ k hk
    rwa [if_pos rfl] at this
  exact ⟨by unfold deG6; rw [if_pos hh, hd], by unfold seN6; rw [if_pos hh, hd]; show (Zs.length : Int) = 8; rw [Zs_len]; rfl, by unfold inE6; rw [if_pos hl, hd, if_neg (by decide)]⟩
theorem anew_read {q : Nat} {x : Blk} {k : Nat} {M : BenS} (h : Anew q x k M) (hq : q < 8) {j : Nat} (hj : j < 3) : rdE6 M (j : Int) (q : Int) = 0 ∧ rdB6 M (j : Int) (q : Int) = if j = k then zeroB else x := by
  have hl : litE M (j : Int) = 0 := litE_ok h.dark (by rw [h.len]; exact hj)
  have hd : M.dev (j : Int) = ⟨if j = k then Zs else Zs.set q x, [], false⟩ := h.at_ j hj
  have hlen : (if j = k then Zs else Zs.set q x).length = 8 := by split <;> simp [Zs_len]
  have ha := zs_ask hlen hq
  refine ⟨by unfold rdE6; rw [if_pos hl, hd]; exact ha, ?_⟩
  unfold rdB6
  rw [if_pos hl, hd]
  show readB _ [] false (q : Int) = _
  rw [readB_ok ha]
  show (if j = k then Zs else Zs.set q x).getD q zeroB = _
  split
  · unfold Zs; rw [List.getD, List.getElem?_replicate, if_pos hq]; rfl
  · rw [getD_set_at (by rw [Zs_len]; exact hq)]
set_option maxHeartbeats 8000000 in
theorem place6 (P : BenP) {a n : Nat} {x : Blk} {w : World} (ha : a < 256) (hn : n < 256) :
    Calls Try.prog 6 #[.int .u8 (a : Int), blk x, .int .u8 (n : Int)] w fun e w' => e = .returned (.bool true) ∧ Below w.heap.size w w' := by
  obtain ⟨k, hk⟩ : ∃ k : Nat, a % 3 = k := ⟨_, rfl⟩
  obtain ⟨q, hq⟩ : ∃ q : Nat, n % 8 = q := ⟨_, rfl⟩
  have hk3 : k < 3 := by omega
  have hq8 : q < 8 := by omega
  have hke : (a : Int) % 3 = (k : Int) := by omega
  have hqe : (n : Int) % 8 = (q : Int) := by omega
  clear hk hq
  have hA := (Below.refl w.heap.size w).alloc (Nat.le_refl _) (.cells (cel x).toArray 34)
  have HA := Lib.hid hA
  have HK := Lib.hid (new1 w (cel x).toArray 34)
  have HSZ := Lib.hid (World.size_alloc w (.cells (cel x).toArray 34))
  clear hA
  go_enter Try.func6, Try.ntmps6
  go_wp2_with (first | (refine wpList_val rfl (exec_box rfl rfl) ?_) | fail)
  generalize hy : w.heap.size = y at *
  generalize w.alloc (.cells (cel x).toArray 34) = wb at *
  have HX : ∀ w', Hid (Below wb.heap.size wb w') → Hid (w'.rangeAt y 0 (cel x)) := fun w' h => Lib.hid (blk_range (blk_keep HK.out h.out))
  have HXX := Lib.hid HX
  clear HX
  refine (small6 P wb).mono ?_
  rintro e w1 ⟨p, rfl, h1⟩
  have H1 := Lib.hid h1
  clear h1
  go_wp2_with fail
  simp only [hke, hqe]
  go_loopw [10] (fun i wr => ∃ (j : Nat) (M : BenS), j ≤ 3 ∧ i = .int .i64 j ∧ At P.toBen wb wb.heap.size wr p M ∧ Placed q x j M ∧ Room M (100 - 2 * j)) (fun i _ => 3 - (intOf i).toNat)
  case atStart => exact ⟨0, _, by omega, rfl, H1.out, placed_zero q x, room_new (by omega)⟩
  case round =>
    clear H1
    obtain ⟨j, M, hj, rfl, hat, hpl, hroom⟩ := hrel
    have HAT := Lib.hid hat
    have HPL := Lib.hid hpl
    have HRO := Lib.hid hroom
    clear hat hpl hroom
    by_cases hj3 : j < 3
    · have hlj : (j : Int) < 3 := by omega
      have HR1 := Lib.hid (show Room M 1 from ⟨by have := HRO.out.1; omega, HRO.out.2.1, fun d hd => by have := HRO.out.2.2 d hd; omega⟩)
      have HR2 := Lib.hid (room_wr (show Room M (98 - 2 * j + 1 + 1) from by have := HRO.out; rwa [show 100 - 2 * j = 98 - 2 * j + 1 + 1 from by omega] at this) (j : Int) (q : Int) x)
      have HR3 := Lib.hid (show Room (wrS6 M (j : Int) (q : Int) x) 1 from ⟨by have := HR2.out.1; omega, HR2.out.2.1, fun d hd => by have := HR2.out.2.2 d hd; omega⟩)
      have HXW := Lib.hid (HXX.out wr (Lib.hid HAT.out.bel)).out
      go_wp2_with (first | (refine wpList_val rfl (exec_load rfl rfl HXW.out) ?_) | fail)
      refine (At.write (j : Int) (q : Int) x HR1.out HAT.out).mono ?_
      rintro e w2 ⟨rfl, h2⟩
      rw [(placed_wr HPL.out hj3 hq8).1]
      have H2 := Lib.hid h2
      clear h2
      go_wp2_with fail
      refine (At.flush (j : Int) HR3.out H2.out).mono ?_
      rintro e w3 ⟨rfl, h3⟩
      rw [(placed_step HPL.out hj3 hq8).1]
      have H3 := Lib.hid h3
      clear h3
      go_wp2_with fail
      go_roundw
      case rel => exact ⟨j + 1, _, by omega, by go_num, H3.out, (placed_step HPL.out hj3 hq8).2, by rw [show 100 - 2 * (j + 1) = 98 - 2 * j from by omega]; exact room_fl HR2.out _⟩
      case measure => simp [intOf]; omega
    · have hlj : ¬((j : Int) < 3) := by omega
      obtain rfl : j = 3 := by omega
      obtain ⟨hE0, hDD⟩ := dead_of HPL.out hk3
      have HE0 := Lib.hid hE0
      have HDD := Lib.hid hDD
      have HF := Lib.hid (dead_facts hDD hk3 hq8)
      have HRD := Lib.hid (show Room (faS6 M (k : Int)) 1 from room_fa (⟨by have := HRO.out.1; omega, HRO.out.2.1, fun d hd => by have := HRO.out.2.2 d hd; omega⟩) _)
      clear hE0 hDD hj3
      go_wp2_with fail
      refine (At.fail (k : Int) HAT.out).mono ?_
      rintro e w2 ⟨rfl, h2⟩
      rw [HE0.out]
      have H2 := Lib.hid h2
      clear h2
      generalize faS6 M (k : Int) = MD at *
      go_wp2_with fail
      refine (At.dead (k : Int) H2.out).mono ?_
      rintro e w3 ⟨rfl, hb⟩
      rw [HF.out.1]
      have H3 := Lib.hid (H2.out.below hb)
      clear hb H2
      go_wp2_with fail
      refine (At.read (k : Int) (q : Int) H3.out).mono ?_
      rintro e w4 ⟨rfl, hb⟩
      rw [HF.out.2.1, HF.out.2.2.1]
      have H4 := Lib.hid ((H3.out.below hb).alloc (.cells (cel zeroB).toArray 34))
      clear hb H3
      go_wp2_with (first | (refine wpList_val rfl (exec_alloc rfl) ?_) | (refine wpList_nul rfl (exec_fill rfl rfl rfl) ?_) | fail)
      generalize w4.alloc (.cells (cel zeroB).toArray 34) = w5 at *
      refine (At.steps H4.out).mono ?_
      rintro e w6 ⟨rfl, hb⟩
      rw [HDD.out.steps]
      have H5 := Lib.hid (H4.out.below hb)
      clear hb H4
      have HXW := Lib.hid (HXX.out w6 (Lib.hid H5.out.bel)).out
      go_wp2_with (first | (refine wpList_val rfl (exec_load rfl rfl HXW.out) ?_) | fail)
      refine (At.write (k : Int) (q : Int) x HRD.out H5.out).mono ?_
      rintro e w7 ⟨rfl, h7⟩
      rw [HF.out.2.2.2.1]
      rw [HF.out.2.2.2.2.1] at h7
      have H7 := Lib.hid h7
      clear h7 H5 HXW
      go_wp2_with fail
      refine (At.flush (k : Int) HRD.out H7.out).mono ?_
      rintro e w8 ⟨rfl, h8⟩
      rw [HF.out.2.2.2.2.2.1]
      rw [HF.out.2.2.2.2.2.2.1] at h8
      have H8 := Lib.hid h8
      clear h8 H7
      go_wp2_with fail
      refine (At.steps H8.out).mono ?_
      rintro e w9 ⟨rfl, hb⟩
      rw [HDD.out.steps]
      have H9 := Lib.hid (H8.out.below hb)
      clear hb H8
      go_wp2_with fail
      refine (At.insert (k : Int) H9.out).mono ?_
      rintro e w10 ⟨rfl, h10⟩
      rw [HF.out.2.2.2.2.2.2.2]
      have H10 := Lib.hid h10
      have HAN := Lib.hid (anew_of HDD.out hk3 hq8)
      have HG := Lib.hid (anew_facts HAN.out hk3 hq8)
      clear h10 H9 HF HDD HRD
      generalize inS6 MD (k : Int) = MA at *
      go_wp2_with fail
      refine (At.dead (k : Int) H10.out).mono ?_
      rintro e w11 ⟨rfl, hb⟩
      rw [HG.out.1]
      have H11 := Lib.hid (H10.out.below hb)
      clear hb H10
      go_wp2_with fail
      refine (At.sectors (k : Int) H11.out).mono ?_
      rintro e w12 ⟨rfl, hb⟩
      rw [HG.out.2.1]
      have H12 := Lib.hid (H11.out.below hb)
      clear hb H11
      go_wp2_with fail
      go_loopw [14, 15, 16, 17] (fun i p15 p16 p17 wr => ∃ j : Nat, j ≤ 3 ∧ i = .int .i64 j ∧ At P.toBen wb wb.heap.size wr p MA) (fun i _ _ _ _ => 3 - (intOf i).toNat)
      case atStart => exact ⟨0, by omega, rfl, H12.out⟩
      case round =>
        clear H12
        obtain ⟨i, hi, rfl, hat⟩ := hrel
        have HAT := Lib.hid hat
        clear hat
        by_cases hi3 : i < 3
        · have hli : (i : Int) < 3 := by omega
          have hrd := anew_read HAN.out hq8 hi3
          have HRD := Lib.hid hrd
          clear hrd
          go_wp2_with fail
          refine (At.read (i : Int) (q : Int) HAT.out).mono ?_
          rintro e u1 ⟨rfl, hb⟩
          rw [HRD.out.1, HRD.out.2]
          have HA1 := Lib.hid (HAT.out.below hb)
          clear hb HAT
          by_cases hik : i = k
          · rw [if_pos hik]
            have HK1 := Lib.hid (new1 u1 (cel zeroB).toArray 34)
            have hA1 := HA1.out.alloc (.cells (cel zeroB).toArray 34)
            have HXW := Lib.hid (HXX.out _ (Lib.hid hA1.bel)).out
            have n2 := new2 u1 (.cells (cel zeroB).toArray 34) (cel x).toArray 34
            have n1 := blk_past HK1.out (.cells (cel x).toArray 34)
            have HT := Lib.hid (blk_there n2)
            have HR17 := Lib.hid (World.rangeAt_setCells_same ((u1.alloc (.cells (cel zeroB).toArray 34)).alloc (.cells (cel x).toArray 34)) (u1.heap.size + 1) 0 (cel zeroB) (by rw [cel_length]; exact HT.out))
            have HR15 := Lib.hid (blk_range ((blk_setCells (u1.heap.size + 1) (cel zeroB) 0 ((u1.alloc (.cells (cel zeroB).toArray 34)).alloc (.cells (cel x).toArray 34)) u1.heap.size (by omega)).trans n1))
            have HEND := Lib.hid (HA1.out.below (below_setCells (((Below.refl u1.heap.size u1).alloc (Nat.le_refl _) (.cells (cel zeroB).toArray 34)).alloc (by rw [World.size_alloc]; omega) (.cells (cel x).toArray 34)) (show u1.heap.size ≤ u1.heap.size + 1 by omega) (o := 0) (cel zeroB)))
            have hik2 : (i : Int) = (k : Int) := by omega
            clear n1 n2 hA1 hik
            go_upto_region 24 with (first | (refine wpList_valn rfl (exec_alloc rfl) ?_) | (refine wpList_nuln rfl (exec_fill rfl rfl rfl) ?_) | (refine wpList_valn rfl (exec_load (c := x) rfl rfl ?_) ?_; (with_reducible exact HXW.out)) | (refine wpList_valn rfl (exec_build (c := zeroB) (parts := []) rfl rfl) ?_) | (refine wpList_nuln rfl (exec_store rfl rfl rfl ?_) ?_; (with_reducible exact HT.out)) | fail)
            generalize ((u1.alloc (.cells (cel zeroB).toArray 34)).alloc (.cells (cel x).toArray 34)).setCells (u1.heap.size + 1) 0 (cel zeroB) = w13 at *
            go_wp2_with (first | (refine wpList_val rfl (exec_load rfl rfl HR15.out) ?_) | (refine wpList_val rfl (exec_load rfl rfl HR17.out) ?_) | (refine wpList_val rfl (exec_neq rfl rfl rfl) ?_) | fail)
            go_roundw
            case rel => exact ⟨i + 1, by omega, by go_num, HEND.out⟩
            case measure => simp [intOf]; omega
          · rw [if_neg hik]
            have HK1 := Lib.hid (new1 u1 (cel x).toArray 34)
            have hA1 := HA1.out.alloc (.cells (cel x).toArray 34)
            have HXW := Lib.hid (HXX.out _ (Lib.hid hA1.bel)).out
            have HR17 := Lib.hid (blk_range (new2 u1 (.cells (cel x).toArray 34) (cel x).toArray 34))
            have HR15 := Lib.hid (blk_range (blk_past HK1.out (.cells (cel x).toArray 34)))
            have HEND := Lib.hid (hA1.alloc (.cells (cel x).toArray 34))
            have hik2 : ¬((i : Int) = (k : Int)) := by omega
            clear hA1 hik
            go_upto_region 24 with (first | (refine wpList_valn rfl (exec_alloc rfl) ?_) | (refine wpList_nuln rfl (exec_fill rfl rfl rfl) ?_) | (refine wpList_valn rfl (exec_load (c := x) rfl rfl ?_) ?_; (with_reducible exact HXW.out)) | fail)
            generalize (u1.alloc (.cells (cel x).toArray 34)).alloc (.cells (cel x).toArray 34) = w13 at *
            go_wp2_with (first | (refine wpList_val rfl (exec_load rfl rfl HR15.out) ?_) | (refine wpList_val rfl (exec_load rfl rfl HR17.out) ?_) | (refine wpList_val rfl (exec_neq rfl rfl rfl) ?_) | fail)
            go_roundw
            case rel => exact ⟨i + 1, by omega, by go_num, HEND.out⟩
            case measure => simp [intOf]; omega
        · have hli : ¬((i : Int) < 3) := by omega
          go_wp2_with fail
          refine (At.insert (k : Int) HAT.out).mono ?_
          rintro e u1 ⟨rfl, h1⟩
          rw [HG.out.2.2]
          have HB1 := Lib.hid h1.bel
          clear h1
          go_wp2_with fail
          refine (lives6 P u1).mono ?_
          rintro e u2 ⟨rfl, hb⟩
          have HB2 := Lib.hid (HA.out.trans ((HB1.out.trans (hb.mono HB1.out.size)).mono (by rw [HSZ.out]; omega)))
          clear hb
          go_wp2_with fail
          go_ret
          exact ⟨rfl, by rw [hy]; exact HB2.out⟩
end Go.Proofs.Ytpcdcnnnkblhiaa
