/-
  The document's seal: Put.
-/
import Derived.Test.YtiandcigoflcmaaDoorSrd
namespace Go.Proofs.YtiandcigoflcmaaDoor
open Go.RowKit
set_option linter.unusedVariables false
set_option maxRecDepth 100000

set_option maxHeartbeats 1000000 in
theorem rsput_arg (m c : Nat) (A : Option Addr) (b : List UInt8) (w : World) :
    Calls Tryd.prog 18 #[.int .u64 0, .slice A m c] w fun e w' => e = .returned (.tuple #[blk (putB 0 b), .int .i64 (putE 0 b : Nat)]) ∧ Below w.heap.size w w' := by
  have hA := (Below.refl w.heap.size w).alloc (Nat.le_refl _) (.cells (cel zeroB).toArray 27)
  have HT := Lib.hid (there_new w zeroB 27)
  have HA := Lib.hid hA
  clear hA
  rw [show putB 0 b = zeroB from rfl, show putE 0 b = 2 from rfl]
  go_enter Tryd.func18, Tryd.ntmps18
  go_wp2_with (first | (refine wpList_val rfl (exec_alloc rfl) ?_) | (refine wpList_val rfl (exec_build (c := zeroB) (parts := []) rfl rfl) ?_) | (refine wpList_nul rfl (exec_store rfl rfl rfl HT.out) ?_))
  refine bodyPost_ret (res_blk2 rfl _ _ _ rfl (World.rangeAt_setCells_same _ _ _ _ (by rw [cel_length]; exact HT.out))) rfl ⟨rfl, below_setCells HA.out (Nat.le_refl _) _⟩
set_option maxHeartbeats 1000000 in
theorem rsput_long (n m c : Nat) (A : Option Addr) (b : List UInt8) (w : World) (hb : b.length = m) (h0 : 0 < n) (hm : 44 < m) (hm2 : m ≤ maxLen) :
    Calls Tryd.prog 18 #[.int .u64 n, .slice A m c] w fun e w' => e = .returned (.tuple #[blk (putB n b), .int .i64 (putE n b : Nat)]) ∧ Below w.heap.size w w' := by
  have hA := (Below.refl w.heap.size w).alloc (Nat.le_refl _) (.cells (cel zeroB).toArray 27)
  have HT := Lib.hid (there_new w zeroB 27)
  have HA := Lib.hid hA
  have hE : putE n b = 3 := by unfold putE; rw [if_neg (by omega), if_pos (by omega)]
  have hB : putB n b = zeroB := by unfold putB; rw [hE]; rfl
  rw [hE, hB]
  unfold maxLen at hm2
  clear hA hE hB hb
  have hz : ((n : Int) == 0) = false := by simp; omega
  go_enter Tryd.func18, Tryd.ntmps18
  go_wp2_with (first | (refine wpList_val rfl (exec_alloc rfl) ?_) | (refine wpList_val rfl (exec_build (c := zeroB) (parts := []) rfl rfl) ?_) | (refine wpList_nul rfl (exec_store rfl rfl rfl HT.out) ?_))
  refine bodyPost_ret (res_blk2 rfl _ _ _ rfl (World.rangeAt_setCells_same _ _ _ _ (by rw [cel_length]; exact HT.out))) rfl ⟨rfl, below_setCells HA.out (Nat.le_refl _) _⟩

/-- The document's Put of a number that has the size. -/
theorem rput_ok (n k B : Nat) (w : World) (HB : Hid (B = w.heap.size)) (hn : n < 18446744073709551616) (h1 : 1 ≤ k) (h2 : k ≤ 8) (hk : n < 2 ^ (8 * k)) :
    Calls Tryd.prog 21 #[.int .u64 n, .int .i64 k] w fun e w' => ∃ v, e = .returned (.tuple #[v, .int .i64 0]) ∧ Made w' B v (digL 8 k n) ∧ Below B w w' :=
  (rput_any n k B w HB hn h1 h2).mono fun e w' ⟨⟨hy, _⟩, hb⟩ => by
    obtain ⟨v, he, hm⟩ := hy hk
    exact ⟨v, he, hm, hb⟩
/-- A row as the document pads it. -/
def padK (n : Nat) (b : List UInt8) (k : Nat) : List UInt8 := digL 8 8 n ++ b ++ List.replicate k 0
theorem padK_length (n : Nat) (b : List UInt8) (k : Nat) : (padK n b k).length = 8 + b.length + k := by simp [padK, length_digL]; omega
theorem padK_zero (n : Nat) (b : List UInt8) : padK n b 0 = digL 8 8 n ++ b := by simp [padK]
theorem padK_succ (n : Nat) (b : List UInt8) (k : Nat) : padK n b k ++ [0] = padK n b (k + 1) := by simp [padK, List.replicate_succ']
theorem padK_head (n : Nat) (b : List UInt8) (k : Nat) (h : 8 + b.length + k = 52) : padK n b k = headL n b := by
  unfold padK headL padL
  rw [show 44 - b.length = k from by omega, List.append_assoc]

def lenV : Value → Nat
  | .slice _ n _ => n
  | _ => 0
/-- What the document's Put has laid by then: a row that is padded. -/
def PadAt (n m : Nat) (b : List UInt8) (B : Nat) (w1 : World) (v : Value) (wr : World) : Prop := ∃ k : Nat, 8 + m + k ≤ 52 ∧ Made wr B v (padK n b k) ∧ Below B w1 wr
theorem rd_zero (w : World) : Rd (w.alloc (.cells #[.int .u8 0] 5)) (w.heap.size + 1) (some ⟨w.heap.size, 0, none⟩) 1 [0] := rd_new w [0] #[.int .u8 0] rfl
set_option maxHeartbeats 4000000 in
theorem rsput_yes (n m c N : Nat) (A : Option Addr) (b : List UInt8) (w : World) (hn : n < 18446744073709551616) (h0 : 0 < n) (hb : Rd w N A m b) (hN : N ≤ w.heap.size) (hm : m ≤ 44) :
    Calls Tryd.prog 18 #[.int .u64 n, .slice A m c] w fun e w' => e = .returned (.tuple #[blk (putB n b), .int .i64 (putE n b : Nat)]) ∧ Below w.heap.size w w' := by
  have hl := hb.1
  have hbl : b.length ≤ 44 := by omega
  have hE : putE n b = 0 := putE_ok (by omega) hbl
  have hB : putB n b = ofL (sealL n b) := putB_ok hE
  rw [hE, hB]
  have hA := (Below.refl w.heap.size w).alloc (Nat.le_refl _) (.cells (cel zeroB).toArray 27)
  have HA := Lib.hid hA
  have HR := Lib.hid (hb.below (hA.mono hN))
  have HRES := Lib.hid (RowL.blk w zeroB 27)
  have HLB := Lib.hid hl
  have HN := Lib.hid hn
  have HNN := Lib.hid hN
  have HL64 := Lib.hid (sealL_length n hbl)
  have HH52 := Lib.hid (headL_length n hbl)
  have HC := Lib.hid (more_lt (s := 0) (by omega) (headL n b))
  clear hl hbl hE hB hA hn hb hN
  have hz : ((n : Int) == 0) = false := by simp; omega
  go_enter Tryd.func18, Tryd.ntmps18
  go_wp2_with (first | (refine wpList_val rfl (exec_alloc rfl) ?_) | fail)
  have hn := HN.out
  refine (rput_ok n 8 _ _ (Lib.hid rfl) hn (by omega) (by omega) hn).mono ?_
  rintro e w1 ⟨v1, rfl, hm1, hb1⟩
  obtain ⟨A1, c1, rfl, hr1, hcc1, hcc2⟩ := hm1.open_ (length_digL 8 8 n)
  clear hn hm1 hcc1 hcc2
  have hs1 := hb1.size
  have HRES1 := Lib.hid (RowL.below HRES.out (by simp only [World.size_alloc]; omega) hb1)
  have HR1 := Lib.hid (HR.out.below (hb1.mono (by have := HNN.out; simp only [World.size_alloc]; omega)))
  have HB1 := Lib.hid (HA.out.trans (hb1.mono (by simp only [World.size_alloc]; omega)))
  have HD1 := Lib.hid hr1
  have HS1 : Hid (w.heap.size + 1 ≤ w1.heap.size) := Lib.hid (by simpa only [World.size_alloc] using hs1)
  clear hr1 hb1 hs1 HR HRES HA
  obtain ⟨r, hr⟩ : ∃ r, w.heap.size = r := ⟨_, rfl⟩
  have HRR := Lib.hid hr
  rw [hr] at HRES1 HS1 HNN
  rw [hr]
  clear hr
  go_wp2_with fail
  obtain ⟨B, hB⟩ : ∃ B, B = w1.heap.size := ⟨_, rfl⟩
  have HB := Lib.hid hB
  rw [← hB] at HD1 HS1
  clear hB
  refine (copy_any A1 8 c1 B B (digL 8 8 n) _ HB HD1.out (Nat.le_refl _) (by omega)).mono ?_
  rintro e w2 ⟨v2, rfl, hm2, hb2⟩
  have hR2 := HR1.out.below (hb2.mono (by have := HNN.out; have := HS1.out; omega))
  have HBle := Lib.hid (show B ≤ w2.heap.size from Nat.le_trans (Nat.le_of_eq HB.out) hb2.size)
  go_wp2_with (at_builtin; refine wpList_app rfl _ _ rfl B N m c _ (digL 8 8 n) b A rfl rfl hm2 hR2 HBle.out ?c1 ?_)
  case c1 => rw [length_digL]; omega
  intro v3 w3 hm3 hg3
  have hb3 : Below B w1 w3 := hb2.grown hg3 HBle.out (fun k hk => (hm2.lt k hk).1)
  rw [← padK_zero] at hm3
  have HM3 := Lib.hid hm3
  have HB3 := Lib.hid hb3
  clear hm2 hb2 hR2 hm3 hg3 hb3 HBle
  go_wp2
  go_loopw [8] (fun v wr => PadAt n m b B w1 v wr) (fun v _ => 52 - lenV v)
  case atStart => exact ⟨0, by omega, HM3.out, HB3.out⟩
  case round =>
    obtain ⟨k, hk, hmr, hbr⟩ := hrel
    obtain ⟨A', c', rfl, hr', hc1, hc2⟩ := hmr.open_ (n := 8 + m + k) (by rw [padK_length, HLB.out])
    unfold maxLen at hc2
    have hBr : B ≤ wr.heap.size := Nat.le_trans (Nat.le_of_eq HB.out) hbr.size
    have HMR := Lib.hid hmr
    have HBR := Lib.hid hbr
    have HRR' := Lib.hid hr'
    by_cases hlt : 8 + m + k < 52
    · have hma := hmr.below ((Below.refl wr.heap.size wr).alloc (Nat.le_refl _) (.cells #[.int .u8 0] 5))
      have hba : Below B w1 (wr.alloc (.cells #[.int .u8 0] 5)) := hbr.alloc hBr _
      have hra := rd_zero wr
      clear hmr hbr hr'
      go_wp2_with (at_builtin; refine wpList_app rfl _ _ rfl B _ 1 1 _ (padK n b k) [0] _ rfl rfl hma hra ?c2 ?c3 ?_)
      case c2 => simp only [World.size_alloc]; omega
      case c3 => rw [padK_length, HLB.out]; omega
      intro v4 w4 hm4 hg4
      rw [padK_succ] at hm4
      have HM4 := Lib.hid hm4
      have HB4 := Lib.hid (hba.grown hg4 (by simp only [World.size_alloc]; omega) (fun k hk => (hma.lt k hk).1))
      obtain ⟨A5, c5, rfl, _, _, _⟩ := hm4.open_ (n := 8 + m + (k + 1)) (by rw [padK_length, HLB.out])
      clear hm4 hg4 hma hba hra
      go_wp2
      go_roundw
      case rel => exact ⟨k + 1, by omega, HM4.out, HB4.out⟩
      case measure => simp [lenV]; omega
    · have hk52 : 8 + m + k = 52 := by omega
      have HPK := Lib.hid (padK_head n b k (by rw [HLB.out]; exact hk52))
      rw [hk52] at HMR HRR' hc1 ⊢
      rw [HPK.out] at HMR HRR'
      clear hmr hbr hr' hlt hk hk52 HPK
      go_wp2_with fail
      refine (refOf_any A' 52 c' _ (headL n b) _ HRR'.out (by unfold maxLen; omega)).mono ?_
      rintro e w5 ⟨rfl, rfl⟩
      obtain ⟨s, hs⟩ : ∃ s, more 0 (headL n b) = s := ⟨_, rfl⟩
      have hs32 := HC.out
      rw [hs] at hs32 ⊢
      have HSS := Lib.hid hs
      clear hs
      go_wp2_with fail
      refine (rput_ok s 4 _ _ (Lib.hid rfl) (by omega) (by omega) (by omega) (by omega)).mono ?_
      rintro e w5 ⟨v5, rfl, hm5, hb5⟩
      obtain ⟨A5, c5, rfl, hr5, hcc1, hcc2⟩ := hm5.open_ (length_digL 8 4 s)
      have hmr5 := HMR.out.below hb5
      have hbr5 : Below B w1 w5 := HBR.out.trans (hb5.mono hBr)
      have hB5 : B ≤ w5.heap.size := Nat.le_trans hBr hb5.size
      clear hm5 hb5 hcc1 hcc2 hs32
      go_wp2_with (at_builtin; refine wpList_app rfl _ _ rfl B _ 4 c5 _ (headL n b) (digL 8 4 s) A5 rfl rfl hmr5 hr5 hB5 ?c4 ?_)
      case c4 => rw [HH52.out]; omega
      intro v6 w6 hm6 hg6
      have HM6 := Lib.hid hm6
      have HB6 := Lib.hid (hbr5.grown hg6 hB5 (fun k hk => (hmr5.lt k hk).1))
      clear hmr5 hbr5 hm6 hg6 hr5
      have hB6 : B ≤ w6.heap.size := Nat.le_trans (Nat.le_of_eq HB.out) HB6.out.size
      have hm6 := HM6.out
      have hr6 := HD1.out.below HB6.out
      go_wp2_with (at_builtin; refine wpList_app rfl _ _ rfl B B 8 c1 _ (headL n b ++ digL 8 4 s) (digL 8 8 n) A1 rfl rfl hm6 hr6 hB6 ?c5 ?_)
      case c5 => rw [List.length_append, HH52.out, length_digL]; omega
      intro v7 w7 hm7 hg7
      have hseal : headL n b ++ (digL 8 4 s ++ digL 8 8 n) = sealL n b := by rw [← HSS.out]; rfl
      rw [hseal] at hm7
      obtain ⟨q, c7, rfl, hq7, hc71, hc72⟩ := hm7.some (by rw [HL64.out]; omega)
      rw [HL64.out] at hm7 hc71 ⊢
      unfold maxLen at hc72
      have hrd7 := hm7.rd
      have HB7 := Lib.hid (HB6.out.grown hg7 hB6 (fun k hk => (hm6.lt k hk).1))
      have HRD7 := Lib.hid hrd7
      clear hm7 hg7 hm6 hr6 hseal hrd7 HM6 HB6 HMR HRR' HBR
      have hO := row_new w7 zeroB 27
      have hb8 := (Below.refl w7.heap.size w7).alloc (Nat.le_refl _) (.cells (cel zeroB).toArray 27)
      go_wp2_with (first | (refine wpList_val rfl (exec_alloc rfl) ?_) | fail)
      generalize hg2 : w7.heap.size = g2 at *
      have HG2 := Lib.hid hg2
      have HB8 := Lib.hid hb8
      have HO := Lib.hid hO
      clear hg2 hb8 hO
      go_loopw [12] (fun i wr => ∃ (j : Nat) (f : Nat → Int), j ≤ 64 ∧ i = .int .i64 j ∧ wr.rowIs g2 27 64 (fun j => .int .u8 (f j)) ∧ (∀ m, m < j → f m = bt (sealL n b) m) ∧ Below g2 w7 wr) (fun i _ => 64 - (intOf i).toNat)
      case atStart => exact ⟨0, byt zeroB, by omega, rfl, HO.out, fun m hm => absurd hm (by omega), HB8.out⟩
      case round =>
        clear HO HB8
        obtain ⟨j, f, hj, rfl, hrow, hf, hbl⟩ := hrel
        have HF := Lib.hid hf
        clear hf
        by_cases hlt : j < 64
        · have hc1 := hrow.cell (i := j) (by omega)
          have hfr := hrow.frozen j
          have hrd := (HRD7.out.below hbl).2 j hlt
          obtain ⟨bA, oA, hA1, hA2, hA3⟩ := hrd
          injection hA1 with hA1
          injection hA1 with e1 e2
          subst e1 e2
          rw [Nat.zero_add] at hA3
          go_wp2_with fail
          go_roundw
          case rel =>
            refine ⟨j + 1, upd f j (bt (sealL n b) j), by omega, by go_num, row_put hrow _, ?_, hbl.setCell (by simp) _⟩
            intro m hm
            by_cases e : m = j
            · subst e; exact upd_at _ _ _
            · rw [upd_off _ _ e]; exact HF.out m (by omega)
          case measure => simp [intOf]; omega
        · have hj64 : j = 64 := by omega
          subst hj64
          have hr := range_row (c := ofL (sealL n b)) (o := 0) hrow (by omega) (fun m hm => by rw [Nat.zero_add, HF.out m hm, ofL_byt _ hm])
          have HR2 := Lib.hid hr
          have hBX : Below B w1 wr := HB7.out.trans (hbl.mono (by rw [← HG2.out]; exact Nat.le_trans (Nat.le_of_eq HB.out) HB7.out.size))
          have HRX := HRES1.out.below (by have := HS1.out; omega) hBX
          have HTH : Hid (wr.there r 0 64) := Lib.hid (there_row HRX.row (by simp))
          have HBB : Hid (Below w.heap.size w wr) := Lib.hid (HB1.out.trans (hBX.mono (by rw [HRR.out]; have := HS1.out; omega)))
          clear hr hbl hrow hBX HRX
          go_wp2_with (first | (refine wpList_val rfl (exec_load rfl rfl HR2.out) ?_) | (refine wpList_nul rfl (exec_store rfl rfl rfl HTH.out) ?_) | fail)
          refine bodyPost_ret (res_blk2 rfl _ _ _ rfl (World.rangeAt_setCells_same _ _ _ _ (by rw [cel_length]; exact HTH.out))) rfl ⟨rfl, below_setCells HBB.out (Nat.le_of_eq HRR.out) _⟩

/-- The document's Put, whatever it is given. -/
theorem rsput_all (n m c N : Nat) (A : Option Addr) (b : List UInt8) (w : World) (hn : n < 18446744073709551616) (hb : Rd w N A m b) (hN : N ≤ w.heap.size) (hm : m ≤ maxLen) :
    Calls Tryd.prog 18 #[.int .u64 n, .slice A m c] w fun e w' => e = .returned (.tuple #[blk (putB n b), .int .i64 (putE n b : Nat)]) ∧ Below w.heap.size w w' := by
  by_cases h0 : n = 0
  · subst h0
    exact rsput_arg m c A b w
  · by_cases h44 : m ≤ 44
    · exact rsput_yes n m c N A b w hn (by omega) hb hN h44
    · exact rsput_long n m c A b w hb.1 (by omega) (by omega) hm
end Go.Proofs.YtiandcigoflcmaaDoor
