import Derived.Test.YtnliphgjcaippaaGreatDoorHsai
import Derived.Test.YtnliphgjcaippaaGreatDoorHsae
import Derived.Laws.BitsAllLaws
import Derived.Laws.AppendOwn
import Derived.Test.YtnliphgjcaippaaGreatDoorHsZ
namespace Go.Proofs.YtnliphgjcaippaaGreatDoor
open Go.RowKit
set_option linter.unusedVariables false
set_option maxRecDepth 100000
set_option maxHeartbeats 1000000 in
theorem rsput_arg (m c : Nat) (A : Option Addr) (b : List UInt8) (w : World) :
    Calls Tryz.prog 97 #[.int .u64 0, .slice A m c] w fun e w' => e = .returned (.tuple #[blk (cX 0 b), .int .i64 (putE 0 b : Nat)]) ∧ Below w.heap.size w w' := by
  have hA := (Below.refl w.heap.size w).alloc (Nat.le_refl _) (.cells (cel au).toArray 58)
  have HT := Lib.hid (dj w au 58)
  have HA := Lib.hid hA
  clear hA
  rw [show cX 0 b = au from rfl, show putE 0 b = 2 from rfl]
  go_enter Tryz.func97, Tryz.ntmps97
  go_wp2_with (first | (refine ag rfl (aQ rfl) ?_) | (refine ag rfl (cn (c := au) (parts := []) rfl rfl) ?_) | (refine aN rfl (bj rfl rfl rfl HT.out) ?_))
  refine bodyPost_ret (bQ rfl _ _ _ rfl (World.rangeAt_setCells_same _ _ _ _ (by rw [az]; exact HT.out))) rfl ⟨rfl, below_setCells HA.out (Nat.le_refl _) _⟩
set_option maxHeartbeats 1000000 in
theorem rsput_long (n m c : Nat) (A : Option Addr) (b : List UInt8) (w : World) (hb : b.length = m) (h0 : 0 < n) (hm : 44 < m) (hm2 : m ≤ maxLen) :
    Calls Tryz.prog 97 #[.int .u64 n, .slice A m c] w fun e w' => e = .returned (.tuple #[blk (cX n b), .int .i64 (putE n b : Nat)]) ∧ Below w.heap.size w w' := by
  have hA := (Below.refl w.heap.size w).alloc (Nat.le_refl _) (.cells (cel au).toArray 58)
  have HT := Lib.hid (dj w au 58)
  have HA := Lib.hid hA
  have hE : putE n b = 3 := by unfold putE; rw [if_neg (by omega), if_pos (by omega)]
  have hB : cX n b = au := by unfold cX; rw [hE]; rfl
  rw [hE, hB]
  unfold maxLen at hm2
  clear hA hE hB hb
  have hz : ((n : Int) == 0) = false := by simp; omega
  go_enter Tryz.func97, Tryz.ntmps97
  go_wp2_with (first | (refine ag rfl (aQ rfl) ?_) | (refine ag rfl (cn (c := au) (parts := []) rfl rfl) ?_) | (refine aN rfl (bj rfl rfl rfl HT.out) ?_))
  refine bodyPost_ret (bQ rfl _ _ _ rfl (World.rangeAt_setCells_same _ _ _ _ (by rw [az]; exact HT.out))) rfl ⟨rfl, below_setCells HA.out (Nat.le_refl _) _⟩
theorem rput_ok (n k B : Nat) (w : World) (HB : Hid (B = w.heap.size)) (hn : n < 18446744073709551616) (h1 : 1 ≤ k) (h2 : k ≤ 8) (hk : n < 2 ^ (8 * k)) :
    Calls Tryz.prog 120 #[.int .u64 n, .int .i64 k] w fun e w' => ∃ v, e = .returned (.tuple #[v, .int .i64 0]) ∧ Made w' B v (aC 8 k n) ∧ Below B w w' :=
  (rput_any n k B w HB hn h1 h2).mono fun e w' ⟨⟨hy, _⟩, hb⟩ => by
    obtain ⟨v, he, hm⟩ := hy hk
    exact ⟨v, he, hm, hb⟩
def padK (n : Nat) (b : List UInt8) (k : Nat) : List UInt8 := aC 8 8 n ++ b ++ List.replicate k 0
theorem padK_length (n : Nat) (b : List UInt8) (k : Nat) : (padK n b k).length = 8 + b.length + k := by simp [padK, ar]; omega
theorem padK_zero (n : Nat) (b : List UInt8) : padK n b 0 = aC 8 8 n ++ b := by simp [padK]
theorem padK_succ (n : Nat) (b : List UInt8) (k : Nat) : padK n b k ++ [0] = padK n b (k + 1) := by simp [padK, List.replicate_succ']
theorem padK_head (n : Nat) (b : List UInt8) (k : Nat) (h : 8 + b.length + k = 52) : padK n b k = cx n b := by
  unfold padK cx cW
  rw [show 44 - b.length = k from by omega, List.append_assoc]
def lenV : Value → Nat
  | .slice _ n _ => n
  | _ => 0
def PadAt (n m : Nat) (b : List UInt8) (B : Nat) (w1 : World) (v : Value) (wr : World) : Prop := ∃ k : Nat, 8 + m + k ≤ 52 ∧ Made wr B v (padK n b k) ∧ Below B w1 wr
theorem rd_zero (w : World) : Rd (w.alloc (.cells #[.int .u8 0] 5)) (w.heap.size + 1) (some ⟨w.heap.size, 0, none⟩) 1 [0] := rd_new w [0] #[.int .u8 0] rfl
set_option maxHeartbeats 4000000 in
theorem rsput_yes (n m c N : Nat) (A : Option Addr) (b : List UInt8) (w : World) (hn : n < 18446744073709551616) (h0 : 0 < n) (hb : Rd w N A m b) (hN : N ≤ w.heap.size) (hm : m ≤ 44) :
    Calls Tryz.prog 97 #[.int .u64 n, .slice A m c] w fun e w' => e = .returned (.tuple #[blk (cX n b), .int .i64 (putE n b : Nat)]) ∧ Below w.heap.size w w' := by
  have hl := hb.1
  have hbl : b.length ≤ 44 := by omega
  have hE : putE n b = 0 := putE_ok (by omega) hbl
  have hB : cX n b = ofL (co n b) := putB_ok hE
  rw [hE, hB]
  have hA := (Below.refl w.heap.size w).alloc (Nat.le_refl _) (.cells (cel au).toArray 58)
  have HA := Lib.hid hA
  have HR := Lib.hid (hb.below (hA.mono hN))
  have HRES := Lib.hid (bK.blk w au 58)
  have HLB := Lib.hid hl
  have HN := Lib.hid hn
  have HNN := Lib.hid hN
  have HL64 := Lib.hid (ew n hbl)
  have HH52 := Lib.hid (df n hbl)
  have HC := Lib.hid (more_lt (s := 0) (by omega) (cx n b))
  clear hl hbl hE hB hA hn hb hN
  have hz : ((n : Int) == 0) = false := by simp; omega
  go_enter Tryz.func97, Tryz.ntmps97
  go_wp2_with (first | (refine ag rfl (aQ rfl) ?_) | fail)
  have hn := HN.out
  refine (rput_ok n 8 _ _ (Lib.hid rfl) hn (by omega) (by omega) hn).mono ?_
  rintro e w1 ⟨v1, rfl, hm1, hb1⟩
  obtain ⟨A1, c1, rfl, hr1, hcc1, hcc2⟩ := hm1.open_ (ar 8 8 n)
  clear hn hm1 hcc1 hcc2
  have hs1 := hb1.size
  have HRES1 := Lib.hid (bK.below HRES.out (by simp only [World.size_alloc]; omega) hb1)
  have HR1 := Lib.hid (HR.out.below (hb1.mono (by have := HNN.out; simp only [World.size_alloc]; omega)))
  have HB1 := Lib.hid (HA.out.trans (hb1.mono (by simp only [World.size_alloc]; omega)))
  have HD1 := Lib.hid hr1
  have HS1 : Hid (w.heap.size + 1 ≤ w1.heap.size) := Lib.hid (by simpa only [World.size_alloc] using hs1)
  clear hr1 hb1 hs1 HR HRES HA
  obtain ⟨r, hr⟩ : ∃ r, w.heap.size = r := ⟨_, rfl⟩
  have HRR := Lib.hid hr
  rw [hr] at HRES1 HS1 HNN
  rw [hr]
  clear hr
  go_wp2_with fail
  obtain ⟨B, hB⟩ : ∃ B, B = w1.heap.size := ⟨_, rfl⟩
  have HB := Lib.hid hB
  rw [← hB] at HD1 HS1
  clear hB
  refine (copy_any A1 8 c1 B B (aC 8 8 n) _ HB HD1.out (Nat.le_refl _) (by omega)).mono ?_
  rintro e w2 ⟨v2, rfl, hm2, hb2⟩
  have hR2 := HR1.out.below (hb2.mono (by have := HNN.out; have := HS1.out; omega))
  have HBle := Lib.hid (show B ≤ w2.heap.size from Nat.le_trans (Nat.le_of_eq HB.out) hb2.size)
  go_wp2_with (at_builtin; refine dd rfl _ _ rfl B N m c _ (aC 8 8 n) b A rfl rfl hm2 hR2 HBle.out ?c1 ?_)
  case c1 => rw [ar]; omega
  intro v3 w3 hm3 hg3
  have hb3 : Below B w1 w3 := hb2.grown hg3 HBle.out (fun k hk => (hm2.lt k hk).1)
  rw [← padK_zero] at hm3
  have HM3 := Lib.hid hm3
  have HB3 := Lib.hid hb3
  clear hm2 hb2 hR2 hm3 hg3 hb3 HBle
  go_wp2
  go_loopw [8] (fun v wr => PadAt n m b B w1 v wr) (fun v _ => 52 - lenV v)
  case atStart => exact ⟨0, by omega, HM3.out, HB3.out⟩
  case round =>
    obtain ⟨k, hk, hmr, hbr⟩ := hrel
    obtain ⟨A', c', rfl, hr', hc1, hc2⟩ := hmr.open_ (n := 8 + m + k) (by rw [padK_length, HLB.out])
    unfold maxLen at hc2
    have hBr : B ≤ wr.heap.size := Nat.le_trans (Nat.le_of_eq HB.out) hbr.size
    have HMR := Lib.hid hmr
    have HBR := Lib.hid hbr
    have HRR' := Lib.hid hr'
    by_cases hlt : 8 + m + k < 52
    · have hma := hmr.below ((Below.refl wr.heap.size wr).alloc (Nat.le_refl _) (.cells #[.int .u8 0] 5))
      have hba : Below B w1 (wr.alloc (.cells #[.int .u8 0] 5)) := hbr.alloc hBr _
      have hra := rd_zero wr
      clear hmr hbr hr'
      go_wp2_with (at_builtin; refine dd rfl _ _ rfl B _ 1 1 _ (padK n b k) [0] _ rfl rfl hma hra ?c2 ?c3 ?_)
      case c2 => simp only [World.size_alloc]; omega
      case c3 => rw [padK_length, HLB.out]; omega
      intro v4 w4 hm4 hg4
      rw [padK_succ] at hm4
      have HM4 := Lib.hid hm4
      have HB4 := Lib.hid (hba.grown hg4 (by simp only [World.size_alloc]; omega) (fun k hk => (hma.lt k hk).1))
      obtain ⟨A5, c5, rfl, _, _, _⟩ := hm4.open_ (n := 8 + m + (k + 1)) (by rw [padK_length, HLB.out])
      clear hm4 hg4 hma hba hra
      go_wp2
      go_roundw
      case rel => exact ⟨k + 1, by omega, HM4.out, HB4.out⟩
      case measure => simp [lenV]; omega
    · have hk52 : 8 + m + k = 52 := by omega
      have HPK := Lib.hid (padK_head n b k (by rw [HLB.out]; exact hk52))
      rw [hk52] at HMR HRR' hc1 ⊢
      rw [HPK.out] at HMR HRR'
      clear hmr hbr hr' hlt hk hk52 HPK
      go_wp2_with fail
      refine (refOf_any A' 52 c' _ (cx n b) _ HRR'.out (by unfold maxLen; omega)).mono ?_
      rintro e w5 ⟨rfl, rfl⟩
      obtain ⟨s, hs⟩ : ∃ s, more 0 (cx n b) = s := ⟨_, rfl⟩
      have hs32 := HC.out
      rw [hs] at hs32 ⊢
      have HSS := Lib.hid hs
      clear hs
      go_wp2_with fail
      refine (rput_ok s 4 _ _ (Lib.hid rfl) (by omega) (by omega) (by omega) (by omega)).mono ?_
      rintro e w5 ⟨v5, rfl, hm5, hb5⟩
      obtain ⟨A5, c5, rfl, hr5, hcc1, hcc2⟩ := hm5.open_ (ar 8 4 s)
      have hmr5 := HMR.out.below hb5
      have hbr5 : Below B w1 w5 := HBR.out.trans (hb5.mono hBr)
      have hB5 : B ≤ w5.heap.size := Nat.le_trans hBr hb5.size
      clear hm5 hb5 hcc1 hcc2 hs32
      go_wp2_with (at_builtin; refine dd rfl _ _ rfl B _ 4 c5 _ (cx n b) (aC 8 4 s) A5 rfl rfl hmr5 hr5 hB5 ?c4 ?_)
      case c4 => rw [HH52.out]; omega
      intro v6 w6 hm6 hg6
      have HM6 := Lib.hid hm6
      have HB6 := Lib.hid (hbr5.grown hg6 hB5 (fun k hk => (hmr5.lt k hk).1))
      clear hmr5 hbr5 hm6 hg6 hr5
      have hB6 : B ≤ w6.heap.size := Nat.le_trans (Nat.le_of_eq HB.out) HB6.out.size
      have hm6 := HM6.out
      have hr6 := HD1.out.below HB6.out
      go_wp2_with (at_builtin; refine dd rfl _ _ rfl B B 8 c1 _ (cx n b ++ aC 8 4 s) (aC 8 8 n) A1 rfl rfl hm6 hr6 hB6 ?c5 ?_)
      case c5 => rw [List.length_append, HH52.out, ar]; omega
      intro v7 w7 hm7 hg7
      have hseal : cx n b ++ (aC 8 4 s ++ aC 8 8 n) = co n b := by rw [← HSS.out]; rfl
      rw [hseal] at hm7
      obtain ⟨q, c7, rfl, hq7, hc71, hc72⟩ := hm7.some (by rw [HL64.out]; omega)
      rw [HL64.out] at hm7 hc71 ⊢
      unfold maxLen at hc72
      have hrd7 := hm7.rd
      have HB7 := Lib.hid (HB6.out.grown hg7 hB6 (fun k hk => (hm6.lt k hk).1))
      have HRD7 := Lib.hid hrd7
      clear hm7 hg7 hm6 hr6 hseal hrd7 HM6 HB6 HMR HRR' HBR
      have hO := row_new w7 au 58
      have hb8 := (Below.refl w7.heap.size w7).alloc (Nat.le_refl _) (.cells (cel au).toArray 58)
      go_wp2_with (first | (refine ag rfl (aQ rfl) ?_) | fail)
      generalize hg2 : w7.heap.size = g2 at *
      have HG2 := Lib.hid hg2
      have HB8 := Lib.hid hb8
      have HO := Lib.hid hO
      clear hg2 hb8 hO
      go_loopw [12] (fun i wr => ∃ (j : Nat) (f : Nat → Int), j ≤ 64 ∧ i = .int .i64 j ∧ wr.rowIs g2 58 64 (fun j => .int .u8 (f j)) ∧ (∀ m, m < j → f m = bt (co n b) m) ∧ Below g2 w7 wr) (fun i _ => 64 - (intOf i).toNat)
      case atStart => exact ⟨0, byt au, by omega, rfl, HO.out, fun m hm => absurd hm (by omega), HB8.out⟩
      case round =>
        clear HO HB8
        obtain ⟨j, f, hj, rfl, hrow, hf, hbl⟩ := hrel
        have HF := Lib.hid hf
        clear hf
        by_cases hlt : j < 64
        · have hc1 := hrow.cell (i := j) (by omega)
          have hfr := hrow.frozen j
          have hrd := (HRD7.out.below hbl).2 j hlt
          obtain ⟨bA, oA, hA1, hA2, hA3⟩ := hrd
          injection hA1 with hA1
          injection hA1 with e1 e2
          subst e1 e2
          rw [Nat.zero_add] at hA3
          go_wp2_with fail
          go_roundw
          case rel =>
            refine ⟨j + 1, upd f j (bt (co n b) j), by omega, by go_num, row_put hrow _, ?_, hbl.setCell (by simp) _⟩
            intro m hm
            by_cases e : m = j
            · subst e; exact upd_at _ _ _
            · rw [upd_off _ _ e]; exact HF.out m (by omega)
          case measure => simp [intOf]; omega
        · have hj64 : j = 64 := by omega
          subst hj64
          have hr := range_row (c := ofL (co n b)) (o := 0) hrow (by omega) (fun m hm => by rw [Nat.zero_add, HF.out m hm, ofL_byt _ hm])
          have HR2 := Lib.hid hr
          have hBX : Below B w1 wr := HB7.out.trans (hbl.mono (by rw [← HG2.out]; exact Nat.le_trans (Nat.le_of_eq HB.out) HB7.out.size))
          have HRX := HRES1.out.below (by have := HS1.out; omega) hBX
          have HTH : Hid (wr.there r 0 64) := Lib.hid (there_row HRX.row (by simp))
          have HBB : Hid (Below w.heap.size w wr) := Lib.hid (HB1.out.trans (hBX.mono (by rw [HRR.out]; have := HS1.out; omega)))
          clear hr hbl hrow hBX HRX
          go_wp2_with (first | (refine ag rfl (aV rfl rfl HR2.out) ?_) | (refine aN rfl (bj rfl rfl rfl HTH.out) ?_) | fail)
          refine bodyPost_ret (bQ rfl _ _ _ rfl (World.rangeAt_setCells_same _ _ _ _ (by rw [az]; exact HTH.out))) rfl ⟨rfl, below_setCells HBB.out (Nat.le_of_eq HRR.out) _⟩
theorem rsput_all (n m c N : Nat) (A : Option Addr) (b : List UInt8) (w : World) (hn : n < 18446744073709551616) (hb : Rd w N A m b) (hN : N ≤ w.heap.size) (hm : m ≤ maxLen) :
    Calls Tryz.prog 97 #[.int .u64 n, .slice A m c] w fun e w' => e = .returned (.tuple #[blk (cX n b), .int .i64 (putE n b : Nat)]) ∧ Below w.heap.size w w' := by
  by_cases h0 : n = 0
  · subst h0
    exact rsput_arg m c A b w
  · by_cases h44 : m ≤ 44
    · exact rsput_yes n m c N A b w hn (by omega) hb hN h44
    · exact rsput_long n m c A b w hb.1 (by omega) (by omega) hm
theorem mayWidth_yes (s : Int) (w : World) (h1 : 1 ≤ s) (h2 : s ≤ 8) : Calls Tryz.prog 149 #[.int .i64 s] w fun e w' => e = .returned (.bool true) ∧ w = w' := by
  go_enter Tryz.func149, Tryz.ntmps149
  go_wp2
  go_ret
  exact ⟨rfl, rfl⟩
theorem widths {d : Nat} (h1 : 1 ≤ d) (h2 : d ≤ 8) : d = 1 ∨ d = 2 ∨ d = 3 ∨ d = 4 ∨ d = 5 ∨ d = 6 ∨ d = 7 ∨ d = 8 := by omega
def bytesOf (m d : Nat) : Nat := (m * d + 7) / 8
set_option maxHeartbeats 1000000 in
theorem taken_any (m d : Nat) (w : World) (h1 : 1 ≤ d) (h2 : d ≤ 8) (hm : m ≤ 4611686018427387904) : Calls Tryz.prog 150 #[.int .i64 m, .int .i64 d] w fun e w' => e = .returned (.int .i64 (bytesOf m d)) ∧ w = w' := by
  rcases widths h1 h2 with rfl | rfl | rfl | rfl | rfl | rfl | rfl | rfl
  all_goals
    clear h1 h2
    go_enter Tryz.func150, Tryz.ntmps150
    go_wp2
    go_ret
    exact ⟨bV (by unfold bytesOf; omega), rfl⟩
set_option maxHeartbeats 1000000 in
theorem place_any (m d : Nat) (w : World) (h1 : 1 ≤ d) (h2 : d ≤ 8) (hm : m ≤ 4611686018427387904) : Calls Tryz.prog 151 #[.int .i64 m, .int .i64 d] w fun e w' => e = .returned (.tuple #[.int .i64 (m * d / 8 : Nat), .int .i64 (m * d % 8 : Nat)]) ∧ w = w' := by
  rcases widths h1 h2 with rfl | rfl | rfl | rfl | rfl | rfl | rfl | rfl
  all_goals
    clear h1 h2
    go_enter Tryz.func151, Tryz.ntmps151
    go_wp2
    go_ret2
    exact ⟨ret_ints (by omega) (by omega), rfl⟩
theorem spills_yes (a d : Nat) (w : World) (ha : a ≤ 8) (h2 : d ≤ 8) (h : 8 < a + d) : Calls Tryz.prog 152 #[.int .i64 a, .int .i64 d] w fun e w' => e = .returned (.bool true) ∧ w = w' := by
  go_enter Tryz.func152, Tryz.ntmps152
  go_wp2
  go_ret
  exact ⟨aO (by simp; omega), rfl⟩
theorem spills_no (a d : Nat) (w : World) (ha : a ≤ 8) (h2 : d ≤ 8) (h : ¬ 8 < a + d) : Calls Tryz.prog 152 #[.int .i64 a, .int .i64 d] w fun e w' => e = .returned (.bool false) ∧ w = w' := by
  go_enter Tryz.func152, Tryz.ntmps152
  go_wp2
  go_ret
  exact ⟨aO (by simp; omega), rfl⟩
theorem fits_int (n c : Int) (w : World) (hn : 0 ≤ n) (h0 : 0 ≤ c) (h64 : c ≤ 64) : Calls Tryz.prog 148 #[.int .u64 n, .int .i64 c] w fun e w' => e = .returned (.bool (fitB n.toNat c.toNat)) ∧ w = w' := by
  obtain ⟨m, rfl⟩ := Int.eq_ofNat_of_zero_le hn
  rw [Int.toNat_natCast]
  exact fits_any m c w h0 h64
def narrow (d : Nat) (l : List UInt8) : Bool := l.all fun u => decide (u.toNat < 2 ^ d)
theorem dn {d : Nat} {l : List UInt8} (h : narrow d l = true) : ∀ u ∈ l, u.toNat < 2 ^ d := by
  intro u hu
  have := List.all_eq_true.1 h u hu
  simpa using this
theorem narrow_of {d : Nat} {l : List UInt8} (h : ∀ j, j < l.length → bt l j < 2 ^ d) : narrow d l = true := by
  apply List.all_eq_true.2
  intro u hu
  obtain ⟨j, hj, rfl⟩ := List.getElem_of_mem hu
  have := h j hj
  rw [cp hj] at this
  rw [decide_eq_true_eq]
  have e : ((2 : Int) ^ d) = ((2 ^ d : Nat) : Int) := by push_cast; rfl
  rw [e] at this
  omega
theorem fit_yes {l : List UInt8} {d j : Nat} (hall : narrow d l = true) (hj : j < l.length) : fitB (bt l j).toNat (d : Int).toNat = true := by
  unfold fitB
  rw [Int.toNat_natCast, decide_eq_true_eq, cp hj, Int.toNat_natCast]
  exact dn hall _ (List.getElem_mem hj)
theorem wrap16 {X ab : Nat} (hX : X < 256) (hab : ab ≤ 7) : IntKind.u16.wrap ((X : Int) * 2 ^ ab) = ((X * 2 ^ ab : Nat) : Int) := by
  have h2 : 2 ^ ab ≤ 2 ^ 7 := Nat.pow_le_pow_right (by omega) hab
  have h3 : X * 2 ^ ab ≤ 255 * 2 ^ 7 := Nat.mul_le_mul (by omega) h2
  have e : ((X : Int) * 2 ^ ab) = ((X * 2 ^ ab : Nat) : Int) := by push_cast; rfl
  rw [e]
  exact IntWalk.u16_in _ ⟨by omega, by omega⟩
theorem or_here {x1 X ab : Nat} (h1 : x1 < 256) (hX : X < 256) (hab : ab ≤ 7) : bits .or .u8 (x1 : Int) (IntKind.u16.wrap ((X : Int) * 2 ^ ab) % 256) = ((x1 ||| (X * 2 ^ ab % 2 ^ 8) : Nat) : Int) := by
  rw [wrap16 hX hab]
  exact u8_or_nat x1 (X * 2 ^ ab % 256) h1 (Nat.mod_lt _ (by decide))
theorem or_next {x2 X ab : Nat} (h1 : x2 < 256) (hX : X < 256) (hab : ab ≤ 7) : bits .or .u8 (x2 : Int) (IntKind.u16.wrap ((X : Int) * 2 ^ ab) / 256 % 256) = ((x2 ||| (X * 2 ^ ab / 2 ^ 8) : Nat) : Int) := by
  rw [wrap16 hX hab]
  have h2 : 2 ^ ab ≤ 2 ^ 7 := Nat.pow_le_pow_right (by omega) hab
  have h3 : X * 2 ^ ab ≤ 255 * 2 ^ 7 := Nat.mul_le_mul (by omega) h2
  have e : (((X * 2 ^ ab : Nat) : Int) / 256 % 256) = ((X * 2 ^ ab / 256 : Nat) : Int) := by omega
  rw [e]
  exact u8_or_nat x2 (X * 2 ^ ab / 256) h1 (by omega)
theorem row_two {w : World} {g t q ab i d V X : Nat} {e : TypeId} (hrow : w.rowIs g e t (fun k => .int .u8 (dg V k : Nat))) (hV : V < 2 ^ (i * d)) (hX : X < 2 ^ d) (hd : d ≤ 8) (hq : i * d / 8 = q) (hab : i * d % 8 = ab) :
    ((w.setCell ⟨g, q, none⟩ (.int .u8 (bits .or .u8 (dg V q : Nat) (IntKind.u16.wrap ((X : Int) * 2 ^ ab) % 256)))).setCell ⟨g, q + 1, none⟩ (.int .u8 (bits .or .u8 (dg V (q + 1) : Nat) (IntKind.u16.wrap ((X : Int) * 2 ^ ab) / 256 % 256)))).rowIs g e t
      (fun k => .int .u8 (dg (V + 2 ^ (i * d) * X) k : Nat)) := by
  have hX8 : X < 256 := Nat.lt_of_lt_of_le hX (Nat.pow_le_pow_right (by omega) hd)
  have h7 : ab ≤ 7 := by omega
  refine ((hrow.set q _).set (q + 1) _).congr fun k hk => ?_
  rw [or_here (dg_lt _ _) hX8 h7, or_next (dg_lt _ _) hX8 h7, lay_two hV hX hd hq hab]
  show (if k = q + 1 then _ else if k = q then _ else _) = _
  split
  · rfl
  · split <;> rfl
theorem row_single {w : World} {g t q ab i d V X : Nat} {e : TypeId} (hrow : w.rowIs g e t (fun k => .int .u8 (dg V k : Nat))) (hV : V < 2 ^ (i * d)) (hX : X < 2 ^ d) (hd : d ≤ 8) (hs : ab + d ≤ 8) (hq : i * d / 8 = q) (hab : i * d % 8 = ab) :
    (w.setCell ⟨g, q, none⟩ (.int .u8 (bits .or .u8 (dg V q : Nat) (IntKind.u16.wrap ((X : Int) * 2 ^ ab) % 256)))).rowIs g e t
      (fun k => .int .u8 (dg (V + 2 ^ (i * d) * X) k : Nat)) := by
  have hX8 : X < 256 := Nat.lt_of_lt_of_le hX (Nat.pow_le_pow_right (by omega) hd)
  refine (hrow.set q _).congr fun k hk => ?_
  rw [or_here (dg_lt _ _) hX8 (by omega), lay_single hV hX hs hq hab]
  show (if k = q then _ else _) = _
  split <;> rfl
set_option maxHeartbeats 1000000 in
theorem bits_ok (A : Option Addr) (n c N d B : Nat) (l : List UInt8) (w : World) (HB : Hid (B = w.heap.size)) (hl : Rd w N A n l) (hN : N ≤ B) (hn : n ≤ 140737488351232) (h1 : 1 ≤ d) (h2 : d ≤ 8) (hall : narrow d l = true) :
    Calls Tryz.prog 138 #[.slice A n c, .int .i64 d] w fun e w' => ∃ v, e = .returned (.tuple #[v, .int .i64 0]) ∧ Own w' B v (aC 8 (bytesOf n d) (val d l)) ∧ Below B w w' := by
  have HA := Lib.hid hall
  clear hall
  have hBle : B ≤ w.heap.size := Nat.le_of_eq HB.out
  have htot : bytesOf n d ≤ 140737488355328 := by unfold bytesOf; have := Nat.mul_le_mul_left n h2; omega
  have hmk := run_make_row' (P := Tryz.prog) 100 5 (.int .u8 0) 1 Tryz.underlying100 u8info rfl .i64 .i64 (bytesOf n d) (by omega) (by omega)
  go_enter Tryz.func138, Tryz.ntmps138
  go_wp2_with (first | (go_at_call 149; refine (mayWidth_yes _ _ (by omega) (by omega)).mono ?_; rintro e w' ⟨rfl, rfl⟩))
  go_loop [18] (fun i => ∃ j : Nat, j ≤ n ∧ i = .int .i64 j) (fun i => n - (intOf i).toNat)
  case atStart => exact ⟨0, Nat.zero_le _, rfl⟩
  case round =>
    obtain ⟨j, hj, rfl⟩ := hrel
    by_cases hlt : j < n
    · obtain ⟨bA, oA, rfl, hA, cA⟩ := hl.2 j hlt
      have hlo := bt_lo l j
      have hhi := bt_hi l j
      go_wp2_with fail
      refine (fits_int _ _ _ hlo (by omega) (by omega)).mono ?_
      rintro e w' ⟨rfl, rfl⟩
      rw [fit_yes HA.out (by have := hl.1; omega)]
      go_wp2
      go_round
      case rel => exact ⟨j + 1, by omega, by go_num⟩
      case measure => simp [intOf]; omega
    · have e : j = n := by omega
      subst e
      go_wp2_with fail
      refine (taken_any _ _ _ h1 h2 (by omega)).mono ?_
      rintro e w' ⟨rfl, rfl⟩
      go_wp2
      clear hmk
      have hr0 := World.rowIs_made w (Value.int .u8 0) (bytesOf j d) 5
      have hbl0 : Below B w (w.alloc (.cells (madeCells #[Value.int .u8 0] (bytesOf j d)) 5)) := (Below.refl _ _).alloc hBle _
      generalize w.heap.size = g at hr0 hBle ⊢
      go_loopw [35] (fun i wr => ∃ i' : Nat, i' ≤ j ∧ i = .int .i64 i' ∧ wr.rowIs g 5 (bytesOf j d) (fun k => .int .u8 (dg (val d (l.take i')) k : Nat)) ∧ Below B w wr) (fun i _ => j - (intOf i).toNat)
      case atStart => exact ⟨0, Nat.zero_le _, rfl, hr0.congr fun k _ => by simp [val, dg], hbl0⟩
      case round =>
        clear hbl0 hr0
        obtain ⟨i, hi, rfl, hrow, hbl⟩ := hrel
        by_cases hlt : i < j
        · go_wp2_with fail
          refine (place_any _ _ _ h1 h2 (by omega)).mono ?_
          rintro e w' ⟨rfl, rfl⟩
          have hab : i * d % 8 ≤ 7 := by omega
          have hq1 : i * d / 8 < bytesOf j d := by
            unfold bytesOf
            have h3 : (i + 1) * d ≤ j * d := Nat.mul_le_mul_right d hlt
            rw [Nat.succ_mul] at h3
            omega
          have hq2 : 8 < i * d % 8 + d → i * d / 8 + 1 < bytesOf j d := by
            unfold bytesOf
            have h3 : (i + 1) * d ≤ j * d := Nat.mul_le_mul_right d hlt
            rw [Nat.succ_mul] at h3
            omega
          generalize hq : i * d / 8 = q at *
          generalize ha : i * d % 8 = ab at *
          have HQ := Lib.hid hq
          have HAB := Lib.hid ha
          clear hq ha
          obtain ⟨bA, oA, rfl, hA, cA⟩ := (hl.below (hbl.mono hN)).2 i hlt
          have hlo := bt_lo l i
          have hhi := bt_hi l i
          have hc1 := hrow.cell hq1
          have hf1 := hrow.frozen q
          have hf2 := hrow.frozen (q + 1)
          generalize hV : val d (l.take i) = V at *
          have HV := Lib.hid hV
          clear hV
          have hd1 := dg_lt V q
          generalize hx : dg V q = x1 at *
          have HX := Lib.hid hx
          clear hx
          by_cases hsp : 8 < ab + d
          · have hq3 := hq2 hsp
            have hc2 := hrow.cell hq3
            have hd2 := dg_lt V (q + 1)
            generalize hx : dg V (q + 1) = x2 at *
            have HX2 := Lib.hid hx
            clear hx hq2
            go_wp2_with fail
            refine (spills_yes _ _ _ (by omega) h2 hsp).mono ?_
            rintro e w' ⟨rfl, rfl⟩
            go_wp2
            go_roundw
            case rel =>
              refine ⟨i + 1, by omega, by go_num, ?_, (hbl.setCell hBle _).setCell hBle _⟩
              have hl' : i < l.length := by have := hl.1; omega
              rw [eQ hl', HV.out, ← HX.out, ← HX2.out, cp hl']
              exact row_two hrow (by rw [← HV.out]; exact val_take_lt (dn HA.out) (by omega)) (dn HA.out _ (List.getElem_mem hl')) h2 HQ.out HAB.out
            case measure => simp [intOf]; omega
          · clear hq2
            go_wp2_with fail
            refine (spills_no _ _ _ (by omega) h2 hsp).mono ?_
            rintro e w' ⟨rfl, rfl⟩
            go_wp2
            go_roundw
            case rel =>
              refine ⟨i + 1, by omega, by go_num, ?_, hbl.setCell hBle _⟩
              have hl' : i < l.length := by have := hl.1; omega
              rw [eQ hl', HV.out, ← HX.out, cp hl']
              exact row_single hrow (by rw [← HV.out]; exact val_take_lt (dn HA.out) (by omega)) (dn HA.out _ (List.getElem_mem hl')) h2 (by omega) HQ.out HAB.out
            case measure => simp [intOf]; omega
        · have e : i = j := by omega
          subst e
          go_wp2
          go_ret2
          refine ⟨_, rfl, Own.of_row (ar _ _ _) hBle hrow (Nat.le_refl _) (by unfold maxLen; omega) ?_ ?_, hbl⟩
          · intro k hk
            have hk' : k < (aC 8 (bytesOf i d) (val d l)).length := by rw [ar]; exact hk
            rw [cp hk', et (by omega) hk', List.take_of_length_le (by have := hl.1; omega)]
            rfl
          · intro k
            have := dg_lt (val d (l.take i)) k
            omega
theorem bits_more {l : List UInt8} {j d X : Nat} (hj : j < l.length) (hX : bt l j = (X : Int)) (hall : ∀ k, k < j → bt l k < 2 ^ d) :
    aC 1 (j * d) (val d (l.take j)) ++ aC 1 d X = aC 1 ((j + 1) * d) (val d (l.take (j + 1))) := by
  have e : l[j].toNat = X := by rw [cp hj] at hX; omega
  have hlt : val d (l.take j) < 2 ^ (j * d) := by
    have h := val_lt (w := d) (l := l.take j) (dn (narrow_of fun k hk => ?_))
    · rwa [List.length_take, Nat.min_eq_left (by omega), Nat.mul_comm] at h
    · have hk' : k < j := by rw [List.length_take] at hk; omega
      have := hall k hk'
      have e2 : bt (l.take j) k = bt l k := by
        rw [cp hk, cp (by omega)]
        simp
      rw [e2]
      exact this
  rw [eQ hj, e, Nat.succ_mul, ← digL_add X (by rw [Nat.one_mul]; exact hlt), Nat.one_mul]
theorem all_more {l : List UInt8} {j d X : Nat} (hX : bt l j = (X : Int)) (hf : X < 2 ^ d) (hall : ∀ k, k < j → bt l k < 2 ^ d) : ∀ k, k < j + 1 → bt l k < 2 ^ d := by
  intro k hk
  by_cases e : k = j
  · subst e
    rw [hX]
    have e : ((2 : Int) ^ d) = ((2 ^ d : Nat) : Int) := by push_cast; rfl
    rw [e]
    omega
  · exact hall k (by omega)
theorem not_narrow {l : List UInt8} {j d X : Nat} (hj : j < l.length) (hX : bt l j = (X : Int)) (hf : ¬ X < 2 ^ d) : narrow d l = true → False := by
  intro h
  have := dn h _ (List.getElem_mem hj)
  rw [cp hj] at hX
  omega
theorem bt_bit {T V k : Nat} (h : k < T) : bt (aC 1 T V) k = ((V / 2 ^ k % 2 : Nat) : Int) := by
  have hl : k < (aC 1 T V).length := by rw [ar]; exact h
  rw [cp hl, et (by omega) hl, Nat.one_mul, Nat.pow_one]
theorem no_bit {T V k : Nat} (hV : V < 2 ^ T) (h : ¬ k < T) : V / 2 ^ k = 0 := Nat.div_eq_of_lt (Nat.lt_of_lt_of_le hV (Nat.pow_le_pow_right (by omega) (by omega)))
theorem half_lt {V a p : Nat} (hp : p < 8) : V / 2 ^ a % 2 ^ (8 - (p + 1)) ≤ 127 := by
  have h1 : V / 2 ^ a % 2 ^ (8 - (p + 1)) < 2 ^ (8 - (p + 1)) := Nat.mod_lt _ (Nat.pow_pos (by omega))
  have h2 : 2 ^ (8 - (p + 1)) ≤ 2 ^ 7 := Nat.pow_le_pow_right (by omega) (by omega)
  omega
theorem half_step (V a p : Nat) (hp : p < 8) : V / 2 ^ (a + p) % 2 ^ (8 - p) = 2 * (V / 2 ^ (a + (p + 1)) % 2 ^ (8 - (p + 1))) + V / 2 ^ (a + p) % 2 := by
  have := bit_step V (a + p) (8 - (p + 1))
  rwa [show 8 - (p + 1) + 1 = 8 - p from by omega] at this
set_option maxHeartbeats 2000000 in
theorem rbits_any (A : Option Addr) (n c N d B : Nat) (l : List UInt8) (w : World) (HB : Hid (B = w.heap.size)) (hl : Rd w N A n l) (hN : N ≤ B) (hn : n ≤ 3000) (h1 : 1 ≤ d) (h2 : d ≤ 8) :
    Calls Tryz.prog 122 #[.slice A n c, .int .i64 d] w fun e w' =>
      ((narrow d l = true → ∃ v, e = .returned (.tuple #[v, .int .i64 0]) ∧ Made w' B v (aC 8 (bytesOf n d) (val d l))) ∧ (narrow d l = false → e = .returned (.tuple #[.slice none 0 0, .int .i64 2]))) ∧ Below B w w' := by
  have hBle : B ≤ w.heap.size := Nat.le_of_eq HB.out
  have hd1 : decide ((d : Int) < 1) = false := by simp; omega
  have hd2 : decide (8 < (d : Int)) = false := by simp; omega
  obtain ⟨i0, hi, hz0, hz1, hz2⟩ := info_parts u8info
  go_enter Tryz.func122, Tryz.ntmps122
  go_wp2
  go_loopw [6, 7] (fun v i wr => ∃ j : Nat, j ≤ n ∧ i = .int .i64 j ∧ Made wr B v (aC 1 (j * d) (val d (l.take j))) ∧ (∀ k, k < j → bt l k < 2 ^ d) ∧ Below B w wr) (fun _ i _ => n - (intOf i).toNat)
  case atStart => exact ⟨0, Nat.zero_le _, rfl, by rw [Nat.zero_mul]; exact World.ownsRow_nil _ _ _ _, fun k hk => absurd hk (by omega), Below.refl _ _⟩
  case round =>
    obtain ⟨j, hj, rfl, hm, hall, hbl⟩ := hrel
    have HA := Lib.hid hall
    clear hall
    by_cases hlt : j < n
    · obtain ⟨bA, oA, rfl, hA, cA⟩ := (hl.below (hbl.mono hN)).2 j hlt
      have hX : bt l j = ((l.getD j 0).toNat : Int) := rfl
      have hXl : (l.getD j 0).toNat < 256 := UInt8.toNat_lt _
      generalize (l.getD j 0).toNat = X at hX hXl
      have HX := Lib.hid hX
      rw [hX] at cA
      clear hX
      have hm' := Lib.hid hm
      clear hm
      obtain ⟨wo, rfl⟩ : ∃ wo : World, wo = wr := ⟨_, rfl⟩
      go_wp2
      have hszo : B ≤ wo.heap.size := Nat.le_trans hBle hbl.size
      go_loopw [6, 8, 9] (fun v x k wr => ∃ i : Nat, i ≤ d ∧ k = .int .i64 i ∧ x = .int .u8 ((X / 2 ^ i : Nat) : Int) ∧ Made wr B v (aC 1 (j * d) (val d (l.take j)) ++ aC 1 i X) ∧ Below B wo wr) (fun _ _ k _ => d - (intOf k).toNat)
      case atStart => exact ⟨0, Nat.zero_le _, rfl, by simp, by rw [show aC 1 0 X = [] from rfl, List.append_nil]; exact hm'.out, Below.refl _ _⟩
      case round =>
        obtain ⟨i, hi', rfl, rfl, hm, hbi⟩ := hrel
        by_cases hlti : i < d
        · have hq : X / 2 ^ i ≤ X := Nat.div_le_self _ _
          have hsz : B ≤ wr.heap.size := Nat.le_trans hszo hbi.size
          have hE : Hid (X / 2 ^ (i + 1) = X / 2 ^ i / 2 ∧ aC 1 (i + 1) X = aC 1 i X ++ [UInt8.ofNat (X / 2 ^ i % 2)]) := ⟨by rw [Nat.pow_succ, ← Nat.div_div_eq_div_mul], by rw [eB, Nat.one_mul]⟩
          have hln : (aC 1 (j * d) (val d (l.take j)) ++ aC 1 i X).length = j * d + i := by rw [List.length_append, ar, ar]
          have hjd : j * d ≤ 3000 * 8 := Nat.mul_le_mul (by omega) h2
          generalize hrw : aC 1 (j * d) (val d (l.take j)) ++ aC 1 i X = row at *
          have HRW := Lib.hid hrw
          have hown := hm.own hln
          have HM2 := Lib.hid hm
          clear hm hln hrw
          generalize X / 2 ^ i = q at *
          go_wp2_with (at_builtin; refine wpList_append_own _ rfl _ _ 100 rfl B 5 i0 (.int .u8 0) 1 1 Tryz.underlying100 hi hz0 hz1 hz2 rfl (by decide) _ _ _ rfl (hown.alloc _) ⟨wr.heap.size, 0, none⟩ 1 1 [.int .u8 ((q : Int) % 2)] rfl rfl ?c1 ?c2 ?c3 ?c4 ?c5 ?_)
          case c1 => exact cell_one_new _ _ _
          case c2 => intro u hu; simp at hu; subst hu; rfl
          case c3 => unfold maxLen; omega
          case c4 => omega
          case c5 => simp; omega
          intro v' w1 hown1 hg1 _
          have hx : ((q : Int) % 2) = ((UInt8.ofNat (q % 2)).toNat : Int) := by rw [UInt8.toNat_ofNat']; omega
          obtain ⟨hm1, hb1⟩ := Made.push HM2.out hbi hsz hx hown1 hg1
          have hm1' := Lib.hid hm1
          clear hm1 hown1 hg1 hown hx HM2
          go_wp2
          go_roundw
          case rel =>
            refine ⟨i + 1, by omega, by go_num, ?_, ?_, hb1⟩
            · rw [hE.out.1]; simp
            · rw [hE.out.2, ← List.append_assoc, HRW.out]; exact hm1'.out
          case measure => simp [intOf]; omega
        · have e : i = d := by omega
          subst e
          by_cases hfit : X < 2 ^ i
          · rw [Nat.div_eq_of_lt hfit]
            have HM3 := Lib.hid hm
            clear hm
            go_wp2
            go_roundw
            case rel =>
              refine ⟨j + 1, by omega, by go_num, ?_, all_more HX.out hfit HA.out, hbl.trans (hbi.mono (Nat.le_refl _))⟩
              rw [← bits_more (by have := hl.1; omega) HX.out HA.out]
              exact HM3.out
            case measure => simp [intOf]; omega
          · have hq0 : 0 < X / 2 ^ i := Nat.div_pos (by omega) (Nat.pow_pos (by omega))
            generalize X / 2 ^ i = q at *
            go_wp2
            go_ret2
            exact ⟨⟨fun h => (not_narrow (by have := hl.1; omega) HX.out hfit h).elim, fun _ => rfl⟩, hbl.trans hbi⟩
    · have e : j = n := by omega
      subst e
      have hnar : narrow d l = true := narrow_of fun k hk => HA.out k (by have := hl.1; omega)
      rw [List.take_of_length_le (by have := hl.1; omega)] at hm
      have hR : val d l < 2 ^ (j * d) := by have := val_lt (dn hnar); rwa [hl.1, Nat.mul_comm] at this
      have HR := Lib.hid hR
      have HN := Lib.hid hnar
      clear hR hnar
      have hjd : j * d ≤ 3000 * 8 := Nat.mul_le_mul (by omega) h2
      have hld := ar 1 (j * d) (val d l)
      generalize hV : val d l = V at *
      obtain ⟨A1, c1, rfl, d1, _, hc1⟩ := hm.open_ (n := j * d) hld
      have HV := Lib.hid hV
      clear hV hld
      have HD := Lib.hid d1
      have hsz0 : B ≤ wr.heap.size := Nat.le_trans hBle hbl.size
      have hby : bytesOf j d * 8 < j * d + 8 ∧ j * d ≤ bytesOf j d * 8 := by unfold bytesOf; omega
      generalize hT : j * d = T at *
      generalize hM : bytesOf j d = M at *
      have HM4 := Lib.hid hM
      have HT := Lib.hid hT
      obtain ⟨hby1, hby2⟩ := hby
      clear hm hM hT d1
      obtain ⟨wo, rfl⟩ : ∃ wo : World, wo = wr := ⟨_, rfl⟩
      have hB4 : Below wo.heap.size wo wo := Below.refl _ _
      go_wp2
      go_loopw [10, 11] (fun v i wr => ∃ q : Nat, q ≤ M ∧ i = .int .i64 (8 * (q : Int)) ∧ Made wr wo.heap.size v (aC 8 q V) ∧ Below wo.heap.size wo wr) (fun _ i _ => T + 8 - (intOf i).toNat)
      case atStart => exact ⟨0, Nat.zero_le _, by simp, World.ownsRow_nil _ _ _ _, hB4⟩
      case round =>
        obtain ⟨q, hq, rfl, hm, hb4⟩ := hrel
        clear hB4
        by_cases hlt : 8 * q < T
        · have hq' : q + 1 ≤ M := by omega
          have HM5 := Lib.hid hm
          clear hm
          go_wp2
          go_loop [12, 13] (fun x k => ∃ m : Nat, m ≤ 8 ∧ k = .int .i64 ((m : Int) - 1) ∧ x = .int .u8 ((V / 2 ^ (8 * q + m) % 2 ^ (8 - m) : Nat) : Int)) (fun _ k => (intOf k + 1).toNat)
          case atStart => exact ⟨8, Nat.le_refl _, rfl, by simp [Nat.mod_one]⟩
          case round =>
            obtain ⟨m, hm8, rfl, rfl⟩ := hrel
            by_cases hm0 : 0 < m
            · obtain ⟨p, rfl⟩ : ∃ p, m = p + 1 := ⟨m - 1, by omega⟩
              have hC := half_lt (V := V) (a := 8 * q + (p + 1)) (p := p) (by omega)
              have hS := half_step V (8 * q) p (by omega)
              generalize V / 2 ^ (8 * q + (p + 1)) % 2 ^ (8 - (p + 1)) = C at *
              rw [show ((p + 1 : Nat) : Int) - 1 = (p : Int) from by omega]
              by_cases hpos : 8 * q + p < T
              · obtain ⟨bA, oA, rfl, _, cA⟩ := (HD.out.below hb4).2 (8 * q + p) hpos
                rw [bt_bit hpos] at cA
                have hbit : V / 2 ^ (8 * q + p) % 2 < 2 := Nat.mod_lt _ (by omega)
                generalize V / 2 ^ (8 * q + p) % 2 = bit at *
                have HS := Lib.hid hS
                clear hS
                go_wp2
                go_round
                case rel => exact ⟨p, by omega, rfl, by rw [HS.out]; go_num⟩
                case measure => simp [intOf]
              · have hS2 : V / 2 ^ (8 * q + p) % 2 ^ (8 - p) = 2 * C := by rw [hS, no_bit HR.out hpos, Nat.zero_mod, Nat.add_zero]
                have HS := Lib.hid hS2
                clear hS hS2
                go_wp2
                go_round
                case rel => exact ⟨p, by omega, rfl, by rw [HS.out]; go_num⟩
                case measure => simp [intOf]
            · have e : m = 0 := by omega
              subst e
              have hcc : V / 2 ^ (8 * q + 0) % 2 ^ (8 - 0) < 256 := Nat.mod_lt _ (by decide)
              have hE : Hid (aC 8 (q + 1) V = aC 8 q V ++ [UInt8.ofNat (V / 2 ^ (8 * q + 0) % 2 ^ (8 - 0))]) := eB 8 q V
              generalize V / 2 ^ (8 * q + 0) % 2 ^ (8 - 0) = cc at *
              have hown := HM5.out.own (ar 8 q V)
              have hsz : wo.heap.size ≤ wr.heap.size := hb4.size
              go_wp2_with (at_builtin; refine wpList_append_own _ rfl _ _ 100 rfl wo.heap.size 5 i0 (.int .u8 0) 1 1 Tryz.underlying100 hi hz0 hz1 hz2 rfl (by decide) _ _ _ rfl (hown.alloc _) ⟨wr.heap.size, 0, none⟩ 1 1 [.int .u8 (cc : Int)] rfl rfl ?d1 ?d2 ?d3 ?d4 ?d5 ?_)
              case d2 => rfl
              case d3 => unfold maxLen; omega
              case d4 => omega
              case d5 => omega
              intro v' w1 hown1 hg1 _
              have hx : (cc : Int) = ((UInt8.ofNat cc).toNat : Int) := by rw [UInt8.toNat_ofNat']; omega
              obtain ⟨hm1, hb1⟩ := Made.push HM5.out hb4 hsz hx hown1 hg1
              have hm1' := Lib.hid hm1
              clear hm1 hown1 hg1 hown hx
              go_wp2
              go_roundw
              case rel =>
                refine ⟨q + 1, hq', by go_num, ?_, hb1⟩
                rw [hE.out]; exact hm1'.out
              case measure => simp [intOf]; omega
        · have e : q = M := by omega
          subst e
          go_wp2
          go_ret2
          refine ⟨⟨fun _ => ⟨_, rfl, ?_⟩, fun h => by rw [HN.out] at h; cases h⟩, hbl.trans (hb4.mono hsz0)⟩
          rw [HV.out, HM4.out]
          exact hm.base hsz0
theorem dg_val (b : List UInt8) (q : Nat) : (dg (val 8 b) q : Nat) = bt b q := by
  unfold dg bt
  rw [val_digit (all_256 b)]
theorem mask16 {d : Nat} (h1 : 1 ≤ d) (h2 : d ≤ 8) : IntKind.u16.wrap (IntKind.u16.wrap (2 ^ d) - 1) = ((2 ^ d - 1 : Nat) : Int) := by
  rcases widths h1 h2 with rfl | rfl | rfl | rfl | rfl | rfl | rfl | rfl <;> rfl
theorem and_mask {d y : Nat} (h1 : 1 ≤ d) (h2 : d ≤ 8) (hy : y < 65536) : bits .and .u16 (y : Int) (IntKind.u16.wrap (IntKind.u16.wrap (2 ^ d) - 1)) % 256 = ((y % 2 ^ d : Nat) : Int) := by
  have h3 : 2 ^ d ≤ 2 ^ 8 := Nat.pow_le_pow_right (by omega) h2
  have h4 : y % 2 ^ d < 2 ^ d := Nat.mod_lt _ (Nat.pow_pos (by omega))
  rw [mask16 h1 h2, u16_and_nat y _ hy (by omega), Nat.and_two_pow_sub_one_eq_mod]
  omega
theorem bt_digL {d m V j : Nat} (h2 : d ≤ 8) (hj : j < m) : bt (aC d m V) j = ((V / 2 ^ (j * d) % 2 ^ d : Nat) : Int) := by
  have hl : j < (aC d m V).length := by rw [ar]; exact hj
  rw [cp hl, et h2 hl, Nat.mul_comm d j]
theorem unlay_two {b : List UInt8} {q ab d j m : Nat} (h1 : 1 ≤ d) (h2 : d ≤ 8) (hj : j < m) (hq : j * d / 8 = q) (hab : j * d % 8 = ab) :
    bits .and .u16 (bits .or .u16 (bt b q) (bt b (q + 1) * 256) / 2 ^ ab) (IntKind.u16.wrap (IntKind.u16.wrap (2 ^ d) - 1)) % 256 = bt (aC d m (val 8 b)) j := by
  subst hq hab
  rw [← dg_val, ← dg_val]
  have l1 := dg_lt (val 8 b) (j * d / 8)
  have l2 := dg_lt (val 8 b) (j * d / 8 + 1)
  have e : ((dg (val 8 b) (j * d / 8 + 1) : Nat) : Int) * 256 = ((dg (val 8 b) (j * d / 8 + 1) * 256 : Nat) : Int) := by omega
  rw [e, u16_or_nat _ _ (by omega) (by omega), Nat.or_comm, nat_join 8 _ _ (Nat.mul_mod_left _ (2 ^ 8)) l1]
  have e2 : (((dg (val 8 b) (j * d / 8 + 1) * 256 + dg (val 8 b) (j * d / 8) : Nat) : Int) / 2 ^ (j * d % 8)) = (((dg (val 8 b) (j * d / 8) + 2 ^ 8 * dg (val 8 b) (j * d / 8 + 1)) / 2 ^ (j * d % 8) : Nat) : Int) := by
    have e3 : ((2 : Int) ^ (j * d % 8)) = ((2 ^ (j * d % 8) : Nat) : Int) := by push_cast; rfl
    rw [e3, show dg (val 8 b) (j * d / 8 + 1) * 256 + dg (val 8 b) (j * d / 8) = dg (val 8 b) (j * d / 8) + 2 ^ 8 * dg (val 8 b) (j * d / 8 + 1) from by omega]
    rfl
  have l3 : (dg (val 8 b) (j * d / 8) + 2 ^ 8 * dg (val 8 b) (j * d / 8 + 1)) / 2 ^ (j * d % 8) < 65536 := Nat.lt_of_le_of_lt (Nat.div_le_self _ _) (by omega)
  rw [e2, and_mask h1 h2 l3, read_spill h2, bt_digL h2 hj]
theorem unlay_single {b : List UInt8} {q ab d j m : Nat} (h1 : 1 ≤ d) (h2 : d ≤ 8) (hj : j < m) (hs : ab + d ≤ 8) (hq : j * d / 8 = q) (hab : j * d % 8 = ab) :
    bits .and .u16 (bt b q / 2 ^ ab) (IntKind.u16.wrap (IntKind.u16.wrap (2 ^ d) - 1)) % 256 = bt (aC d m (val 8 b)) j := by
  subst hq hab
  rw [← dg_val]
  have l1 := dg_lt (val 8 b) (j * d / 8)
  have e2 : ((dg (val 8 b) (j * d / 8) : Nat) : Int) / 2 ^ (j * d % 8) = ((dg (val 8 b) (j * d / 8) / 2 ^ (j * d % 8) : Nat) : Int) := by
    have e3 : ((2 : Int) ^ (j * d % 8)) = ((2 ^ (j * d % 8) : Nat) : Int) := by push_cast; rfl
    rw [e3]
    rfl
  have l3 : dg (val 8 b) (j * d / 8) / 2 ^ (j * d % 8) < 65536 := Nat.lt_of_le_of_lt (Nat.div_le_self _ _) (by omega)
  rw [e2, and_mask h1 h2 l3, read_plain hs, bt_digL h2 hj]
set_option maxHeartbeats 1000000 in
theorem unbits_ok (A : Option Addr) (n c N d m B : Nat) (b : List UInt8) (w : World) (HB : Hid (B = w.heap.size)) (hb : Rd w N A n b) (hN : N ≤ B) (hn : n ≤ 140737488355328) (h1 : 1 ≤ d) (h2 : d ≤ 8) (hm : m ≤ 1048576) (hs : bytesOf m d ≤ n) :
    Calls Tryz.prog 162 #[.slice A n c, .int .i64 d, .int .i64 m] w fun e w' => ∃ v, e = .returned (.tuple #[v, .int .i64 0]) ∧ Own w' B v (aC d m (val 8 b)) ∧ Below B w w' := by
  have hBle : B ≤ w.heap.size := Nat.le_of_eq HB.out
  have hd30 : decide (n < bytesOf m d) = false := by simpa using hs
  have hd19 : decide ((m : Int) < 0) = false := by simp
  have hd23 : decide (1048576 < (m : Int)) = false := by simp; omega
  have hmk := run_make_row' (P := Tryz.prog) 100 5 (.int .u8 0) 1 Tryz.underlying100 u8info rfl .i64 .i64 m (by omega) (by omega)
  go_enter Tryz.func162, Tryz.ntmps162
  go_wp2_with (first | (go_at_call 149; refine (mayWidth_yes _ _ (by omega) (by omega)).mono ?_; rintro e w' ⟨rfl, rfl⟩))
  refine (taken_any _ _ _ h1 h2 (by omega)).mono ?_
  rintro e w' ⟨rfl, rfl⟩
  go_wp2
  clear hmk
  have hr0 := World.rowIs_made w (Value.int .u8 0) m 5
  have hbl0 : Below B w (w.alloc (.cells (madeCells #[Value.int .u8 0] m) 5)) := (Below.refl _ _).alloc hBle _
  generalize w.heap.size = g at hr0 hBle ⊢
  go_loopw [37] (fun i wr => ∃ (j : Nat) (f : Nat → Int), j ≤ m ∧ i = .int .i64 j ∧ wr.rowIs g 5 m (fun k => .int .u8 (f k)) ∧ (∀ k, k < j → f k = bt (aC d m (val 8 b)) k) ∧ (∀ k, 0 ≤ f k ∧ f k ≤ 255) ∧ Below B w wr) (fun i _ => m - (intOf i).toNat)
  case atStart => exact ⟨0, fun _ => 0, Nat.zero_le _, rfl, hr0, fun k hk => absurd hk (by omega), fun k => by simp, hbl0⟩
  case round =>
    clear hbl0 hr0
    obtain ⟨j, f, hj, rfl, hrow, hf, hr, hbl⟩ := hrel
    have HF := Lib.hid hf
    have HR := Lib.hid hr
    clear hf hr
    by_cases hlt : j < m
    · go_wp2_with fail
      refine (place_any _ _ _ h1 h2 (by omega)).mono ?_
      rintro e w' ⟨rfl, rfl⟩
      have hab : j * d % 8 ≤ 7 := by omega
      have hq1 : j * d / 8 < n := by
        unfold bytesOf at hs
        have h3 : (j + 1) * d ≤ m * d := Nat.mul_le_mul_right d hlt
        rw [Nat.succ_mul] at h3
        omega
      have hq2 : 8 < j * d % 8 + d → j * d / 8 + 1 < n := by
        unfold bytesOf at hs
        have h3 : (j + 1) * d ≤ m * d := Nat.mul_le_mul_right d hlt
        rw [Nat.succ_mul] at h3
        omega
      generalize hq : j * d / 8 = q at *
      generalize ha : j * d % 8 = ab at *
      have HQ := Lib.hid hq
      have HAB := Lib.hid ha
      clear hq ha
      obtain ⟨bA, oA, rfl, hA, cA⟩ := (hb.below (hbl.mono hN)).2 q hq1
      have hlo := bt_lo b q
      have hhi := bt_hi b q
      have hc1 := hrow.cell hlt
      have hf1 := hrow.frozen j
      by_cases hsp : 8 < ab + d
      · have hq3 := hq2 hsp
        obtain ⟨bA', oA', hA2, _, cA2⟩ := (hb.below (hbl.mono hN)).2 (q + 1) hq3
        injection hA2 with hA2
        injection hA2 with hA3 hA4
        subst hA3 hA4
        have hlo2 := bt_lo b (q + 1)
        have hhi2 := bt_hi b (q + 1)
        go_wp2_with fail
        refine (spills_yes _ _ _ (by omega) h2 hsp).mono ?_
        rintro e w' ⟨rfl, rfl⟩
        go_wp2
        go_roundw
        case rel =>
          rw [unlay_two h1 h2 hlt HQ.out HAB.out]
          refine ⟨j + 1, upd f j (bt (aC d m (val 8 b)) j), by omega, by go_num, row_put hrow _, ?_, ?_, hbl.setCell hBle _⟩
          · intro k hk
            by_cases e : k = j
            · subst e; exact upd_at _ _ _
            · rw [upd_off _ _ e]; exact HF.out k (by omega)
          · intro k
            by_cases e : k = j
            · subst e; rw [upd_at]; exact ⟨bt_lo _ _, bt_hi _ _⟩
            · rw [upd_off _ _ e]; exact HR.out k
        case measure => simp [intOf]; omega
      · clear hq2
        go_wp2_with fail
        refine (spills_no _ _ _ (by omega) h2 hsp).mono ?_
        rintro e w' ⟨rfl, rfl⟩
        go_wp2
        go_roundw
        case rel =>
          rw [unlay_single h1 h2 hlt (by omega) HQ.out HAB.out]
          refine ⟨j + 1, upd f j (bt (aC d m (val 8 b)) j), by omega, by go_num, row_put hrow _, ?_, ?_, hbl.setCell hBle _⟩
          · intro k hk
            by_cases e : k = j
            · subst e; exact upd_at _ _ _
            · rw [upd_off _ _ e]; exact HF.out k (by omega)
          · intro k
            by_cases e : k = j
            · subst e; rw [upd_at]; exact ⟨bt_lo _ _, bt_hi _ _⟩
            · rw [upd_off _ _ e]; exact HR.out k
        case measure => simp [intOf]; omega
    · have e : j = m := by omega
      subst e
      go_wp2
      go_ret2
      exact ⟨_, rfl, Own.of_row (ar _ _ _) hBle hrow (Nat.le_refl _) (by unfold maxLen; omega) HF.out HR.out, hbl⟩
theorem prod_small {d m : Nat} (h2 : d ≤ 8) (hm : m ≤ 1048576) : d * m ≤ 8388608 := Nat.le_trans (Nat.mul_le_mul h2 hm) (by omega)
theorem bit_read {b : List UInt8} (s : Nat) : bt b (s / 8) / 2 ^ (s % 8) % 2 = ((val 8 b / 2 ^ s % 2 : Nat) : Int) := by
  rw [← dg_val]
  have h := read_plain (V := val 8 b) (s := s) (d := 1) (by omega)
  rw [Nat.pow_one] at h
  have e3 : ((2 : Int) ^ (s % 8)) = ((2 ^ (s % 8) : Nat) : Int) := by push_cast; rfl
  rw [← h, e3]
  rfl
theorem part_lt {V a d p : Nat} (hp : p < d) (hd : d ≤ 8) : V / 2 ^ a % 2 ^ (d - (p + 1)) ≤ 127 := by
  have h1 : V / 2 ^ a % 2 ^ (d - (p + 1)) < 2 ^ (d - (p + 1)) := Nat.mod_lt _ (Nat.pow_pos (by omega))
  have h2 : 2 ^ (d - (p + 1)) ≤ 2 ^ 7 := Nat.pow_le_pow_right (by omega) (by omega)
  omega
theorem part_step (V a d p : Nat) (hp : p < d) : V / 2 ^ (a + p) % 2 ^ (d - p) = 2 * (V / 2 ^ (a + (p + 1)) % 2 ^ (d - (p + 1))) + V / 2 ^ (a + p) % 2 := by
  have := bit_step V (a + p) (d - (p + 1))
  rwa [show d - (p + 1) + 1 = d - p from by omega] at this
theorem bit_sum {x : Int} {C y : Nat} (h0 : 0 ≤ x) (hx : x % 2 = ((y % 2 : Nat) : Int)) (hC : C ≤ 127) : (2 * (C : Int) + x.tmod 2) % 256 = ((2 * C + y % 2 : Nat) : Int) := by
  rw [Int.tmod_eq_emod_of_nonneg h0, hx]
  omega
theorem shr_nonneg {b : List UInt8} (s k : Nat) : 0 ≤ bt b s / 2 ^ k := by
  have e3 : ((2 : Int) ^ k) = ((2 ^ k : Nat) : Int) := by push_cast; rfl
  rw [e3]
  exact Int.ediv_nonneg (bt_lo _ _) (Int.natCast_nonneg _)
set_option maxHeartbeats 2000000 in
theorem runbits_ok (A : Option Addr) (n c N d m B : Nat) (b : List UInt8) (w : World) (HB : Hid (B = w.heap.size)) (hb : Rd w N A n b) (hN : N ≤ B) (hn : n ≤ 140737488355328) (h1 : 1 ≤ d) (h2 : d ≤ 8) (hm : m ≤ 1048576) (hs : bytesOf m d ≤ n) :
    Calls Tryz.prog 94 #[.slice A n c, .int .i64 d, .int .i64 m] w fun e w' => ∃ v, e = .returned (.tuple #[v, .int .i64 0]) ∧ Made w' B v (aC d m (val 8 b)) ∧ Below B w w' := by
  have hBle : B ≤ w.heap.size := Nat.le_of_eq HB.out
  obtain ⟨i0, hi, hz0, hz1, hz2⟩ := info_parts u8info
  have hp : d * m ≤ 8388608 := prod_small h2 hm
  have hmul : (d : Int) * (m : Int) = ((d * m : Nat) : Int) := by rw [Int.natCast_mul]
  have hge : d * m ≤ 8 * n := by unfold bytesOf at hs; rw [Nat.mul_comm m d] at hs; omega
  have HM := Lib.hid hge
  have HMS : Hid (∀ i, i < m → i * d + d ≤ d * m) := fun i hi => by rw [← Nat.succ_mul, Nat.mul_comm d m]; exact Nat.mul_le_mul_right d hi
  have hd1 : decide ((d : Int) < 1) = false := by simp; omega
  have hd2 : decide (8 < (d : Int)) = false := by simp; omega
  have hd3 : decide ((m : Int) < 0) = false := by simp
  have hd4 : decide (1048576 < (m : Int)) = false := by simp; omega
  generalize hP : d * m = P at *
  have HP := Lib.hid hP
  have hd5 : decide (8 * (n : Int) < (P : Int)) = false := by simp; omega
  clear hP hs
  go_enter Tryz.func94, Tryz.ntmps94
  go_wp2
  clear hmul hd1 hd2 hd3 hd4 hd5
  have HBR : Hid (∀ s, bt b (s / 8) / 2 ^ (s % 8) % 2 = ((val 8 b / 2 ^ s % 2 : Nat) : Int)) := bit_read
  generalize hV : val 8 b = V at *
  have HV := Lib.hid hV
  clear hV
  go_loopw [8, 9] (fun v i wr => ∃ j : Nat, j ≤ m ∧ i = .int .i64 j ∧ Made wr B v (aC d j V) ∧ Below B w wr) (fun _ i _ => m - (intOf i).toNat)
  case atStart => exact ⟨0, Nat.zero_le _, rfl, World.ownsRow_nil _ _ _ _, Below.refl _ _⟩
  case round =>
    obtain ⟨j, hj, rfl, hm1, hbl⟩ := hrel
    have HM1 := Lib.hid hm1
    clear hm1
    by_cases hlt : j < m
    · have hT := HMS.out j hlt
      have hT2 : (j : Int) * (d : Int) = ((j * d : Nat) : Int) := by rw [Int.natCast_mul]
      have hE : Hid (aC d (j + 1) V = aC d j V ++ [UInt8.ofNat (V / 2 ^ (j * d + 0) % 2 ^ (d - 0))]) := by rw [Nat.add_zero, Nat.sub_zero, Nat.mul_comm j d]; exact eB d j V
      generalize j * d = T at *
      go_wp2
      go_loop [10, 11] (fun x k => ∃ i : Nat, i ≤ d ∧ k = .int .i64 ((i : Int) - 1) ∧ x = .int .u8 ((V / 2 ^ (T + i) % 2 ^ (d - i) : Nat) : Int)) (fun _ k => (intOf k + 1).toNat)
      case atStart => exact ⟨d, Nat.le_refl _, rfl, by simp [Nat.mod_one]⟩
      case round =>
        obtain ⟨i, hi8, rfl, rfl⟩ := hrel
        by_cases hi0 : 0 < i
        · obtain ⟨p, rfl⟩ : ∃ p, i = p + 1 := ⟨i - 1, by omega⟩
          have hC := part_lt (V := V) (a := T + (p + 1)) (p := p) (d := d) (by omega) h2
          have hS := part_step V T d p (by omega)
          have HBR' := Lib.hid (HBR.out (T + p))
          generalize V / 2 ^ (T + (p + 1)) % 2 ^ (d - (p + 1)) = C at *
          have HS := Lib.hid hS
          clear hS
          rw [show ((p + 1 : Nat) : Int) - 1 = (p : Int) from by omega]
          obtain ⟨bA, oA, rfl, _, cA⟩ := (hb.below (hbl.mono hN)).2 ((T + p) / 8) (by have := HM.out; omega)
          have hlo := bt_lo b ((T + p) / 8)
          have hhi := bt_hi b ((T + p) / 8)
          have hMo := HM.out
          go_wp2
          go_round
          case rel => exact ⟨p, by omega, rfl, by rw [HS.out, bit_sum (shr_nonneg _ _) HBR'.out hC]⟩
          case measure => simp [intOf]
        · have e : i = 0 := by omega
          subst e
          have hcc : V / 2 ^ (T + 0) % 2 ^ (d - 0) < 256 := mod_pow_le (by omega) _
          generalize V / 2 ^ (T + 0) % 2 ^ (d - 0) = cc at *
          have hown := HM1.out.own (ar d j V)
          have hsz : B ≤ wr.heap.size := Nat.le_trans hBle hbl.size
          go_wp2_with (at_builtin; refine wpList_append_own _ rfl _ _ 100 rfl B 5 i0 (.int .u8 0) 1 1 Tryz.underlying100 hi hz0 hz1 hz2 rfl (by decide) _ _ _ rfl (hown.alloc _) ⟨wr.heap.size, 0, none⟩ 1 1 [.int .u8 (cc : Int)] rfl rfl ?c1 ?c2 ?c3 ?c4 ?c5 ?_)
          case c2 => rfl
          case c3 => unfold maxLen; omega
          case c4 => omega
          case c5 => omega
          intro v' w1 hown1 hg1 _
          have hx : (cc : Int) = ((UInt8.ofNat cc).toNat : Int) := by rw [UInt8.toNat_ofNat']; omega
          obtain ⟨hm1, hb1⟩ := Made.push HM1.out hbl hsz hx hown1 hg1
          have hm1' := Lib.hid hm1
          clear hm1 hown1 hg1 hown hx
          go_wp2
          go_roundw
          case rel =>
            refine ⟨j + 1, by omega, by go_num, ?_, hb1⟩
            rw [hE.out]; exact hm1'.out
          case measure => simp [intOf]; omega
    · have e : j = m := by omega
      subst e
      go_wp2
      go_ret2
      exact ⟨_, rfl, by rw [HV.out]; exact HM1.out, hbl⟩
end Go.Proofs.YtnliphgjcaippaaGreatDoor
