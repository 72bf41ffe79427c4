import Derived.Test.YtehefifamaofkaaGreatDoorGlae
import Derived.Laws.EntriesVeiled
namespace Go.Proofs.YtehefifamaofkaaGreatDoor
set_option maxHeartbeats 8000000
open Go.Proofs.Tryz
open Go.RowKit
set_option linter.unusedVariables false
set_option maxRecDepth 100000
theorem vR (m c : Nat) (A : Option Addr) (b : List UInt8) (w : World) :
  Calls prog 76 #[.int .u64 0, .slice A m c] w fun e w' => e = .returned (.tuple #[blk (dK 0 b), .int .i64 (el 0 b : Nat)]) /\ Below w.heap.size w w' := by
 have hA := (Below.refl w.heap.size w).alloc ai (.cells (cel aF).toArray 29);have HT := ae (ec w aF 29);have HA := ae hA;clear hA;rw [show dK 0 b = aF from rfl, show el 0 b = 2 from rfl];go_enter func76, ntmps76;go_wp2_with (first | (refine av rfl (bw rfl) ?_) | (refine av rfl (cQ (c := aF) (parts := []) rfl rfl) ?_) | (refine bj rfl (bD rfl rfl rfl HT.out) ?_));refine bodyPost_ret (cI rfl _ _ _ rfl (World.rangeAt_setCells_same _ _ _ _ (by rw [aL]; exact HT))) rfl ⟨rfl, below_setCells HA ai _⟩
theorem sh (n m c : Nat) (A : Option Addr) (b : List UInt8) (w : World) (hb : b.length = m) (h0 : 0 < n) (hm : 44 < m) (hm2 : m <= maxLen) :
  Calls prog 76 #[.int .u64 n, .slice A m c] w fun e w' => e = .returned (.tuple #[blk (dK n b), .int .i64 (el n b : Nat)]) /\ Below w.heap.size w w' := by
 have hA := (Below.refl w.heap.size w).alloc ai (.cells (cel aF).toArray 29);have HT := ae (ec w aF 29);have HA := ae hA;have hE : el n b = 3 := by unfold el; rw [if_neg (by omega), if_pos (by omega)]
 have hB : dK n b = aF := by unfold dK; rw [hE]; rfl
 rw [hE, hB];unfold maxLen at hm2;clear hA hE hB hb;have hz : ((n : Int) == 0) = false := by simp; omega
 go_enter func76, ntmps76;go_wp2_with (first | (refine av rfl (bw rfl) ?_) | (refine av rfl (cQ (c := aF) (parts := []) rfl rfl) ?_) | (refine bj rfl (bD rfl rfl rfl HT.out) ?_));refine bodyPost_ret (cI rfl _ _ _ rfl (World.rangeAt_setCells_same _ _ _ _ (by rw [aL]; exact HT))) rfl ⟨rfl, below_setCells HA ai _⟩
theorem pN (n k B : Nat) (w : World) (HB : Hid (B = w.heap.size)) (hn : n < 18446744073709551616) (h1 : 1 <= k) (h2 : k <= 8) (hk : n < 2 ^ (8 * k)) :
  Calls prog 98 #[.int .u64 n, .int .i64 k] w fun e w' => ∃ v, e = .returned (.tuple #[v, .int .i64 0]) /\ Made w' B v (aU 8 k n) /\ Below B w w' :=
 (y5 n k B w HB hn h1 h2).mono fun e w' ⟨⟨hy, _⟩, hb⟩ => by
  obtain ⟨v, he, hm⟩ := hy hk;exact ⟨v, he, hm, hb⟩
def mW (n : Nat) (b : List UInt8) (k : Nat) : List UInt8 := aU 8 8 n ++ b ++ List.replicate k 0
theorem i7 (n : Nat) (b : List UInt8) (k : Nat) : (mW n b k).length = 8 + b.length + k := by simp [mW, aD]; omega
theorem vE (n : Nat) (b : List UInt8) : mW n b 0 = aU 8 8 n ++ b := by simp [mW]
theorem vX (n : Nat) (b : List UInt8) (k : Nat) : mW n b k ++ [0] = mW n b (k + 1) := by simp [mW, List.replicate_succ']
theorem wH (n : Nat) (b : List UInt8) (k : Nat) (h : 8 + b.length + k = 52) : mW n b k = dl n b := by
 unfold mW dl dM;rw [show 44 - b.length = k from by omega, List.append_assoc]
def adw : Value -> Nat
 |.slice _ n _ => n
 |_ => 0
def adP (n m : Nat) (b : List UInt8) (B : Nat) (w1 : World) (v : Value) (wr : World) : Prop := ∃ k : Nat, 8 + m + k <= 52 /\ Made wr B v (mW n b k) /\ Below B w1 wr
theorem aaS (w : World) : Rd (w.alloc (.cells #[.int .u8 0] 5)) (w.heap.size + 1) (some ⟨w.heap.size, 0, none⟩) 1 [0] := sD w [0] #[.int .u8 0] rfl
theorem vJ (n m c N : Nat) (A : Option Addr) (b : List UInt8) (w : World) (hn : n < 18446744073709551616) (h0 : 0 < n) (hb : Rd w N A m b) (hN : N <= w.heap.size) (hm : m <= 44) :
  Calls prog 76 #[.int .u64 n, .slice A m c] w fun e w' => e = .returned (.tuple #[blk (dK n b), .int .i64 (el n b : Nat)]) /\ Below w.heap.size w w' := by
 have hl := hb.1;have hbl : b.length <= 44 := by omega
 have hE : el n b = 0 := mg (by omega) hbl;have hB : dK n b = ofL (cY n b) := la hE;rw [hE, hB];have hA := (Below.refl w.heap.size w).alloc ai (.cells (cel aF).toArray 29);have HA := ae hA;have HR := ae (hb.below (hA.mono hN));have HRES := ae (cr.blk w aF 29);have HLB := ae hl;have HN := ae hn;have HNN := ae hN;have HL64 := ae (fQ n hbl);have HH52 := ae (dW n hbl);have HC := ae (mC (s := 0) (by omega) (dl n b));clear hl hbl hE hB hA hn hb hN;have hz : ((n : Int) == 0) = false := by simp; omega
 go_enter func76, ntmps76;go_wp2_with (first | (refine av rfl (bw rfl) ?_) | fail);have hn := HN.out;refine (pN n 8 _ _ (ae rfl) hn (by omega) (by omega) hn).mono ?_;rintro e w1 ⟨v1, rfl, hm1, hb1⟩;obtain ⟨A1, c1, rfl, hr1, hcc1, hcc2⟩ := hm1.open_ (aD 8 8 n);clear hn hm1 hcc1 hcc2;have hs1 := hb1.size;have HRES1 := ae (cr.below HRES (by simp only [World.size_alloc]; omega) hb1);have HR1 := ae (HR.out.below (hb1.mono (by have := HNN.out; simp only [World.size_alloc]; omega)));have HB1 := ae (HA.out.trans (hb1.mono (by simp only [World.size_alloc]; omega)));have HD1 := ae hr1;have HS1 : Hid (w.heap.size + 1 <= w1.heap.size) := ae (by simpa only [World.size_alloc] using hs1);clear hr1 hb1 hs1 HR HRES HA;obtain ⟨r, hr⟩ : ∃ r, w.heap.size = r := ⟨_, rfl⟩;have HRR := ae hr;rw [hr] at HRES1 HS1 HNN;rw [hr];clear hr;go_wp2_with fail;obtain ⟨B, hB⟩ : ∃ B, B = w1.heap.size := ⟨_, rfl⟩;have HB := ae hB;rw [<- hB] at HD1 HS1;clear hB;refine (ic A1 8 c1 B B (aU 8 8 n) _ HB HD1 ai (by omega)).mono ?_;rintro e w2 ⟨v2, rfl, hm2, hb2⟩;have hR2 := HR1.out.below (hb2.mono (by have := HNN.out; have := HS1.out; omega));have HBle := ae (show B <= w2.heap.size from ap (Nat.le_of_eq HB) hb2.size);go_wp2_with (at_builtin; refine dS rfl _ _ rfl B N m c _ (aU 8 8 n) b A rfl rfl hm2 hR2 HBle ?c1 ?_)
 case c1 => rw [aD]; omega
 intro v3 w3 hm3 hg3;have hb3 : Below B w1 w3 := hb2.grown hg3 HBle (fun k hk => (hm2.lt k hk).1);rw [<- vE] at hm3;have HM3 := ae hm3;have HB3 := ae hb3;clear hm2 hb2 hR2 hm3 hg3 hb3 HBle;go_wp2
 go_loopw [8] (fun v wr => adP n m b B w1 v wr) (fun v _ => 52 - adw v)
 case atStart => exact ⟨0, by omega, HM3, HB3⟩
 case round =>
  obtain ⟨k, hk, hmr, hbr⟩ := hrel;obtain ⟨A', c', rfl, hr', hc1, hc2⟩ := hmr.open_ (n := 8 + m + k) (by rw [i7, HLB.out]);unfold maxLen at hc2;have hBr : B <= wr.heap.size := ap (Nat.le_of_eq HB) hbr.size;have HMR := ae hmr;have HBR := ae hbr;have HRR' := ae hr';by_cases hlt : 8 + m + k < 52
  ·have hma := hmr.below ((Below.refl wr.heap.size wr).alloc ai (.cells #[.int .u8 0] 5));have hba : Below B w1 (wr.alloc (.cells #[.int .u8 0] 5)) := hbr.alloc hBr _;have hra := aaS wr;clear hmr hbr hr';go_wp2_with (at_builtin; refine dS rfl _ _ rfl B _ 1 1 _ (mW n b k) [0] _ rfl rfl hma hra ?c2 ?c3 ?_)
   case c2 => simp only [World.size_alloc]; omega
   case c3 => rw [i7, HLB.out]; omega
   intro v4 w4 hm4 hg4;rw [vX] at hm4;have HM4 := ae hm4;have HB4 := ae (hba.grown hg4 (by simp only [World.size_alloc]; omega) (fun k hk => (hma.lt k hk).1));obtain ⟨A5, c5, rfl, _, _, _⟩ := hm4.open_ (n := 8 + m + (k + 1)) (by rw [i7, HLB.out]);clear hm4 hg4 hma hba hra;go_wp2;go_roundw
   case rel => exact ⟨k + 1, by omega, HM4, HB4⟩
   case measure => simp [adw]; omega
  ·have hk52 : 8 + m + k = 52 := by omega
   have HPK := ae (wH n b k (by rw [HLB.out]; exact hk52));rw [hk52] at HMR HRR' hc1 ⊢;rw [HPK.out] at HMR HRR';clear hmr hbr hr' hlt hk hk52 HPK;go_wp2_with fail;refine (lz A' 52 c' _ (dl n b) _ HRR' (by unfold maxLen; omega)).mono ?_;rintro e w5 ⟨rfl, rfl⟩;obtain ⟨s, hs⟩ : ∃ s, more 0 (dl n b) = s := ⟨_, rfl⟩;have hs32 := HC.out;rw [hs] at hs32 ⊢;have HSS := ae hs;clear hs;go_wp2_with fail;refine (pN s 4 _ _ (ae rfl) (by omega) (by omega) (by omega) (by omega)).mono ?_;rintro e w5 ⟨v5, rfl, hm5, hb5⟩;obtain ⟨A5, c5, rfl, hr5, hcc1, hcc2⟩ := hm5.open_ (aD 8 4 s);have hmr5 := HMR.out.below hb5;have hbr5 : Below B w1 w5 := HBR.out.trans (hb5.mono hBr);have hB5 : B <= w5.heap.size := ap hBr hb5.size;clear hm5 hb5 hcc1 hcc2 hs32;go_wp2_with (at_builtin; refine dS rfl _ _ rfl B _ 4 c5 _ (dl n b) (aU 8 4 s) A5 rfl rfl hmr5 hr5 hB5 ?c4 ?_)
   case c4 => rw [HH52.out]; omega
   intro v6 w6 hm6 hg6;have HM6 := ae hm6;have HB6 := ae (hbr5.grown hg6 hB5 (fun k hk => (hmr5.lt k hk).1));clear hmr5 hbr5 hm6 hg6 hr5;have hB6 : B <= w6.heap.size := ap (Nat.le_of_eq HB) HB6.out.size;have hm6 := HM6.out;have hr6 := HD1.out.below HB6;go_wp2_with (at_builtin; refine dS rfl _ _ rfl B B 8 c1 _ (dl n b ++ aU 8 4 s) (aU 8 8 n) A1 rfl rfl hm6 hr6 hB6 ?c5 ?_)
   case c5 => rw [List.length_append, HH52.out, aD]; omega
   intro v7 w7 hm7 hg7;have hseal : dl n b ++ (aU 8 4 s ++ aU 8 8 n) = cY n b := by rw [<- HSS.out]; rfl
   rw [hseal] at hm7;obtain ⟨q, c7, rfl, hq7, hc71, hc72⟩ := hm7.smn (by rw [HL64.out]; omega);rw [HL64.out] at hm7 hc71 ⊢;unfold maxLen at hc72;have hrd7 := hm7.rd;have HB7 := ae (HB6.out.grown hg7 hB6 (fun k hk => (hm6.lt k hk).1));have HRD7 := ae hrd7;clear hm7 hg7 hm6 hr6 hseal hrd7 HM6 HB6 HMR HRR' HBR;have hO := aat w7 aF 29;have hb8 := (Below.refl w7.heap.size w7).alloc ai (.cells (cel aF).toArray 29);go_wp2_with (first | (refine av rfl (bw rfl) ?_) | fail);generalize hg2 : w7.heap.size = g2 at *;have HG2 := ae hg2;have HB8 := ae hb8;have HO := ae hO;clear hg2 hb8 hO
   go_loopw [12] (fun i wr => ∃ (j : Nat) (f : Nat -> Int), j <= 64 /\ i = .int .i64 j /\ wr.rowIs g2 29 64 (fun j => .int .u8 (f j)) /\ (∀ m, m < j -> f m = bt (cY n b) m) /\ Below g2 w7 wr) (fun i _ => 64 - (intOf i).toNat)
   case atStart => exact ⟨0, byt aF, by omega, rfl, HO, fun m hm => absurd hm (by omega), HB8⟩
   case round =>
    clear HO HB8;obtain ⟨j, f, hj, rfl, hrow, hf, hbl⟩ := hrel;have HF := ae hf;clear hf;by_cases hlt : j < 64
    ·have hc1 := hrow.cell (i := j) (by omega);have hfr := hrow.frozen j;have hrd := (HRD7.out.below hbl).2 j hlt;obtain ⟨bA, oA, hA1, hA2, hA3⟩ := hrd;injection hA1 with hA1;injection hA1 with e1 e2;subst e1 e2;rw [Nat.zero_add] at hA3;go_wp2_with fail;go_roundw
     case rel =>
      refine ⟨j + 1, upd f j (bt (cY n b) j), by omega, by go_num, pM hrow _, ?_, hbl.setCell (by simp) _⟩;intro m hm;by_cases e : m = j
      ·subst e; exact nu _ _ _
      ·rw [kE _ _ e]; exact HF.out m (by omega)
     case measure => simp [intOf]; omega
    ·have hj64 : j = 64 := by omega
     subst hj64;have hr := vV (c := ofL (cY n b)) (o := 0) hrow (by omega) (fun m hm => by rw [Nat.zero_add, HF.out m hm, mh _ hm]);have HR2 := ae hr;have hBX : Below B w1 wr := HB7.out.trans (hbl.mono (by rw [<- HG2.out]; exact ap (Nat.le_of_eq HB) HB7.out.size));have HRX := HRES1.out.below (by have := HS1.out; omega) hBX;have HTH : Hid (wr.there r 0 64) := ae (oF HRX.row (by simp));have HBB : Hid (Below w.heap.size w wr) := ae (HB1.out.trans (hBX.mono (by rw [HRR.out]; have := HS1.out; omega)));clear hr hbl hrow hBX HRX;go_wp2_with (first | (refine av rfl (bf rfl rfl HR2.out) ?_) | (refine bj rfl (bD rfl rfl rfl HTH.out) ?_) | fail);refine bodyPost_ret (cI rfl _ _ _ rfl (World.rangeAt_setCells_same _ _ _ _ (by rw [aL]; exact HTH))) rfl ⟨rfl, below_setCells HBB (Nat.le_of_eq HRR) _⟩
theorem lN (n m c N : Nat) (A : Option Addr) (b : List UInt8) (w : World) (hn : n < 18446744073709551616) (hb : Rd w N A m b) (hN : N <= w.heap.size) (hm : m <= maxLen) :
  Calls prog 76 #[.int .u64 n, .slice A m c] w fun e w' => e = .returned (.tuple #[blk (dK n b), .int .i64 (el n b : Nat)]) /\ Below w.heap.size w w' := by
 by_cases h0 : n = 0
 ·subst h0;exact vR m c A b w
 ·by_cases h44 : m <= 44
  ·exact vJ n m c N A b w hn (by omega) hb hN h44
  ·exact sh n m c A b w hb.1 (by omega) (by omega) hm
theorem kX (s : Int) (w : World) (h1 : 1 <= s) (h2 : s <= 8) : Calls prog 144 #[.int .i64 s] w fun e w' => e = .returned (.bool true) /\ w = w' := by
 go_enter func144, ntmps144;go_wp2;go_ret;exact ⟨rfl, rfl⟩
theorem tE {d : Nat} (h1 : 1 <= d) (h2 : d <= 8) : d = 1 \/ d = 2 \/ d = 3 \/ d = 4 \/ d = 5 \/ d = 6 \/ d = 7 \/ d = 8 := by omega
def bytesOf (m d : Nat) : Nat := (m * d + 7) / 8
theorem oP (m d : Nat) (w : World) (h1 : 1 <= d) (h2 : d <= 8) (hm : m <= 4611686018427387904) : Calls prog 145 #[.int .i64 m, .int .i64 d] w fun e w' => e = .returned (.int .i64 (bytesOf m d)) /\ w = w' := by
 rcases tE h1 h2 with rfl | rfl | rfl | rfl | rfl | rfl | rfl | rfl
 all_goals
  clear h1 h2;go_enter func145, ntmps145;go_wp2;go_ret;exact ⟨bP (by unfold bytesOf; omega), rfl⟩
theorem oN (m d : Nat) (w : World) (h1 : 1 <= d) (h2 : d <= 8) (hm : m <= 4611686018427387904) : Calls prog 146 #[.int .i64 m, .int .i64 d] w fun e w' => e = .returned (.tuple #[.int .i64 (m * d / 8 : Nat), .int .i64 (m * d % 8 : Nat)]) /\ w = w' := by
 rcases tE h1 h2 with rfl | rfl | rfl | rfl | rfl | rfl | rfl | rfl
 all_goals
  clear h1 h2;go_enter func146, ntmps146;go_wp2;go_ret2;exact ⟨rv (by omega) (by omega), rfl⟩
theorem mN (a d : Nat) (w : World) (ha : a <= 8) (h2 : d <= 8) (h : 8 < a + d) : Calls prog 147 #[.int .i64 a, .int .i64 d] w fun e w' => e = .returned (.bool true) /\ w = w' := by
 go_enter func147, ntmps147;go_wp2;go_ret;exact ⟨bp (by simp; omega), rfl⟩
theorem oQ (a d : Nat) (w : World) (ha : a <= 8) (h2 : d <= 8) (h : ¬ 8 < a + d) : Calls prog 147 #[.int .i64 a, .int .i64 d] w fun e w' => e = .returned (.bool false) /\ w = w' := by
 go_enter func147, ntmps147;go_wp2;go_ret;exact ⟨bp (by simp; omega), rfl⟩
theorem fits_int (n c : Int) (w : World) (hn : 0 <= n) (h0 : 0 <= c) (h64 : c <= 64) : Calls prog 143 #[.int .u64 n, .int .i64 c] w fun e w' => e = .returned (.bool (sB n.toNat c.toNat)) /\ w = w' := by
 obtain ⟨m, rfl⟩ := Int.eq_ofNat_of_zero_le hn;rw [Int.toNat_natCast];exact rC m c w h0 h64
def narrow (d : Nat) (l : List UInt8) : Bool := l.all fun u => decide (u.toNat < 2 ^ d)
theorem ew {d : Nat} {l : List UInt8} (h : narrow d l = true) : ∀ u ∈ l, u.toNat < 2 ^ d := by
 intro u hu;have := List.all_eq_true.1 h u hu
 simpa using this
theorem ow {d : Nat} {l : List UInt8} (h : ∀ j, j < l.length -> bt l j < 2 ^ d) : narrow d l = true := by
 apply List.all_eq_true.2;intro u hu;obtain ⟨j, hj, rfl⟩ := List.getElem_of_mem hu;have := h j hj;rw [cZ hj] at this;rw [decide_eq_true_eq];have e : ((2 : Int) ^ d) = ((2 ^ d : Nat) : Int) := by push_cast; rfl
 rw [e] at this;omega
theorem zm {l : List UInt8} {d j : Nat} (hall : narrow d l = true) (hj : j < l.length) : sB (bt l j).toNat (d : Int).toNat = true := by
 unfold sB;rw [Int.toNat_natCast, decide_eq_true_eq, cZ hj, Int.toNat_natCast];exact ew hall _ (List.getElem_mem hj)
theorem xe {X ab : Nat} (hX : X < 256) (hab : ab <= 7) : IntKind.u16.wrap ((X : Int) * 2 ^ ab) = ((X * 2 ^ ab : Nat) : Int) := by
 have h2 : 2 ^ ab <= 2 ^ 7 := Nat.pow_le_pow_right (by omega) hab;have h3 : X * 2 ^ ab <= 255 * 2 ^ 7 := Nat.mul_le_mul (by omega) h2;have e : ((X : Int) * 2 ^ ab) = ((X * 2 ^ ab : Nat) : Int) := by push_cast; rfl
 rw [e];exact IntWalk.u16_in _ ⟨by omega, by omega⟩
theorem uI {x1 X ab : Nat} (h1 : x1 < 256) (hX : X < 256) (hab : ab <= 7) : bits .or .u8 (x1 : Int) (IntKind.u16.wrap ((X : Int) * 2 ^ ab) % 256) = ((x1 ||| (X * 2 ^ ab % 2 ^ 8) : Nat) : Int) := by
 rw [xe hX hab];exact u8_or_nat x1 (X * 2 ^ ab % 256) h1 (Nat.mod_lt _ (by decide))
theorem aaJ {x2 X ab : Nat} (h1 : x2 < 256) (hX : X < 256) (hab : ab <= 7) : bits .or .u8 (x2 : Int) (IntKind.u16.wrap ((X : Int) * 2 ^ ab) / 256 % 256) = ((x2 ||| (X * 2 ^ ab / 2 ^ 8) : Nat) : Int) := by
 rw [xe hX hab];have h2 : 2 ^ ab <= 2 ^ 7 := Nat.pow_le_pow_right (by omega) hab;have h3 : X * 2 ^ ab <= 255 * 2 ^ 7 := Nat.mul_le_mul (by omega) h2;have e : (((X * 2 ^ ab : Nat) : Int) / 256 % 256) = ((X * 2 ^ ab / 256 : Nat) : Int) := by omega
 rw [e];exact u8_or_nat x2 (X * 2 ^ ab / 256) h1 (by omega)
theorem zl {w : World} {g t q ab i d V X : Nat} {e : TypeId} (hrow : w.rowIs g e t (fun k => .int .u8 (dg V k : Nat))) (hV : V < 2 ^ (i * d)) (hX : X < 2 ^ d) (hd : d <= 8) (hq : i * d / 8 = q) (hab : i * d % 8 = ab) :
  ((w.setCell ⟨g, q, none⟩ (.int .u8 (bits .or .u8 (dg V q : Nat) (IntKind.u16.wrap ((X : Int) * 2 ^ ab) % 256)))).setCell ⟨g, q + 1, none⟩ (.int .u8 (bits .or .u8 (dg V (q + 1) : Nat) (IntKind.u16.wrap ((X : Int) * 2 ^ ab) / 256 % 256)))).rowIs g e t
   (fun k => .int .u8 (dg (V + 2 ^ (i * d) * X) k : Nat)) := by
 have hX8 : X < 256 := aq hX (Nat.pow_le_pow_right (by omega) hd);have h7 : ab <= 7 := by omega
 refine ((hrow.set q _).set (q + 1) _).congr fun k hk => ?_
 rw [uI (jW _ _) hX8 h7, aaJ (jW _ _) hX8 h7, zy hV hX hd hq hab]
 show (if k = q + 1 then _ else if k = q then _ else _) = _
 split
 ·rfl
 ·split <;> rfl
theorem sV {w : World} {g t q ab i d V X : Nat} {e : TypeId} (hrow : w.rowIs g e t (fun k => .int .u8 (dg V k : Nat))) (hV : V < 2 ^ (i * d)) (hX : X < 2 ^ d) (hd : d <= 8) (hs : ab + d <= 8) (hq : i * d / 8 = q) (hab : i * d % 8 = ab) :
  (w.setCell ⟨g, q, none⟩ (.int .u8 (bits .or .u8 (dg V q : Nat) (IntKind.u16.wrap ((X : Int) * 2 ^ ab) % 256)))).rowIs g e t
   (fun k => .int .u8 (dg (V + 2 ^ (i * d) * X) k : Nat)) := by
 have hX8 : X < 256 := aq hX (Nat.pow_le_pow_right (by omega) hd);refine (hrow.set q _).congr fun k hk => ?_
 rw [uI (jW _ _) hX8 (by omega), sM hV hX hs hq hab]
 show (if k = q then _ else _) = _
 split <;> rfl
theorem z6 (A : Option Addr) (n c N d B : Nat) (l : List UInt8) (w : World) (HB : Hid (B = w.heap.size)) (hl : Rd w N A n l) (hN : N <= B) (hn : n <= 140737488351232) (h1 : 1 <= d) (h2 : d <= 8) (hall : narrow d l = true) :
  Calls prog 130 #[.slice A n c, .int .i64 d] w fun e w' => ∃ v, e = .returned (.tuple #[v, .int .i64 0]) /\ Own w' B v (aU 8 (bytesOf n d) (val d l)) /\ Below B w w' := by
 have HA := ae hall;clear hall;have hBle : B <= w.heap.size := Nat.le_of_eq HB;have htot : bytesOf n d <= 140737488355328 := by unfold bytesOf; have := Nat.mul_le_mul_left n h2; omega
 have hmk := run_make_row' (P := prog) 116 5 (.int .u8 0) 1 underlying116 kb rfl .i64 .i64 (bytesOf n d) (by omega) (by omega);go_enter func130, ntmps130;go_wp2_with (first | (go_at_call 144; refine (kX _ _ (by omega) (by omega)).mono ?_; rintro e w' ⟨rfl, rfl⟩))
 go_loop [18] (fun i => ∃ j : Nat, j <= n /\ i = .int .i64 j) (fun i => n - (intOf i).toNat)
 case atStart => exact ⟨0, Nat.zero_le _, rfl⟩
 case round =>
  obtain ⟨j, hj, rfl⟩ := hrel;by_cases hlt : j < n
  ·obtain ⟨bA, oA, rfl, hA, cA⟩ := hl.2 j hlt;have hlo := gM l j;have hhi := jU l j;go_wp2_with fail;refine (fits_int _ _ _ hlo (by omega) (by omega)).mono ?_;rintro e w' ⟨rfl, rfl⟩;rw [zm HA.out (by have := hl.1; omega)];go_wp2
   go_round
   case rel => exact ⟨j + 1, by omega, by go_num⟩
   case measure => simp [intOf]; omega
  ·have e : j = n := by omega
   subst e;go_wp2_with fail;refine (oP _ _ _ h1 h2 (by omega)).mono ?_;rintro e w' ⟨rfl, rfl⟩;go_wp2;clear hmk;have hr0 := World.rowIs_made w (Value.int .u8 0) (bytesOf j d) 5;have hbl0 : Below B w (w.alloc (.cells (madeCells #[Value.int .u8 0] (bytesOf j d)) 5)) := aj.alloc hBle _;generalize w.heap.size = g at hr0 hBle ⊢
   go_loopw [35] (fun i wr => ∃ i' : Nat, i' <= j /\ i = .int .i64 i' /\ wr.rowIs g 5 (bytesOf j d) (fun k => .int .u8 (dg (val d (l.take i')) k : Nat)) /\ Below B w wr) (fun i _ => j - (intOf i).toNat)
   case atStart => exact ⟨0, Nat.zero_le _, rfl, hr0.congr fun k _ => by simp [val, dg], hbl0⟩
   case round =>
    clear hbl0 hr0;obtain ⟨i, hi, rfl, hrow, hbl⟩ := hrel;by_cases hlt : i < j
    ·go_wp2_with fail;refine (oN _ _ _ h1 h2 (by omega)).mono ?_;rintro e w' ⟨rfl, rfl⟩;have hab : i * d % 8 <= 7 := by omega
     have hq1 : i * d / 8 < bytesOf j d := by
      unfold bytesOf;have h3 : (i + 1) * d <= j * d := Nat.mul_le_mul_right d hlt;rw [Nat.succ_mul] at h3;omega
     have hq2 : 8 < i * d % 8 + d -> i * d / 8 + 1 < bytesOf j d := by
      unfold bytesOf;have h3 : (i + 1) * d <= j * d := Nat.mul_le_mul_right d hlt;rw [Nat.succ_mul] at h3;omega
     generalize hq : i * d / 8 = q at *;generalize ha : i * d % 8 = ab at *;have HQ := ae hq;have HAB := ae ha;clear hq ha;obtain ⟨bA, oA, rfl, hA, cA⟩ := (hl.below (hbl.mono hN)).2 i hlt;have hlo := gM l i;have hhi := jU l i;have hc1 := hrow.cell hq1;have hf1 := hrow.frozen q;have hf2 := hrow.frozen (q + 1);generalize hV : val d (l.take i) = V at *;have HV := ae hV;clear hV;have hd1 := jW V q;generalize hx : dg V q = x1 at *;have HX := ae hx;clear hx;by_cases hsp : 8 < ab + d
     ·have hq3 := hq2 hsp;have hc2 := hrow.cell hq3;have hd2 := jW V (q + 1);generalize hx : dg V (q + 1) = x2 at *;have HX2 := ae hx;clear hx hq2;go_wp2_with fail;refine (mN _ _ _ (by omega) h2 hsp).mono ?_;rintro e w' ⟨rfl, rfl⟩;go_wp2;go_roundw
      case rel =>
       refine ⟨i + 1, by omega, by go_num, ?_, (hbl.setCell hBle _).setCell hBle _⟩;have hl' : i < l.length := by have := hl.1; omega
       rw [gI hl', HV.out, <- HX.out, <- HX2.out, cZ hl'];exact zl hrow (by rw [<- HV.out]; exact lR (ew HA.out) (by omega)) (ew HA.out _ (List.getElem_mem hl')) h2 HQ.out HAB.out
      case measure => simp [intOf]; omega
     ·clear hq2;go_wp2_with fail;refine (oQ _ _ _ (by omega) h2 hsp).mono ?_;rintro e w' ⟨rfl, rfl⟩;go_wp2;go_roundw
      case rel =>
       refine ⟨i + 1, by omega, by go_num, ?_, hbl.setCell hBle _⟩;have hl' : i < l.length := by have := hl.1; omega
       rw [gI hl', HV.out, <- HX.out, cZ hl'];exact sV hrow (by rw [<- HV.out]; exact lR (ew HA) (by omega)) (ew HA _ (List.getElem_mem hl')) h2 (by omega) HQ HAB
      case measure => simp [intOf]; omega
    ·have e : i = j := by omega
     subst e;go_wp2;go_ret2;refine ⟨_, rfl, Own.sf (aD _ _ _) hBle hrow ai (by unfold maxLen; omega) ?_ ?_, hbl⟩
     ·intro k hk;have hk' : k < (aU 8 (bytesOf i d) (val d l)).length := by rw [aD]; exact hk
      rw [cZ hk', fN (by omega) hk', List.take_of_length_le (by have := hl.1; omega)]
      rfl
     ·intro k;have := jW (val d (l.take i)) k;omega
theorem wv {l : List UInt8} {j d X : Nat} (hj : j < l.length) (hX : bt l j = (X : Int)) (hall : ∀ k, k < j -> bt l k < 2 ^ d) :
  aU 1 (j * d) (val d (l.take j)) ++ aU 1 d X = aU 1 ((j + 1) * d) (val d (l.take (j + 1))) := by
 have e : l[j].toNat = X := by rw [cZ hj] at hX; omega
 have hlt : val d (l.take j) < 2 ^ (j * d) := by
  have h := mV (w := d) (l := l.take j) (ew (ow fun k hk => ?_))
  ·rwa [List.length_take, Nat.min_eq_left (by omega), Nat.mul_comm] at h
  ·have hk' : k < j := by rw [List.length_take] at hk; omega
   have := hall k hk';have e2 : bt (l.take j) k = bt l k := by
    rw [cZ hk, cZ (by omega)];simp
   rw [e2];exact this
 rw [gI hj, e, Nat.succ_mul, <- yW X (by rw [Nat.one_mul]; exact hlt), Nat.one_mul]
theorem xc {l : List UInt8} {j d X : Nat} (hX : bt l j = (X : Int)) (hf : X < 2 ^ d) (hall : ∀ k, k < j -> bt l k < 2 ^ d) : ∀ k, k < j + 1 -> bt l k < 2 ^ d := by
 intro k hk;by_cases e : k = j
 ·subst e;rw [hX];have e : ((2 : Int) ^ d) = ((2 ^ d : Nat) : Int) := by push_cast; rfl
  rw [e];omega
 ·exact hall k (by omega)
theorem tz {l : List UInt8} {j d X : Nat} (hj : j < l.length) (hX : bt l j = (X : Int)) (hf : ¬ X < 2 ^ d) : narrow d l = true -> False := by
 intro h;have := ew h _ (List.getElem_mem hj);rw [cZ hj] at hX;omega
theorem abJ {T V k : Nat} (h : k < T) : bt (aU 1 T V) k = ((V / 2 ^ k % 2 : Nat) : Int) := by
 have hl : k < (aU 1 T V).length := by rw [aD]; exact h
 rw [cZ hl, fN (by omega) hl, Nat.one_mul, Nat.pow_one]
theorem acr {T V k : Nat} (hV : V < 2 ^ T) (h : ¬ k < T) : V / 2 ^ k = 0 := Nat.div_eq_of_lt (aq hV (Nat.pow_le_pow_right (by omega) (by omega)))
theorem zi {V a p : Nat} (hp : p < 8) : V / 2 ^ a % 2 ^ (8 - (p + 1)) <= 127 := by
 have h1 : V / 2 ^ a % 2 ^ (8 - (p + 1)) < 2 ^ (8 - (p + 1)) := Nat.mod_lt _ (Nat.pow_pos (by omega));have h2 : 2 ^ (8 - (p + 1)) <= 2 ^ 7 := Nat.pow_le_pow_right (by omega) (by omega);omega
theorem vk (V a p : Nat) (hp : p < 8) : V / 2 ^ (a + p) % 2 ^ (8 - p) = 2 * (V / 2 ^ (a + (p + 1)) % 2 ^ (8 - (p + 1))) + V / 2 ^ (a + p) % 2 := by
 have := rx V (a + p) (8 - (p + 1));rwa [show 8 - (p + 1) + 1 = 8 - p from by omega] at this
theorem vz (A : Option Addr) (n c N d B : Nat) (l : List UInt8) (w : World) (HB : Hid (B = w.heap.size)) (hl : Rd w N A n l) (hN : N <= B) (hn : n <= 3000) (h1 : 1 <= d) (h2 : d <= 8) :
  Calls prog 102 #[.slice A n c, .int .i64 d] w fun e w' =>
   ((narrow d l = true -> ∃ v, e = .returned (.tuple #[v, .int .i64 0]) /\ Made w' B v (aU 8 (bytesOf n d) (val d l))) /\ (narrow d l = false -> e = .returned (.tuple #[.slice none 0 0, .int .i64 2]))) /\ Below B w w' := by
 have hBle : B <= w.heap.size := Nat.le_of_eq HB;have hd1 : decide ((d : Int) < 1) = false := by simp; omega
 have hd2 : decide (8 < (d : Int)) = false := by simp; omega
 obtain ⟨i0, hi, hz0, hz1, hz2⟩ := info_parts kb;go_enter func102, ntmps102;go_wp2
 go_loopw [6, 7] (fun v i wr => ∃ j : Nat, j <= n /\ i = .int .i64 j /\ Made wr B v (aU 1 (j * d) (val d (l.take j))) /\ (∀ k, k < j -> bt l k < 2 ^ d) /\ Below B w wr) (fun _ i _ => n - (intOf i).toNat)
 case atStart => exact ⟨0, Nat.zero_le _, rfl, by rw [Nat.zero_mul]; exact World.ownsRow_nil _ _ _ _, fun k hk => absurd hk (by omega), aj⟩
 case round =>
  obtain ⟨j, hj, rfl, hm, hall, hbl⟩ := hrel;have HA := ae hall;clear hall;by_cases hlt : j < n
  ·obtain ⟨bA, oA, rfl, hA, cA⟩ := (hl.below (hbl.mono hN)).2 j hlt;have hX : bt l j = ((l.getD j 0).toNat : Int) := rfl;have hXl : (l.getD j 0).toNat < 256 := UInt8.toNat_lt _;generalize (l.getD j 0).toNat = X at hX hXl;have HX := ae hX;rw [hX] at cA;clear hX;have hm' := ae hm;clear hm;obtain ⟨wo, rfl⟩ : ∃ wo : World, wo = wr := ⟨_, rfl⟩;go_wp2;have hszo : B <= wo.heap.size := ap hBle hbl.size
   go_loopw [6, 8, 9] (fun v x k wr => ∃ i : Nat, i <= d /\ k = .int .i64 i /\ x = .int .u8 ((X / 2 ^ i : Nat) : Int) /\ Made wr B v (aU 1 (j * d) (val d (l.take j)) ++ aU 1 i X) /\ Below B wo wr) (fun _ _ k _ => d - (intOf k).toNat)
   case atStart => exact ⟨0, Nat.zero_le _, rfl, by simp, by rw [show aU 1 0 X = [] from rfl, List.append_nil]; exact hm'.out, aj⟩
   case round =>
    obtain ⟨i, hi', rfl, rfl, hm, hbi⟩ := hrel;by_cases hlti : i < d
    ·have hq : X / 2 ^ i <= X := Nat.div_le_self _ _;have hsz : B <= wr.heap.size := ap hszo hbi.size;have hE : Hid (X / 2 ^ (i + 1) = X / 2 ^ i / 2 /\ aU 1 (i + 1) X = aU 1 i X ++ [UInt8.ofNat (X / 2 ^ i % 2)]) := ⟨by rw [Nat.pow_succ, <- Nat.div_div_eq_div_mul], by rw [fX, Nat.one_mul]⟩;have hln : (aU 1 (j * d) (val d (l.take j)) ++ aU 1 i X).length = j * d + i := by rw [List.length_append, aD, aD]
     have hjd : j * d <= 3000 * 8 := Nat.mul_le_mul (by omega) h2;generalize hrw : aU 1 (j * d) (val d (l.take j)) ++ aU 1 i X = row at *;have HRW := ae hrw;have hown := hm.own hln;have HM2 := ae hm;clear hm hln hrw;generalize X / 2 ^ i = q at *;go_wp2_with (at_builtin; refine wpList_append_own _ rfl _ _ 116 rfl B 5 i0 (.int .u8 0) 1 1 underlying116 hi hz0 hz1 hz2 rfl (by decide) _ _ _ rfl (hown.alloc _) ⟨wr.heap.size, 0, none⟩ 1 1 [.int .u8 ((q : Int) % 2)] rfl rfl ?c1 ?c2 ?c3 ?c4 ?c5 ?_)
     case c1 => exact cell_one_new _ _ _
     case c2 => intro u hu; simp at hu; subst hu; rfl
     case c3 => unfold maxLen; omega
     case c4 => omega
     case c5 => simp; omega
     intro v' w1 hown1 hg1 _;have hx : ((q : Int) % 2) = ((UInt8.ofNat (q % 2)).toNat : Int) := by rw [UInt8.toNat_ofNat']; omega
     obtain ⟨hm1, hb1⟩ := Made.push HM2 hbi hsz hx hown1 hg1;have hm1' := ae hm1;clear hm1 hown1 hg1 hown hx HM2;go_wp2;go_roundw
     case rel =>
      refine ⟨i + 1, by omega, by go_num, ?_, ?_, hb1⟩
      ·rw [hE.out.1]; simp
      ·rw [hE.out.2, <- List.append_assoc, HRW.out]; exact hm1'.out
     case measure => simp [intOf]; omega
    ·have e : i = d := by omega
     subst e;by_cases hfit : X < 2 ^ i
     ·rw [Nat.div_eq_of_lt hfit];have HM3 := ae hm;clear hm;go_wp2;go_roundw
      case rel =>
       refine ⟨j + 1, by omega, by go_num, ?_, xc HX hfit HA, hbl.trans (hbi.mono ai)⟩;rw [<- wv (by have := hl.1; omega) HX.out HA.out];exact HM3
      case measure => simp [intOf]; omega
     ·have hq0 : 0 < X / 2 ^ i := Nat.div_pos (by omega) (Nat.pow_pos (by omega));generalize X / 2 ^ i = q at *;go_wp2;go_ret2;exact ⟨⟨fun h => (tz (by have := hl.1; omega) HX hfit h).elim, fun _ => rfl⟩, hbl.trans hbi⟩
  ·have e : j = n := by omega
   subst e;have hnar : narrow d l = true := ow fun k hk => HA.out k (by have := hl.1; omega)
   rw [List.take_of_length_le (by have := hl.1; omega)] at hm;have hR : val d l < 2 ^ (j * d) := by have := mV (ew hnar); rwa [hl.1, Nat.mul_comm] at this
   have HR := ae hR;have HN := ae hnar;clear hR hnar;have hjd : j * d <= 3000 * 8 := Nat.mul_le_mul (by omega) h2;have hld := aD 1 (j * d) (val d l);generalize hV : val d l = V at *;obtain ⟨A1, c1, rfl, d1, _, hc1⟩ := hm.open_ (n := j * d) hld;have HV := ae hV;clear hV hld;have HD := ae d1;have hsz0 : B <= wr.heap.size := ap hBle hbl.size;have hby : bytesOf j d * 8 < j * d + 8 /\ j * d <= bytesOf j d * 8 := by unfold bytesOf; omega
   generalize hT : j * d = T at *;generalize hM : bytesOf j d = M at *;have HM4 := ae hM;have HT := ae hT;obtain ⟨hby1, hby2⟩ := hby
   clear hm hM hT d1;obtain ⟨wo, rfl⟩ : ∃ wo : World, wo = wr := ⟨_, rfl⟩;have hB4 : Below wo.heap.size wo wo := aj;go_wp2
   go_loopw [10, 11] (fun v i wr => ∃ q : Nat, q <= M /\ i = .int .i64 (8 * (q : Int)) /\ Made wr wo.heap.size v (aU 8 q V) /\ Below wo.heap.size wo wr) (fun _ i _ => T + 8 - (intOf i).toNat)
   case atStart => exact ⟨0, Nat.zero_le _, by simp, World.ownsRow_nil _ _ _ _, hB4⟩
   case round =>
    obtain ⟨q, hq, rfl, hm, hb4⟩ := hrel;clear hB4;by_cases hlt : 8 * q < T
    ·have hq' : q + 1 <= M := by omega
     have HM5 := ae hm;clear hm;go_wp2
     go_loop [12, 13] (fun x k => ∃ m : Nat, m <= 8 /\ k = .int .i64 ((m : Int) - 1) /\ x = .int .u8 ((V / 2 ^ (8 * q + m) % 2 ^ (8 - m) : Nat) : Int)) (fun _ k => (intOf k + 1).toNat)
     case atStart => exact ⟨8, ai, rfl, by simp [Nat.mod_one]⟩
     case round =>
      obtain ⟨m, hm8, rfl, rfl⟩ := hrel;by_cases hm0 : 0 < m
      ·obtain ⟨p, rfl⟩ : ∃ p, m = p + 1 := ⟨m - 1, by omega⟩;have hC := zi (V := V) (a := 8 * q + (p + 1)) (p := p) (by omega);have hS := vk V (8 * q) p (by omega);generalize V / 2 ^ (8 * q + (p + 1)) % 2 ^ (8 - (p + 1)) = C at *;rw [show ((p + 1 : Nat) : Int) - 1 = (p : Int) from by omega];by_cases hpos : 8 * q + p < T
       ·obtain ⟨bA, oA, rfl, _, cA⟩ := (HD.out.below hb4).2 (8 * q + p) hpos;rw [abJ hpos] at cA;have hbit : V / 2 ^ (8 * q + p) % 2 < 2 := Nat.mod_lt _ (by omega);generalize V / 2 ^ (8 * q + p) % 2 = bit at *;have HS := ae hS;clear hS;go_wp2
        go_round
        case rel => exact ⟨p, by omega, rfl, by rw [HS.out]; go_num⟩
        case measure => simp [intOf]
       ·have hS2 : V / 2 ^ (8 * q + p) % 2 ^ (8 - p) = 2 * C := by rw [hS, acr HR.out hpos, Nat.zero_mod, Nat.add_zero]
        have HS := ae hS2;clear hS hS2;go_wp2
        go_round
        case rel => exact ⟨p, by omega, rfl, by rw [HS.out]; go_num⟩
        case measure => simp [intOf]
      ·have e : m = 0 := by omega
       subst e;have hcc : V / 2 ^ (8 * q + 0) % 2 ^ (8 - 0) < 256 := Nat.mod_lt _ (by decide);have hE : Hid (aU 8 (q + 1) V = aU 8 q V ++ [UInt8.ofNat (V / 2 ^ (8 * q + 0) % 2 ^ (8 - 0))]) := fX 8 q V;generalize V / 2 ^ (8 * q + 0) % 2 ^ (8 - 0) = cc at *;have hown := HM5.out.own (aD 8 q V);have hsz : wo.heap.size <= wr.heap.size := hb4.size;go_wp2_with (at_builtin; refine wpList_append_own _ rfl _ _ 116 rfl wo.heap.size 5 i0 (.int .u8 0) 1 1 underlying116 hi hz0 hz1 hz2 rfl (by decide) _ _ _ rfl (hown.alloc _) ⟨wr.heap.size, 0, none⟩ 1 1 [.int .u8 (cc : Int)] rfl rfl ?d1 ?d2 ?d3 ?d4 ?d5 ?_)
       case d2 => rfl
       case d3 => unfold maxLen; omega
       case d4 => omega
       case d5 => omega
       intro v' w1 hown1 hg1 _;have hx : (cc : Int) = ((UInt8.ofNat cc).toNat : Int) := by rw [UInt8.toNat_ofNat']; omega
       obtain ⟨hm1, hb1⟩ := Made.push HM5 hb4 hsz hx hown1 hg1;have hm1' := ae hm1;clear hm1 hown1 hg1 hown hx;go_wp2;go_roundw
       case rel =>
        refine ⟨q + 1, hq', by go_num, ?_, hb1⟩;rw [hE.out]; exact hm1'.out
       case measure => simp [intOf]; omega
    ·have e : q = M := by omega
     subst e;go_wp2;go_ret2;refine ⟨⟨fun _ => ⟨_, rfl, ?_⟩, fun h => by rw [HN.out] at h; cases h⟩, hbl.trans (hb4.mono hsz0)⟩;rw [HV.out, HM4.out];exact hm.base hsz0
theorem pH (b : List UInt8) (q : Nat) : (dg (val 8 b) q : Nat) = bt b q := by
 unfold dg bt;rw [om (o9 b)]
theorem aco {d : Nat} (h1 : 1 <= d) (h2 : d <= 8) : IntKind.u16.wrap (IntKind.u16.wrap (2 ^ d) - 1) = ((2 ^ d - 1 : Nat) : Int) := by
 rcases tE h1 h2 with rfl | rfl | rfl | rfl | rfl | rfl | rfl | rfl <;> rfl
theorem qO {d y : Nat} (h1 : 1 <= d) (h2 : d <= 8) (hy : y < 65536) : bits .and .u16 (y : Int) (IntKind.u16.wrap (IntKind.u16.wrap (2 ^ d) - 1)) % 256 = ((y % 2 ^ d : Nat) : Int) := by
 have h3 : 2 ^ d <= 2 ^ 8 := Nat.pow_le_pow_right (by omega) h2;have h4 : y % 2 ^ d < 2 ^ d := Nat.mod_lt _ (Nat.pow_pos (by omega));rw [aco h1 h2, u16_and_nat y _ hy (by omega), Nat.and_two_pow_sub_one_eq_mod];omega
theorem un {d m V j : Nat} (h2 : d <= 8) (hj : j < m) : bt (aU d m V) j = ((V / 2 ^ (j * d) % 2 ^ d : Nat) : Int) := by
 have hl : j < (aU d m V).length := by rw [aD]; exact hj
 rw [cZ hl, fN h2 hl, Nat.mul_comm d j]
theorem uZ {b : List UInt8} {q ab d j m : Nat} (h1 : 1 <= d) (h2 : d <= 8) (hj : j < m) (hq : j * d / 8 = q) (hab : j * d % 8 = ab) :
  bits .and .u16 (bits .or .u16 (bt b q) (bt b (q + 1) * 256) / 2 ^ ab) (IntKind.u16.wrap (IntKind.u16.wrap (2 ^ d) - 1)) % 256 = bt (aU d m (val 8 b)) j := by
 subst hq hab;rw [<- pH, <- pH];have l1 := jW (val 8 b) (j * d / 8);have l2 := jW (val 8 b) (j * d / 8 + 1);have e : ((dg (val 8 b) (j * d / 8 + 1) : Nat) : Int) * 256 = ((dg (val 8 b) (j * d / 8 + 1) * 256 : Nat) : Int) := by omega
 rw [e, u16_or_nat _ _ (by omega) (by omega), Nat.or_comm, nat_join 8 _ _ (Nat.mul_mod_left _ (2 ^ 8)) l1];have e2 : (((dg (val 8 b) (j * d / 8 + 1) * 256 + dg (val 8 b) (j * d / 8) : Nat) : Int) / 2 ^ (j * d % 8)) = (((dg (val 8 b) (j * d / 8) + 2 ^ 8 * dg (val 8 b) (j * d / 8 + 1)) / 2 ^ (j * d % 8) : Nat) : Int) := by
  have e3 : ((2 : Int) ^ (j * d % 8)) = ((2 ^ (j * d % 8) : Nat) : Int) := by push_cast; rfl
  rw [e3, show dg (val 8 b) (j * d / 8 + 1) * 256 + dg (val 8 b) (j * d / 8) = dg (val 8 b) (j * d / 8) + 2 ^ 8 * dg (val 8 b) (j * d / 8 + 1) from by omega]
  rfl
 have l3 : (dg (val 8 b) (j * d / 8) + 2 ^ 8 * dg (val 8 b) (j * d / 8 + 1)) / 2 ^ (j * d % 8) < 65536 := Nat.lt_of_le_of_lt (Nat.div_le_self _ _) (by omega);rw [e2, qO h1 h2 l3, sw h2, un h2 hj]
theorem oZ {b : List UInt8} {q ab d j m : Nat} (h1 : 1 <= d) (h2 : d <= 8) (hj : j < m) (hs : ab + d <= 8) (hq : j * d / 8 = q) (hab : j * d % 8 = ab) :
  bits .and .u16 (bt b q / 2 ^ ab) (IntKind.u16.wrap (IntKind.u16.wrap (2 ^ d) - 1)) % 256 = bt (aU d m (val 8 b)) j := by
 subst hq hab;rw [<- pH];have l1 := jW (val 8 b) (j * d / 8);have e2 : ((dg (val 8 b) (j * d / 8) : Nat) : Int) / 2 ^ (j * d % 8) = ((dg (val 8 b) (j * d / 8) / 2 ^ (j * d % 8) : Nat) : Int) := by
  have e3 : ((2 : Int) ^ (j * d % 8)) = ((2 ^ (j * d % 8) : Nat) : Int) := by push_cast; rfl
  rw [e3]
  rfl
 have l3 : dg (val 8 b) (j * d / 8) / 2 ^ (j * d % 8) < 65536 := Nat.lt_of_le_of_lt (Nat.div_le_self _ _) (by omega);rw [e2, qO h1 h2 l3, nc hs, un h2 hj]
theorem vQ (A : Option Addr) (n c N d m B : Nat) (b : List UInt8) (w : World) (HB : Hid (B = w.heap.size)) (hb : Rd w N A n b) (hN : N <= B) (hn : n <= 140737488355328) (h1 : 1 <= d) (h2 : d <= 8) (hm : m <= 1048576) (hs : bytesOf m d <= n) :
  Calls prog 138 #[.slice A n c, .int .i64 d, .int .i64 m] w fun e w' => ∃ v, e = .returned (.tuple #[v, .int .i64 0]) /\ Own w' B v (aU d m (val 8 b)) /\ Below B w w' := by
 have hBle : B <= w.heap.size := Nat.le_of_eq HB;have hd30 : decide (n < bytesOf m d) = false := by simpa using hs
 have hd19 : decide ((m : Int) < 0) = false := by simp
 have hd23 : decide (1048576 < (m : Int)) = false := by simp; omega
 have hmk := run_make_row' (P := prog) 116 5 (.int .u8 0) 1 underlying116 kb rfl .i64 .i64 m (by omega) (by omega);go_enter func138, ntmps138;go_wp2_with (first | (go_at_call 144; refine (kX _ _ (by omega) (by omega)).mono ?_; rintro e w' ⟨rfl, rfl⟩));refine (oP _ _ _ h1 h2 (by omega)).mono ?_;rintro e w' ⟨rfl, rfl⟩;go_wp2;clear hmk;have hr0 := World.rowIs_made w (Value.int .u8 0) m 5;have hbl0 : Below B w (w.alloc (.cells (madeCells #[Value.int .u8 0] m) 5)) := aj.alloc hBle _;generalize w.heap.size = g at hr0 hBle ⊢
 go_loopw [37] (fun i wr => ∃ (j : Nat) (f : Nat -> Int), j <= m /\ i = .int .i64 j /\ wr.rowIs g 5 m (fun k => .int .u8 (f k)) /\ (∀ k, k < j -> f k = bt (aU d m (val 8 b)) k) /\ (∀ k, 0 <= f k /\ f k <= 255) /\ Below B w wr) (fun i _ => m - (intOf i).toNat)
 case atStart => exact ⟨0, fun _ => 0, Nat.zero_le _, rfl, hr0, fun k hk => absurd hk (by omega), fun k => by simp, hbl0⟩
 case round =>
  clear hbl0 hr0;obtain ⟨j, f, hj, rfl, hrow, hf, hr, hbl⟩ := hrel;have HF := ae hf;have HR := ae hr;clear hf hr;by_cases hlt : j < m
  ·go_wp2_with fail;refine (oN _ _ _ h1 h2 (by omega)).mono ?_;rintro e w' ⟨rfl, rfl⟩;have hab : j * d % 8 <= 7 := by omega
   have hq1 : j * d / 8 < n := by
    unfold bytesOf at hs;have h3 : (j + 1) * d <= m * d := Nat.mul_le_mul_right d hlt;rw [Nat.succ_mul] at h3;omega
   have hq2 : 8 < j * d % 8 + d -> j * d / 8 + 1 < n := by
    unfold bytesOf at hs;have h3 : (j + 1) * d <= m * d := Nat.mul_le_mul_right d hlt;rw [Nat.succ_mul] at h3;omega
   generalize hq : j * d / 8 = q at *;generalize ha : j * d % 8 = ab at *;have HQ := ae hq;have HAB := ae ha;clear hq ha;obtain ⟨bA, oA, rfl, hA, cA⟩ := (hb.below (hbl.mono hN)).2 q hq1;have hlo := gM b q;have hhi := jU b q;have hc1 := hrow.cell hlt;have hf1 := hrow.frozen j;by_cases hsp : 8 < ab + d
   ·have hq3 := hq2 hsp;obtain ⟨bA', oA', hA2, _, cA2⟩ := (hb.below (hbl.mono hN)).2 (q + 1) hq3;injection hA2 with hA2;injection hA2 with hA3 hA4;subst hA3 hA4;have hlo2 := gM b (q + 1);have hhi2 := jU b (q + 1);go_wp2_with fail;refine (mN _ _ _ (by omega) h2 hsp).mono ?_;rintro e w' ⟨rfl, rfl⟩;go_wp2;go_roundw
    case rel =>
     rw [uZ h1 h2 hlt HQ.out HAB.out];refine ⟨j + 1, upd f j (bt (aU d m (val 8 b)) j), by omega, by go_num, pM hrow _, ?_, ?_, hbl.setCell hBle _⟩
     ·intro k hk;by_cases e : k = j
      ·subst e; exact nu _ _ _
      ·rw [kE _ _ e]; exact HF.out k (by omega)
     ·intro k;by_cases e : k = j
      ·subst e; rw [nu]; exact ⟨gM _ _, jU _ _⟩
      ·rw [kE _ _ e]; exact HR.out k
    case measure => simp [intOf]; omega
   ·clear hq2;go_wp2_with fail;refine (oQ _ _ _ (by omega) h2 hsp).mono ?_;rintro e w' ⟨rfl, rfl⟩;go_wp2;go_roundw
    case rel =>
     rw [oZ h1 h2 hlt (by omega) HQ.out HAB.out];refine ⟨j + 1, upd f j (bt (aU d m (val 8 b)) j), by omega, by go_num, pM hrow _, ?_, ?_, hbl.setCell hBle _⟩
     ·intro k hk;by_cases e : k = j
      ·subst e; exact nu _ _ _
      ·rw [kE _ _ e]; exact HF.out k (by omega)
     ·intro k;by_cases e : k = j
      ·subst e; rw [nu]; exact ⟨gM _ _, jU _ _⟩
      ·rw [kE _ _ e]; exact HR.out k
    case measure => simp [intOf]; omega
  ·have e : j = m := by omega
   subst e;go_wp2;go_ret2;exact ⟨_, rfl, Own.sf (aD _ _ _) hBle hrow ai (by unfold maxLen; omega) HF HR, hbl⟩
theorem sQ {d m : Nat} (h2 : d <= 8) (hm : m <= 1048576) : d * m <= 8388608 := ap (Nat.mul_le_mul h2 hm) (by omega)
theorem xE {b : List UInt8} (s : Nat) : bt b (s / 8) / 2 ^ (s % 8) % 2 = ((val 8 b / 2 ^ s % 2 : Nat) : Int) := by
 rw [<- pH];have h := nc (V := val 8 b) (s := s) (d := 1) (by omega);rw [Nat.pow_one] at h;have e3 : ((2 : Int) ^ (s % 8)) = ((2 ^ (s % 8) : Nat) : Int) := by push_cast; rfl
 rw [<- h, e3]
 rfl
theorem aaz {V a d p : Nat} (hp : p < d) (hd : d <= 8) : V / 2 ^ a % 2 ^ (d - (p + 1)) <= 127 := by
 have h1 : V / 2 ^ a % 2 ^ (d - (p + 1)) < 2 ^ (d - (p + 1)) := Nat.mod_lt _ (Nat.pow_pos (by omega));have h2 : 2 ^ (d - (p + 1)) <= 2 ^ 7 := Nat.pow_le_pow_right (by omega) (by omega);omega
theorem vp (V a d p : Nat) (hp : p < d) : V / 2 ^ (a + p) % 2 ^ (d - p) = 2 * (V / 2 ^ (a + (p + 1)) % 2 ^ (d - (p + 1))) + V / 2 ^ (a + p) % 2 := by
 have := rx V (a + p) (d - (p + 1));rwa [show d - (p + 1) + 1 = d - p from by omega] at this
theorem zZ {x : Int} {C y : Nat} (h0 : 0 <= x) (hx : x % 2 = ((y % 2 : Nat) : Int)) (hC : C <= 127) : (2 * (C : Int) + x.tmod 2) % 256 = ((2 * C + y % 2 : Nat) : Int) := by
 rw [Int.tmod_eq_emod_of_nonneg h0, hx];omega
theorem r8 {b : List UInt8} (s k : Nat) : 0 <= bt b s / 2 ^ k := by
 have e3 : ((2 : Int) ^ k) = ((2 ^ k : Nat) : Int) := by push_cast; rfl
 rw [e3];exact Int.ediv_nonneg (gM _ _) (Int.natCast_nonneg _)
theorem iw (A : Option Addr) (n c N d m B : Nat) (b : List UInt8) (w : World) (HB : Hid (B = w.heap.size)) (hb : Rd w N A n b) (hN : N <= B) (hn : n <= 140737488355328) (h1 : 1 <= d) (h2 : d <= 8) (hm : m <= 1048576) (hs : bytesOf m d <= n) :
  Calls prog 109 #[.slice A n c, .int .i64 d, .int .i64 m] w fun e w' => ∃ v, e = .returned (.tuple #[v, .int .i64 0]) /\ Made w' B v (aU d m (val 8 b)) /\ Below B w w' := by
 have hBle : B <= w.heap.size := Nat.le_of_eq HB;obtain ⟨i0, hi, hz0, hz1, hz2⟩ := info_parts kb;have hp : d * m <= 8388608 := sQ h2 hm;have hmul : (d : Int) * (m : Int) = ((d * m : Nat) : Int) := by rw [Int.natCast_mul]
 have hge : d * m <= 8 * n := by unfold bytesOf at hs; rw [Nat.mul_comm m d] at hs; omega
 have HM := ae hge;have HMS : Hid (∀ i, i < m -> i * d + d <= d * m) := fun i hi => by rw [<- Nat.succ_mul, Nat.mul_comm d m]; exact Nat.mul_le_mul_right d hi
 have hd1 : decide ((d : Int) < 1) = false := by simp; omega
 have hd2 : decide (8 < (d : Int)) = false := by simp; omega
 have hd3 : decide ((m : Int) < 0) = false := by simp
 have hd4 : decide (1048576 < (m : Int)) = false := by simp; omega
 generalize hP : d * m = P at *;have HP := ae hP;have hd5 : decide (8 * (n : Int) < (P : Int)) = false := by simp; omega
 clear hP hs;go_enter func109, ntmps109;go_wp2;clear hmul hd1 hd2 hd3 hd4 hd5;have HBR : Hid (∀ s, bt b (s / 8) / 2 ^ (s % 8) % 2 = ((val 8 b / 2 ^ s % 2 : Nat) : Int)) := xE;generalize hV : val 8 b = V at *;have HV := ae hV;clear hV
 go_loopw [8, 9] (fun v i wr => ∃ j : Nat, j <= m /\ i = .int .i64 j /\ Made wr B v (aU d j V) /\ Below B w wr) (fun _ i _ => m - (intOf i).toNat)
 case atStart => exact ⟨0, Nat.zero_le _, rfl, World.ownsRow_nil _ _ _ _, aj⟩
 case round =>
  obtain ⟨j, hj, rfl, hm1, hbl⟩ := hrel;have HM1 := ae hm1;clear hm1;by_cases hlt : j < m
  ·have hT := HMS.out j hlt;have hT2 : (j : Int) * (d : Int) = ((j * d : Nat) : Int) := by rw [Int.natCast_mul]
   have hE : Hid (aU d (j + 1) V = aU d j V ++ [UInt8.ofNat (V / 2 ^ (j * d + 0) % 2 ^ (d - 0))]) := by rw [Nat.add_zero, Nat.sub_zero, Nat.mul_comm j d]; exact fX d j V
   generalize j * d = T at *;go_wp2
   go_loop [10, 11] (fun x k => ∃ i : Nat, i <= d /\ k = .int .i64 ((i : Int) - 1) /\ x = .int .u8 ((V / 2 ^ (T + i) % 2 ^ (d - i) : Nat) : Int)) (fun _ k => (intOf k + 1).toNat)
   case atStart => exact ⟨d, ai, rfl, by simp [Nat.mod_one]⟩
   case round =>
    obtain ⟨i, hi8, rfl, rfl⟩ := hrel;by_cases hi0 : 0 < i
    ·obtain ⟨p, rfl⟩ : ∃ p, i = p + 1 := ⟨i - 1, by omega⟩;have hC := aaz (V := V) (a := T + (p + 1)) (p := p) (d := d) (by omega) h2;have hS := vp V T d p (by omega);have HBR' := ae (HBR.out (T + p));generalize V / 2 ^ (T + (p + 1)) % 2 ^ (d - (p + 1)) = C at *;have HS := ae hS;clear hS;rw [show ((p + 1 : Nat) : Int) - 1 = (p : Int) from by omega];obtain ⟨bA, oA, rfl, _, cA⟩ := (hb.below (hbl.mono hN)).2 ((T + p) / 8) (by have := HM.out; omega);have hlo := gM b ((T + p) / 8);have hhi := jU b ((T + p) / 8);have hMo := HM.out;go_wp2
     go_round
     case rel => exact ⟨p, by omega, rfl, by rw [HS.out, zZ (r8 _ _) HBR'.out hC]⟩
     case measure => simp [intOf]
    ·have e : i = 0 := by omega
     subst e;have hcc : V / 2 ^ (T + 0) % 2 ^ (d - 0) < 256 := kh (by omega) _;generalize V / 2 ^ (T + 0) % 2 ^ (d - 0) = cc at *;have hown := HM1.out.own (aD d j V);have hsz : B <= wr.heap.size := ap hBle hbl.size;go_wp2_with (at_builtin; refine wpList_append_own _ rfl _ _ 116 rfl B 5 i0 (.int .u8 0) 1 1 underlying116 hi hz0 hz1 hz2 rfl (by decide) _ _ _ rfl (hown.alloc _) ⟨wr.heap.size, 0, none⟩ 1 1 [.int .u8 (cc : Int)] rfl rfl ?c1 ?c2 ?c3 ?c4 ?c5 ?_)
     case c2 => rfl
     case c3 => unfold maxLen; omega
     case c4 => omega
     case c5 => omega
     intro v' w1 hown1 hg1 _;have hx : (cc : Int) = ((UInt8.ofNat cc).toNat : Int) := by rw [UInt8.toNat_ofNat']; omega
     obtain ⟨hm1, hb1⟩ := Made.push HM1 hbl hsz hx hown1 hg1;have hm1' := ae hm1;clear hm1 hown1 hg1 hown hx;go_wp2;go_roundw
     case rel =>
      refine ⟨j + 1, by omega, by go_num, ?_, hb1⟩;rw [hE.out]; exact hm1'.out
     case measure => simp [intOf]; omega
  ·have e : j = m := by omega
   subst e;go_wp2;go_ret2;exact ⟨_, rfl, by rw [HV.out]; exact HM1, hbl⟩
theorem gt {ρ : Operand -> Value} {o : Oper} {x y : Operand} {w : World} (g : Nat) (ho : o.op = .store 171 x y) (hx : ρ x = .pointer (some ⟨w.heap.size, 0, none⟩)) (hy : ρ y = .agg (fq g)) :
  (execOp ρ o).run prog (w.alloc (.cells #[.slice none 0 0, .slice none 0 0, .slice none 0 0, .slice none 0 0, .slice none 0 0] 171)) = .ok .skip (w.alloc (.cells (fq g) 171)) :=
 kn (by kernel_rfl) rfl rfl ho hx hy
theorem sW (w w1 : World) (hb : Below ((w.alloc (.cells (cel aF).toArray 29)).alloc (.cells (cel aF).toArray 29)).heap.size ((w.alloc (.cells (cel aF).toArray 29)).alloc (.cells (cel aF).toArray 29)) w1) :
  nw w.heap.size w (w1.alloc (.cells (fq (w.heap.size + 1)) 171)) w.heap.size (w.heap.size + 1) w1.heap.size aF.toList := by
 have h1 := (Below.refl w.heap.size w).alloc ai (.cells (cel aF).toArray 29);have h2 := h1.alloc h1.size (.cells (cel aF).toArray 29);have hs := hb.size;simp only [World.size_alloc] at hs;have hr : cr w1 w.heap.size 29 aF.toList := cr.below ((cr.blk w aF 29).past _) (by simp only [World.size_alloc]; omega) hb;have hg : cr w1 (w.heap.size + 1) 29 aF.toList := cr.below (by have := cr.blk (w.alloc (.cells (cel aF).toArray 29)) aF 29; rwa [World.size_alloc] at this) (by simp only [World.size_alloc]; omega) hb;have hbel : Below w.heap.size w w1 := h2.trans (hb.mono (by simp only [World.size_alloc]; omega));exact ⟨hr.past _, hg.past _, heap_alloc_new w1 _, hbel.alloc (by omega) _, ai, by omega, by omega, by omega⟩
theorem zN (n m c N : Nat) (A : Option Addr) (b : List UInt8) (w : World) (T : Tab w) (hn : n < 18446744073709551616) (h0 : 0 < n) (hb : Rd w N A m b) (hN : N <= w.heap.size) (hm : m <= 44) :
  Calls prog 121 #[.int .u64 n, .slice A m c] w fun e w' => e = .returned (.tuple #[blk (dK n b), .int .i64 (el n b : Nat)]) /\ Below w.heap.size w w' := by
 have hl := hb.1;have hbl : b.length <= 44 := by omega
 have hE : el n b = 0 := mg (by omega) hbl;have hB : dK n b = ofL (cY n b) := la hE;rw [hE, hB];have HS := ae (rX (n := n) hbl);have HH := ae (tK (n := n) hbl);have HL := ae (fU (n := n) hbl);have HL64 := ae (fQ n hbl);have HC := ae (mC (s := 0) (by omega) (dl n b));have HT := ae T;have HR := ae hb;have HB := ae hl;have HN := ae hn;have HNN := ae hN;clear hE hB T hb hl hbl hn hN;have hz : ((n : Int) == 0) = false := by simp; omega
 go_enter func121, ntmps121;go_wp2_with (first | (refine av rfl (bw rfl) ?_) | fail);refine (kC (w.heap.size + 1) _).mono ?_;rintro e w1 ⟨rfl, hb1⟩;have hW := sW w w1 hb1;have HBW := ae hb1.size;clear hb1;have HFP := HBW.out;obtain ⟨c0, c1, c2, c3, c4⟩ := hW.par.cells;obtain ⟨g, hg⟩ : ∃ g, w.heap.size + 1 = g := ⟨_, rfl⟩;rw [hg] at hW c0 c1 c2 c3 c4;rw [hg];have HGG := ae hg;clear HFP hg;have HW := ae hW;clear hW;go_wp2_with (first | (refine bj rfl (gt g rfl rfl rfl) ?_) | fail);clear c0 c1 c2 c3 c4 HBW HGG;have HN8 := HN.out;refine (pm g 0 8 n 29 aF.toList _ HW.out.row (by omega) (by omega) (by simp) (by simpa using HN8)).mono ?_;rintro e w2 ⟨rfl, hr2, hg2⟩;have HW2 := ae (HW.out.turn hr2 hg2 ai);clear hr2 hg2 HW;obtain ⟨c0, c1, c2, c3, c4⟩ := HW2.out.par.cells;generalize w1.heap.size = p at *;obtain ⟨r, hr⟩ : ∃ r, r = w.heap.size := ⟨_, rfl⟩;have HRR := ae hr;rw [<- hr] at HNN HW2 ⊢;clear hr;clear HN8;go_wp2_with fail;clear c0 c1 c2 c3 c4;have HN8 := HN.out;refine (pm g 56 8 n 29 _ _ HW2.out.row (by omega) (by omega) (by rw [ml]; omega) (by simpa using HN8)).mono ?_;rintro e w3 ⟨rfl, hr3, hg3⟩;have HW3 := ae (HW2.out.turn hr3 hg3 (Nat.le_of_eq HRR));clear hr3 hg3 HW2 HN8;obtain ⟨c0, c1, c2, c3, c4⟩ := HW3.out.par.cells;have HR3 := ae (HR.out.below (HW3.out.bel.mono HNN));have HL2 := ae (mB n);obtain ⟨l2, hl2⟩ : ∃ l2, splice (splice aF.toList 0 (aU 8 8 n)) 56 (aU 8 8 n) = l2 := ⟨_, rfl⟩;have HNS : Hid (splice l2 8 b = kV n b) := ae (by rw [<- hl2]; rfl);rw [hl2] at HW3 HL2;clear hl2;go_wp2_with (with_reducible refine eJ rfl _ _ rfl g 8 44 44 m c N A 29 l2 b rfl rfl HW3.out.row HR3.out hm ?c1 ?_)
 case c1 => rw [HL2.out]; omega
 intro w4 hr4 hg4;rw [HNS.out] at hr4;have HW4 := ae (HW3.out.turn hr4 hg4 (Nat.le_of_eq HRR));clear hr4 hg4 HW3 HR3 HL2 c0 c1 c2 c3 c4;go_wp2_with fail;refine wp_region_held (S := fun w' => Hid (nw r w w' r g p (kV n b) \/ nw r w w' r g p (cY n b))) (by kernel_rfl) ?_;change wpAnyH _ _ _ _ _ 7 _ _ w4.drew;have hS : Hid (nw r w w4.drew r g p (kV n b) \/ nw r w w4.drew r g p (cY n b)) := ae (.inl HW4.out.draw);refine aes 0 rfl (fun _ hw => ax rfl aez ab1) hS ?_;refine aes 1 rfl (fun _ hw => aE rfl aez (ldS (hw.out.elim (fun h => h.par.cells.2.2.1) (fun h => h.par.cells.2.2.1)))) hS ?_;refine aes 2 rfl (fun _ hw => ax rfl aez acm) hS ?_;refine aes 3 rfl (fun _ hw => aE rfl aez (ldS (hw.out.elim (fun h => h.par.cells.2.2.2.2) (fun h => h.par.cells.2.2.2.2)))) hS ?_;refine fx 4 rfl (by kernel_rfl) rfl (aC call133 rfl (evc aez evn)) ?_;have T4 : Tab w4.drew := (HT.out.below (by rw [<- HRR.out]; exact HW4.out.draw.bel));have R4 := HW4.out.draw.row.rd (p := 0) (k := 52) (by rw [HL.out]; omega);rw [HH.out] at R4;refine (xz _ 52 52 _ (dl n b) _ T4 R4 (by unfold maxLen; omega)).mono ?_;rintro e w' ⟨rfl, rfl⟩;refine ⟨_, rfl, hS, ?_⟩;simp only [aa];clear T4 R4;refine aes 5 rfl (fun _ hw => lO rfl aez HC) hS ?_;refine fx 6 rfl (by kernel_rfl) rfl (aC call132 rfl (evc aez (evc aez evn))) ?_;refine (pm g 52 4 (more 0 (dl n b)) 29 _ _ HW4.out.draw.row (by omega) (by omega) (by rw [HL.out]; omega) (by have := HC.out; simpa using this)).mono ?_;rintro e w5 ⟨rfl, hr5, hg5⟩;rw [HS.out] at hr5;have HW5 := ae (HW4.out.draw.turn hr5 hg5 (Nat.le_of_eq HRR));refine ⟨_, rfl, ae (.inr HW5), ?_⟩;simp only [aa];clear hr5 hg5 hS HW4;refine wpAnyH_done (by kernel_rfl) ?_ _;have HG := ae (HW5.out.row.range HL64);have HTH : Hid (w5.there r 0 64) := ae (oF HW5.out.res.row (by simp));have HBB : Hid (Below w.heap.size w w5) := ae (by rw [<- HRR.out]; exact HW5.out.bel);go_wp2_with (first | (refine av rfl (bf rfl rfl HG.out) ?_) | (refine bj rfl (bD rfl rfl rfl HTH.out) ?_) | fail);refine bodyPost_ret (cI rfl _ _ _ rfl (World.rangeAt_setCells_same _ _ _ _ (by rw [aL]; exact HTH))) rfl ⟨rfl, below_setCells HBB (Nat.le_of_eq HRR.out.symm) _⟩
theorem aaf (n m c N : Nat) (A : Option Addr) (b : List UInt8) (w : World) (T : Tab w) (hn : n < 18446744073709551616) (hb : Rd w N A m b) (hN : N <= w.heap.size) (hm : m <= maxLen) :
  Calls prog 121 #[.int .u64 n, .slice A m c] w fun e w' => e = .returned (.tuple #[blk (dK n b), .int .i64 (el n b : Nat)]) /\ Below w.heap.size w w' := by
 by_cases h0 : n = 0
 ·subst h0;exact aaw m c A b w hb.1
 ·by_cases h44 : m <= 44
  ·exact zN n m c N A b w T hn (by omega) hb hN h44
  ·exact yT n m c A b w hb.1 (by omega) (by omega) hm
set_option linter.unusedSimpArgs false
def jM (p q : Nat) : Value := .func (.func 141) #[] #[.pointer (some ⟨p, 0, none⟩), .pointer (some ⟨q, 0, none⟩)]
def ji (w : World) (p q : Nat) (S : Value) (k : Nat) : Prop := w.heap[p]? = some (.cells #[.int .i64 (k : Int)] 3 (0, 0)) /\ w.heap[q]? = some (.cells #[S] 116 (0, 0))
theorem nG (S : Value) (A : Option Addr) (n c : Nat) (hS : S = .slice A n c) (w : World) : Calls prog 127 #[S] w fun e w' => ∃ p q, e = .returned (jM p q) /\ ji w' p q S 0 /\ w.heap.size <= p /\ w.heap.size <= q /\ p ≠ q /\ p < w'.heap.size /\ q < w'.heap.size /\ Below w.heap.size w w' := by
 subst hS;have hmf : ∀ (fn : Fn) (first cap : Array Value) (w : World), (Instr.makeFunc fn first cap).run prog w = .ok (.func fn first cap) w := fun _ _ _ _ => rfl
 go_enter func127, ntmps127;go_wp2;go_ret;have e1 := World.size_alloc (w := w) (o := Obj.cells #[Value.slice A n c] 116);refine ⟨w.heap.size + 1, w.heap.size, rfl, ⟨?_, ?_⟩, by omega, by omega, by omega, ?_, ?_, ?_⟩
 ·have := heap_alloc_new (w.alloc (.cells #[.slice A n c] 116)) (.cells #[.int .i64 0] 3);rwa [e1] at this
 ·exact bO (heap_alloc_new w _) _
 ·simp only [World.size_alloc]; omega
 ·simp only [World.size_alloc]; omega
 ·exact ((Below.refl _ w).alloc ai _).alloc (by simp only [World.size_alloc]; omega) _
theorem ab3 (g off n c : Nat) (w : World) {i j : Nat} (h1 : i < j) (h2 : j <= n) (h3 : n <= c) : (Instr.sliceAt 116 (.slice (some ⟨g, off, none⟩) n c) (some (.int .i64 (i : Int))) (some (.int .i64 (j : Int))) (some (.int .i64 (j : Int)))).run prog w = .ok (.slice (some ⟨g, off + i, none⟩) (j - i) (j - i)) w := by
 have e1 : (0 <= (j : Int) /\ (j : Int) <= (c : Int)) := by omega
 have e2 : (0 <= (j : Int) /\ (j : Int) <= (j : Int)) := by omega
 have e3 : (0 <= (i : Int) /\ (i : Int) <= (j : Int)) := by omega
 have e4 : j ≠ i := by omega
 have e5 : i <= j := by omega
 have e6 : j <= c := by omega
 simp [Instr.sliceAt, Instr.slice, Instr.sliceBounds, Instr.sliceBound, Instr.sureAddr, asIntOf, run_underlying underlying116, Tryz.sizeOf5, Addr.add_mid, e1, e2, e3, e4, e5, e6]
theorem z8 (p q g off n c k s : Nat) (w : World) (h : ji w p q (.slice (some ⟨g, off, none⟩) n c) k) (hpq : p ≠ q) (hs : 0 < s) (hk : k + s <= n) (hc : n <= c) (hn : n <= 1000000) :
  Calls prog 141 #[.int .i64 (s : Int), .pointer (some ⟨p, 0, none⟩), .pointer (some ⟨q, 0, none⟩)] w fun e w' => e = .returned (.slice (some ⟨g, off + k, none⟩) s s) /\ ji w' p q (.slice (some ⟨g, off, none⟩) n c) (k + s) /\ w.grownBy w' (some p) := by
 obtain ⟨h1, h2⟩ := h;obtain ⟨a1, a2⟩ := cell1 h1;obtain ⟨b1, b2⟩ := cell1 h2;have s1 := set1 h1 (.int .i64 ((k : Int) + s));have s2 : (w.setCell ⟨p, 0, none⟩ (.int .i64 ((k : Int) + s))).heap[q]? = some (.cells #[.slice (some ⟨g, off, none⟩) n c] 116 (0, 0)) := (heap_setCell_other w ⟨p, 0, none⟩ q _ (fun e => hpq e.symm)).trans h2;have d1 := (cell1 s1).1;have d2 := (cell1 s2).1;have hg := fz w p 0 (.int .i64 ((k : Int) + s));have S1 := ae s1;have S2 := ae s2;have HG := ae hg;have HCUT : Hid (∀ w : World, (Instr.sliceAt 116 (.slice (some ⟨g, off, none⟩) n c) (some (.int .i64 (k : Int))) (some (.int .i64 ((k : Int) + (s : Int)))) (some (.int .i64 ((k : Int) + (s : Int))))).run prog w = .ok (.slice (some ⟨g, off + k, none⟩) s s) w) := ae fun w => by
  have := ab3 g off n c w (i := k) (j := k + s) (by omega) hk hc;rw [show k + s - k = s from by omega] at this;exact this
 clear h1 h2 s1 s2 hg b1 b2;go_enter func141, ntmps141;go_wp2_with (first | (refine au rfl (fV rfl rfl rfl rfl rfl (HCUT.out _)) ?_) | fail);go_ret;exact ⟨rfl, ⟨S1, S2⟩, HG⟩
structure pe (B : Nat) (w0 w : World) (x : Sup) (sb rb r nb p q g : Nat) (a : List UInt8) : Prop where
 sup : bJ w sb x
 ros : bQ w rb x.ros
 res : cr w r 162 z44
 nxt : w.heap[nb]? = some (.cells #[jM p q] 167 (0, 0))
 cut : ji w p q (.slice (some ⟨g, 0, none⟩) 44 44) a.length
 row : cr w g 162 (dM a)
 bel : Below B w0 w
 p0 : B <= p
 g0 : B <= g
 dif : sb ≠ p /\ sb ≠ g /\ rb ≠ p /\ rb ≠ g /\ r ≠ p /\ r ≠ g /\ nb ≠ p /\ nb ≠ g /\ p ≠ q /\ p ≠ g /\ q ≠ g
section
variable {B : Nat} {w0 w w' : World} {x : Sup} {sb rb r nb p q g : Nat} {a b : List UInt8}
theorem pe.keep (h : pe B w0 w x sb rb r nb p q g a) (hb : Below w.heap.size w w') (hB : B <= w0.heap.size) : pe B w0 w' x sb rb r nb p q g a :=
 ⟨aB h.sup hb, aB h.ros hb, aB h.res hb, aB h.nxt hb, ⟨aB h.cut.1 hb, aB h.cut.2 hb⟩, aB h.row hb, h.bel.trans (hb.mono (ap hB h.bel.size)), h.p0, h.g0, h.dif⟩
theorem pe.adl (h : pe B w0 w x sb rb r nb p q g a) (hc : ji w' p q (.slice (some ⟨g, 0, none⟩) 44 44) b.length) (hr : cr w' g 162 (dM b)) (hg : ∃ w1, w.grownBy w1 (some p) /\ w1.grownBy w' (some g)) (hB : B <= w0.heap.size) : pe B w0 w' x sb rb r nb p q g b := by
 obtain ⟨w1, k1, k2⟩ := hg;obtain ⟨d1, d2, d3, d4, d5, d6, d7, d8, d9, d10, d11⟩ := h.dif;have hb1 : Below B w0 w1 := h.bel.grown k1 (ap hB h.bel.size) (fun k hk => by injection hk with e; have := h.p0; omega);have hb2 : Below B w0 w' := hb1.grown k2 (ap hB hb1.size) (fun k hk => by injection hk with e; have := h.g0; omega);exact ⟨cl (cl h.sup k1 d1) k2 d2, cl (cl h.ros k1 d3) k2 d4, cl (cl h.res k1 d5) k2 d6, cl (cl h.nxt k1 d7) k2 d8, hc, hr, hb2, h.p0, h.g0, h.dif⟩
end
theorem Made.ox {w w' : World} {B : Nat} {v : Value} {l : List UInt8} {row : Option Nat} (h : Made w B v l) (hg : w.grownBy w' row) (hne : ∀ k, row = Option.some k -> k < B) : Made w' B v l := by
 refine ⟨h.1, ?_⟩;rcases h.2 with hn | ⟨g, cap, cur, rfl, hbg, hgg, rest⟩
 ·exact .inl hn
 ·refine .inr ⟨g, cap, cur, rfl, hbg, ?_, rest⟩;rw [hg.block g (Array.getElem?_eq_some_iff.1 hgg).1 (fun e => by have := hne g e.symm; omega)];exact hgg
theorem sI (B : Nat) (w0 w : World) (x : Sup) (sb rb r nb p q g : Nat) (a : List UInt8) (n k : Nat) (h : pe B w0 w x sb rb r nb p q g a) (hB : B <= w0.heap.size) (h1 : 1 <= k) (h2 : k <= 8) (hk : a.length + k <= 44) (hn : n < 256 ^ k) :
  Calls prog 128 #[.int .u64 n, .int .i64 k, .pointer (some ⟨nb, 0, none⟩)] w fun e w' => e = .returned (.tuple #[]) /\ pe B w0 w' x sb rb r nb p q g (a ++ aU 8 k n) := by
 have HH := ae h;have HL := ae (aD 8 k n);have HSP := ae (nA (a := a) (x := aU 8 k n) (by rw [aD]; exact hk));have HPL := ae (eu (b := a) (by omega));have HPP := ae (aY h.cut.1);clear h;go_enter func128, ntmps128;go_wp2_with fail;refine (xy n k w h1 h2 hn).mono ?_;rintro e w1 ⟨v, rfl, hv, hb⟩;have hvm := hv.made;obtain ⟨A, c, rfl, _, _, _⟩ := hvm.open_ HL;have HV := ae hvm;have H1 := ae (HH.out.keep hb hB);have c0 := (cell1 H1.out.nxt).1;unfold jM at c0;clear hv hvm hb HH;go_wp2_with fail;refine (z8 p q g 0 44 44 a.length k w1 H1.out.cut H1.out.dif.2.2.2.2.2.2.2.2.1 h1 hk ai (by omega)).mono ?_;rintro e w2 ⟨rfl, hc2, hg2⟩;clear c0;have HC2 := ae hc2;have HG2 := ae hg2;have HROW2 : Hid (cr w2 g 162 (dM a)) := ae (cl H1.out.row hg2 (fun e => H1.out.dif.2.2.2.2.2.2.2.2.2.1 e.symm));have HRD2 : Hid (Rd w2 w2.heap.size A k (aU 8 k n)) := ae (by
  have := (HV.out.ox hg2 (fun j hj => by injection hj with e; have := HPP.out; omega)).rd;exact this)
 clear hc2 hg2;go_wp2_with (first | (refine eJ rfl _ _ rfl g a.length k k k c _ A 162 (dM a) (aU 8 k n) rfl rfl HROW2 HRD2 ai ?_ ?_) | fail)
 ·rw [HPL.out]; omega
 intro w3 hr3 hg3;rw [HSP.out] at hr3;have hdf := H1.out.dif;have hc3 : ji w3 p q (.slice (some ⟨g, 0, none⟩) 44 44) (a ++ aU 8 k n).length := by
  rw [List.length_append, HL.out];exact ⟨cl HC2.out.1 hg3 hdf.2.2.2.2.2.2.2.2.2.1, cl HC2.out.2 hg3 hdf.2.2.2.2.2.2.2.2.2.2⟩
 have H3 := ae (H1.out.adl hc3 hr3 ⟨w2, HG2, hg3⟩ hB);clear hr3 hg3 hdf hc3;go_wp2_with fail
 go_end0
 exact ⟨rfl, H3⟩
section
variable {ρ : Operand -> Value} {o : Oper} {x z : Operand} {w : World} {g off : Nat}
theorem nr (ho : o.op = .slice 162 x none none none) (hx : ρ x = .pointer (some ⟨g, off, none⟩)) : (execOp ρ o).run prog w = .ok (.value (.slice (some ⟨g, off, none⟩) 44 44)) w := by
 have h : (Instr.sliceAt 162 (.pointer (some ⟨g, off, none⟩)) none none none).run prog w = .ok (.slice (some ⟨g, off, none⟩) 44 44) w := by
  simp [Instr.sliceAt, Instr.sliceBounds, Instr.sliceBound, Instr.sureAddr, asIntOf, run_underlying underlying162, Tryz.sizeOf5, Addr.add_mid]
 unfold execOp;simp only [ho, hx, Option.map_none, Sem.run_bind, h, Result.andThen_ok, Sem.run_pure]
end
theorem bQ.acV {w : World} {b : Nat} {x : Ros} (h : bQ w b x) : Rd w w.heap.size (some ⟨b, 3, none⟩) 16 x.st.toList := by
 have := h.rd (m := 16) ai;rwa [List.take_of_length_le (by simp)] at this
theorem tv {w w1 w2 : World} {x : Sup} {p q : Nat} (HS : bJ w1 w.heap.size x) (HB : Below w.heap.size w w1) (HRES : cr w1 (w.heap.size + 1) 162 z44) (HROW : cr w1 (w.heap.size + 1 + 1) 162 z44)
  (hb : Below w1.heap.size w1 w2) (hc : ji w2 p q (.slice (some ⟨w.heap.size + 1 + 1, 0, none⟩) 44 44) 0) (hd : w1.heap.size <= p /\ w1.heap.size <= q /\ p ≠ q /\ p < w2.heap.size /\ q < w2.heap.size) :
  pe w.heap.size w ((w2.alloc (.cells #[jM p q] 167)).alloc (.cells (aS x.ros).toArray 35)) x w.heap.size (w2.heap.size + 1) (w.heap.size + 1) w2.heap.size p q (w.heap.size + 1 + 1) [] := by
 have e1 := World.size_alloc (w := w2) (o := Obj.cells #[jM p q] 167);have h2 := aY HROW;have h3 := hb.size;have hro := bQ.new (w2.alloc (.cells #[jM p q] 167)) x.ros;rw [e1] at hro;have hb2 : Below w.heap.size w w2 := HB.trans (hb.mono HB.size);refine ⟨((HS.below (aY HS) hb).past _).past _, hro, bO (bO (aB HRES hb) _) _, bO (heap_alloc_new w2 _) _, ⟨bO (bO hc.1 _) _, bO (bO hc.2 _) _⟩, bO (bO (aB HROW hb) _) _, (hb2.alloc (by omega) _).alloc (by rw [e1]; omega) _, ?_, ?_, ?_⟩
 ·omega
 ·omega
 ·refine ⟨?_, ?_, ?_, ?_, ?_, ?_, ?_, ?_, ?_, ?_, ?_⟩ <;> omega
theorem vo {a : List UInt8} (h : a.length < 44) : dM (a ++ aU 8 1 0) = dM a := by
 unfold dM;have e : aU 8 1 0 = [0] := by decide
 rw [e, List.append_assoc, List.length_append, List.length_singleton]
 congr 1
 rw [show 44 - a.length = (44 - (a.length + 1)) + 1 from by omega, List.replicate_succ]
 rfl
theorem yN {x : Sup} (h : x.ros.gone = true) : dM (aU 8 8 x.id ++ aU 8 1 x.ros.m.toNat ++ aU 8 2 x.ros.s.toNat ++ aU 8 2 x.ros.r.toNat ++ aU 8 1 x.self.toNat ++ aU 8 4 (val 2 x.ros.st.toList) ++ aU 8 2 x.ros.cur.toNat ++ aU 8 1 1) = cw x := by
 unfold cw cU kJ;rw [h];simp only [List.append_assoc, if_true]
theorem aaN {x : Sup} (h : x.ros.gone = false) : dM (aU 8 8 x.id ++ aU 8 1 x.ros.m.toNat ++ aU 8 2 x.ros.s.toNat ++ aU 8 2 x.ros.r.toNat ++ aU 8 1 x.self.toNat ++ aU 8 4 (val 2 x.ros.st.toList) ++ aU 8 2 x.ros.cur.toNat) = cw x := by
 rw [<- vo (by simp [aD])];unfold cw cU kJ;rw [h];simp only [List.append_assoc, Bool.false_eq_true, if_false]
theorem ze (x : Sup) (w : World) (hid : x.id < 18446744073709551616) (hx : dX x = true) : Calls prog 120 #[sup x] w fun e w' => e = .returned (arr (cw x)) /\ Below w.heap.size w w' := by
 obtain ⟨_, hf, q1, q2⟩ := js hx;obtain ⟨hgeo, hsta, _, q3, q4, _⟩ := dy hf;obtain ⟨g1, g2, g3, g4, g5, g6⟩ := eI hgeo;have HNAR : Hid (narrow 2 x.ros.st.toList = true) := ae (by
  unfold narrow;rw [List.all_eq_true];intro u hu
  simpa using kR hsta u hu)
 have HSMALL := ae (pp hsta);obtain ⟨M, hM⟩ : ∃ M : Nat, x.ros.m.toNat = M := ⟨_, rfl⟩;obtain ⟨T, hT⟩ : ∃ T : Nat, x.ros.s.toNat = T := ⟨_, rfl⟩;obtain ⟨R, hR⟩ : ∃ R : Nat, x.ros.r.toNat = R := ⟨_, rfl⟩;obtain ⟨E, hE⟩ : ∃ E : Nat, x.self.toNat = E := ⟨_, rfl⟩;obtain ⟨C, hC⟩ : ∃ C : Nat, x.ros.cur.toNat = C := ⟨_, rfl⟩;have HCR : Hid (∀ w' rb, bQ w' rb x.ros -> w'.cell? ⟨rb, 0, none⟩ = some (.int .i64 (M : Nat)) /\ w'.cell? ⟨rb, 1, none⟩ = some (.int .i64 (T : Nat)) /\ w'.cell? ⟨rb, 2, none⟩ = some (.int .i64 (R : Nat)) /\ w'.cell? ⟨rb, 19, none⟩ = some (.int .i64 (C : Nat)) /\ w'.cell? ⟨rb, 20, none⟩ = some (.bool x.ros.gone)) := ae fun w' rb h => by
  have := h.cells;rw [show x.ros.m = (M : Int) from by omega, show x.ros.s = (T : Int) from by omega, show x.ros.r = (R : Int) from by omega, show x.ros.cur = (C : Int) from by omega] at this;exact this
 have HCS : Hid (∀ w' sb, bJ w' sb x -> w'.cell? ⟨sb, 0, none⟩ = some (.int .u64 x.id) /\ w'.cell? ⟨sb, 1, none⟩ = some (.int .i64 (E : Nat))) := ae fun w' sb h => by
  have := h.cells;rw [show x.self = (E : Int) from by omega] at this;exact ⟨this.1, this.2.1⟩
 have hM16 : M <= 16 := by omega
 have hT64 : T <= 64 := by omega
 have hR256 : R <= 256 := by omega
 have hE16 : E <= 16 := by omega
 have hC64 : C <= 64 := by omega
 have HYES := fun h => ae (yN (x := x) h)
 have HNO := fun h => ae (aaN (x := x) h)
 rw [hM, hT, hR, hE, hC] at HYES HNO;clear hf q1 q2 hgeo hsta q3 q4 g1 g2 g3 g4 g5 g6 hM hT hR hE hC hx;have hmf : ∀ (fn : Fn) (first cap : Array Value) (w : World), (Instr.makeFunc fn first cap).run prog w = .ok (.func fn first cap) w := fun _ _ _ _ => rfl
 obtain ⟨h1, h2, h3⟩ := hJ w x;have HS := ae ((h1.past (.cells (vals z44).toArray 162)).past (.cells (vals z44).toArray 162));have hb2 := h2.alloc h2.size (.cells (vals z44).toArray 162);have HB := ae (hb2.alloc hb2.size (.cells (vals z44).toArray 162));have hr := cr.new (w.alloc (.cells (aN x).toArray 37)) z44 162;rw [World.size_alloc] at hr;have HRES := ae (hr.past (.cells (vals z44).toArray 162));have hg := cr.new ((w.alloc (.cells (aN x).toArray 37)).alloc (.cells (vals z44).toArray 162)) z44 162;rw [World.size_alloc, World.size_alloc] at hg;have HROW := ae hg;clear h1 h2 h3 hb2 hr hg;go_enter func120, ntmps120;go_wp2_with (first | (refine au rfl (ed rfl rfl) ?_) | (refine au rfl (kv rfl) ?_) | (refine au rfl (nr rfl rfl) ?_) | fail)
 try simp only [World.size_alloc]
 generalize ((w.alloc (.cells (aN x).toArray 37)).alloc (.cells (vals z44).toArray 162)).alloc (.cells (vals z44).toArray 162) = w1 at *;refine (nG (.slice (some ⟨w.heap.size + 1 + 1, 0, none⟩) 44 44) _ 44 44 rfl w1).mono ?_;rintro e w2 ⟨p, q, rfl, hc, hp0, hq0, hpq, hp1, hq1, hb⟩;have hsz : w.heap.size + 1 + 1 < w2.heap.size := by have := aY HROW; have := hb.size; omega
 have HS2 := ae ((HS.out.below (aY HS) hb).past (.cells #[jM p q] 167));have HW0 := ae (tv HS HB HRES HROW hb hc ⟨hp0, hq0, hpq, hp1, hq1⟩);have HR0 : Hid (w.heap.size <= w.heap.size + 1) := ae (Nat.le_succ _);clear hb hc hp0 hq0 hpq hp1 hq1 HS HB HRES HROW;unfold jM at HS2 HW0 ⊢;go_upto_region 5 with (first | (refine au rfl (bq (c := x.ros) rfl rfl ?_) ?_; (with_reducible exact HS2.out.il)) | (refine au rfl (cn rfl) ?_) | (refine az rfl (nL rfl rfl rfl) ?_) | fail)
 try simp only [World.size_alloc]
 generalize ((w2.alloc (.cells #[Value.func (.func 141) #[] #[.pointer (some ⟨p, 0, none⟩), .pointer (some ⟨q, 0, none⟩)]] 167)).alloc (.cells (aS x.ros).toArray 35)) = w3 at *
 try simp only [World.size_alloc]
 generalize w2.heap.size = nb at *;generalize w.heap.size + 1 + 1 = g at *;generalize w.heap.size + 1 = r at *;obtain ⟨B, hBdef⟩ : ∃ B, w.heap.size = B := ⟨_, rfl⟩;have HBD := ae hBdef;rw [hBdef] at HW0 HR0 ⊢;clear hBdef HS2 hsz;obtain ⟨c0, c1⟩ := HCS.out _ _ HW0.out.sup;obtain ⟨d0, d1, d2, d3, d4⟩ := HCR.out _ _ HW0.out.ros;go_wp2_with fail;refine (sI B w w3 x B (nb + 1) r nb p q g _ x.id 8 HW0 (Nat.le_of_eq HBD.out.symm) (by omega) (by omega) (by simp [aD]) (by simpa using hid)).mono ?_;rintro e w4 ⟨rfl, hW⟩;have HW1 := ae hW;clear hW c0 c1 d0 d1 d2 d3 d4 HW0;obtain ⟨c0, c1⟩ := HCS.out _ _ HW1.out.sup;obtain ⟨d0, d1, d2, d3, d4⟩ := HCR.out _ _ HW1.out.ros;go_wp2_with fail;refine (sI B w w4 x B (nb + 1) r nb p q g _ M 1 HW1 (Nat.le_of_eq HBD.out.symm) (by omega) (by omega) (by simp [aD]) (by omega)).mono ?_;rintro e w5 ⟨rfl, hW⟩;have HW2 := ae hW;clear hW c0 c1 d0 d1 d2 d3 d4 HW1;obtain ⟨c0, c1⟩ := HCS.out _ _ HW2.out.sup;obtain ⟨d0, d1, d2, d3, d4⟩ := HCR.out _ _ HW2.out.ros;go_wp2_with fail;refine (sI B w w5 x B (nb + 1) r nb p q g _ T 2 HW2 (Nat.le_of_eq HBD.out.symm) (by omega) (by omega) (by simp [aD]) (by omega)).mono ?_;rintro e w6 ⟨rfl, hW⟩;have HW3 := ae hW;clear hW c0 c1 d0 d1 d2 d3 d4 HW2;obtain ⟨c0, c1⟩ := HCS.out _ _ HW3.out.sup;obtain ⟨d0, d1, d2, d3, d4⟩ := HCR.out _ _ HW3.out.ros;go_wp2_with fail;refine (sI B w w6 x B (nb + 1) r nb p q g _ R 2 HW3 (Nat.le_of_eq HBD.out.symm) (by omega) (by omega) (by simp [aD]) (by omega)).mono ?_;rintro e w7 ⟨rfl, hW⟩;have HW4 := ae hW;clear hW c0 c1 d0 d1 d2 d3 d4 HW3;obtain ⟨c0, c1⟩ := HCS.out _ _ HW4.out.sup;obtain ⟨d0, d1, d2, d3, d4⟩ := HCR.out _ _ HW4.out.ros;go_wp2_with fail;refine (sI B w w7 x B (nb + 1) r nb p q g _ E 1 HW4 (Nat.le_of_eq HBD.out.symm) (by omega) (by omega) (by simp [aD]) (by omega)).mono ?_;rintro e w8 ⟨rfl, hW⟩;have HW5 := ae hW;clear hW c0 c1 d0 d1 d2 d3 d4 HW4;have HRD := ae HW5.out.ros.acV;go_wp2_with (first | (refine au rfl (fu rfl rfl) ?_) | fail);refine (z6 _ 16 16 _ 2 _ x.ros.st.toList w8 (ae rfl) HRD ai (by omega) (by omega) (by omega) HNAR).mono ?_;rintro e w9 ⟨v, rfl, hv, hb⟩;rw [show bytesOf 16 2 = 4 from rfl] at hv;have hvm := hv.made;obtain ⟨A, c, rfl, _, _, _⟩ := hvm.open_ (aD 8 4 _);have HV := ae hvm;have HW6 := ae (HW5.out.keep hb (Nat.le_of_eq HBD.out.symm));have HPP := ae (aY HW5.out.cut.1);have n0 := (cell1 HW6.out.nxt).1;unfold jM at n0;clear hv hvm hb HRD HW5;go_wp2_with fail;refine (z8 p q g 0 44 44 _ 4 w9 HW6.out.cut HW6.out.dif.2.2.2.2.2.2.2.2.1 (by omega) (by simp [aD]) ai (by omega)).mono ?_;rintro e w10 ⟨rfl, hc2, hg2⟩;clear n0;have HC2 := ae hc2;have HG2 := ae hg2;have HROW2 := ae (cl HW6.out.row hg2 (fun e => HW6.out.dif.2.2.2.2.2.2.2.2.2.1 e.symm));have HRD2 : Hid (Rd w10 w10.heap.size A 4 (aU 8 4 (val 2 x.ros.st.toList))) := ae (by
  have := (HV.out.ox hg2 (fun j hj => by injection hj with e; have := HPP.out; omega)).rd;exact this)
 clear hc2 hg2;obtain ⟨a, ha⟩ : ∃ a, [] ++ aU 8 8 x.id ++ aU 8 1 M ++ aU 8 2 T ++ aU 8 2 R ++ aU 8 1 E = a := ⟨_, rfl⟩;have hal : a.length = 14 := by rw [<- ha]; simp [aD]
 rw [ha] at HC2 HROW2 HW6;have HA := ae ha;have HAL := ae hal;clear ha;rw [hal] at HC2;go_wp2_with (first | (refine eJ rfl _ _ rfl g 14 4 4 4 c _ A 162 (dM a) (aU 8 4 (val 2 x.ros.st.toList)) rfl rfl HROW2 HRD2 ai ?_ ?_) | fail)
 ·rw [eu (by omega)]; omega
 intro w11 hr3 hg3;rw [<- hal, nA (by rw [hal, aD]; omega)] at hr3;have hdf := HW6.out.dif;have hc3 : ji w11 p q (.slice (some ⟨g, 0, none⟩) 44 44) (a ++ aU 8 4 (val 2 x.ros.st.toList)).length := by
  rw [List.length_append, aD, hal];exact ⟨cl HC2.out.1 hg3 hdf.2.2.2.2.2.2.2.2.2.1, cl HC2.out.2 hg3 hdf.2.2.2.2.2.2.2.2.2.2⟩
 have HW7 := ae (HW6.out.adl hc3 hr3 ⟨w10, HG2, hg3⟩ (Nat.le_of_eq HBD.out.symm));clear hr3 hg3 hdf hc3 HW6 HC2 HG2 HROW2 HRD2 HV HPP;obtain ⟨d0, d1, d2, d3, d4⟩ := HCR.out _ _ HW7.out.ros;go_wp2_with fail;refine (sI B w w11 x B (nb + 1) r nb p q g _ C 2 HW7 (Nat.le_of_eq HBD.out.symm) (by omega) (by omega) (by rw [List.length_append, aD]; omega) (by omega)).mono ?_;rintro e w12 ⟨rfl, hW⟩;have HW8 := ae hW;clear hW d0 d1 d2 d3 d4 HW7;have d4 := (HCR.out _ _ HW8.out.ros).2.2.2.2;cases hgn : x.ros.gone
 ·have HF := HNO hgn;rw [hgn] at d4;have HL := ae HW8.out.row;rw [<- HA.out] at HL;simp only [List.nil_append] at HL;rw [HF.out] at HL;have HLR := ae (br HL);have HTH := ae (aP (o := 0) (n := 44) HW8.out.res (by rw [bk]; exact ai));have HBB := ae HW8.out.bel;have HFL := ae (de x);clear HYES HNO HF hgn;go_wp2_with (first | (refine au rfl (gC HFL.out rfl rfl ?_) ?_; (with_reducible exact HLR.out)) | (refine az rfl (dq (cs := vals (cw x)) ?k1 (gY _) rfl rfl rfl ?k2) ?_; (case k1 => rw [bk, HFL.out]; exact lK); (case k2 => rw [bk, HFL.out]; exact HTH.out)) | fail);refine bodyPost_ret (eG (t := 162) (cs := vals (cw x)) rfl _ _ r rfl ?h1 underlying162 rfl ?h2) rfl ⟨rfl, ?h3⟩
  case h1 => exact World.rangeAt_setCells_same _ _ _ _ (by rw [bk, HFL.out]; exact HTH)
  case h2 => rw [bk, HFL.out]; exact lK
  case h3 => rw [HBD.out]; exact below_setCells HBB HR0 _
 ·have HF := HYES hgn;rw [hgn] at d4;go_wp2_with fail;refine (sI B w w12 x B (nb + 1) r nb p q g _ 1 1 HW8 (Nat.le_of_eq HBD.out.symm) (by omega) (by omega) (by rw [List.length_append, List.length_append, aD, aD]; have := HAL.out; omega) (by omega)).mono ?_;rintro e w13 ⟨rfl, hW⟩;have HW9 := ae hW;clear hW d4 HW8;have HL := ae HW9.out.row;rw [<- HA.out] at HL;simp only [List.nil_append] at HL;rw [HF.out] at HL;have HLR := ae (br HL);have HTH := ae (aP (o := 0) (n := 44) HW9.out.res (by rw [bk]; exact ai));have HBB := ae HW9.out.bel;have HFL := ae (de x);clear HYES HNO HF hgn;go_wp2_with (first | (refine au rfl (gC HFL.out rfl rfl ?_) ?_; (with_reducible exact HLR.out)) | (refine az rfl (dq (cs := vals (cw x)) ?k1 (gY _) rfl rfl rfl ?k2) ?_; (case k1 => rw [bk, HFL.out]; exact lK); (case k2 => rw [bk, HFL.out]; exact HTH.out)) | fail);refine bodyPost_ret (eG (t := 162) (cs := vals (cw x)) rfl _ _ r rfl ?h1 underlying162 rfl ?h2) rfl ⟨rfl, ?h3⟩
  case h1 => exact World.rangeAt_setCells_same _ _ _ _ (by rw [bk, HFL.out]; exact HTH)
  case h2 => rw [bk, HFL.out]; exact lK
  case h3 => rw [HBD.out]; exact below_setCells HBB HR0 _
theorem lx (B : Nat) (v : Value) (a : List UInt8) (n k : Nat) (w : World) (hm : Made w B v a) (hB : B <= w.heap.size) (ha : a.length <= 100) (hn : n < 18446744073709551616) (h1 : 1 <= k) (h2 : k <= 8) (hk : n < 2 ^ (8 * k)) :
  Calls prog 101 #[v, .int .u64 n, .int .i64 k] w fun e w' => ∃ v', e = .returned v' /\ Made w' B v' (a ++ aU 8 k n) /\ Below B w w' := by
 have HM := ae hm;have HB := ae hB;have HK := ae hk;clear hm hB hk;obtain ⟨A0, c0, rfl, _, _⟩ := HM.out.form;go_enter func101, ntmps101;go_wp2_with fail;refine (pN n k _ w (ae rfl) hn h1 h2 HK).mono ?_;rintro e w1 ⟨v1, rfl, hm1, hb1⟩;obtain ⟨A1, c1, rfl, hr1, _, _⟩ := hm1.open_ (aD 8 k n);have HM1 := ae (HM.out.below hb1);have HR1 := ae hr1;have HB1 : Hid (B <= w1.heap.size) := ae (ap HB hb1.size);have HBB := ae (hb1.mono HB);clear hm1 hr1 hb1;go_wp2_with (first | (refine dS rfl _ _ rfl B _ k c1 _ a (aU 8 k n) A1 rfl rfl HM1 HR1 HB1 ?_ ?_) | fail)
 ·omega
 intro v2 w2 hm2 hg2;have HM2 := ae hm2;have HB2 := ae (HBB.out.grown hg2 HB1 (fun k hk => (HM1.out.lt k hk).1));clear hm2 hg2;go_wp2_with fail;go_ret;exact ⟨_, rfl, HM2, HB2⟩
theorem di (A : Option Addr) (n c N : Nat) (b : List UInt8) (p k : Nat) (w : World) (hb : Rd w N A n b) (hn : n <= maxLen) (h1 : 1 <= k) (h2 : k <= 4) (h3 : p + k <= n) :
  Calls prog 108 #[.slice A n c, .int .i64 p, .int .i64 k] w fun e w' => e = .returned (.int .i64 (val 8 (piece b p k) : Nat)) /\ w = w' := by
 have hv : val 8 (piece b p k) < 4294967296 := by
  have h := cP (b := b) (p := p) (k := k) (by have := hb.1; omega);have h4 : 2 ^ (k * 8) <= 2 ^ 32 := Nat.pow_le_pow_right (by omega) (by omega);omega
 go_enter func108, ntmps108;go_wp2_with fail;refine (dU A n c N b p k w hb hn h1 (by omega) h3).mono ?_;rintro e w' ⟨rfl, rfl⟩;obtain ⟨v, hvv⟩ : ∃ v, val 8 (piece b p k) = v := ⟨_, rfl⟩;rw [hvv] at hv;rw [hvv];have HV := ae hvv;clear hvv;go_wp2_with fail;go_ret;exact ⟨by rw [HV.out]; rfl, rfl⟩
theorem xq {x : Sup} (h : x.ros.gone = true) : aU 8 8 x.id ++ aU 8 1 x.ros.m.toNat ++ aU 8 2 x.ros.s.toNat ++ aU 8 2 x.ros.r.toNat ++ aU 8 1 x.self.toNat ++ aU 8 4 (val 2 x.ros.st.toList) ++ aU 8 2 x.ros.cur.toNat ++ [1] = cU x := by
 unfold cU kJ;rw [h];simp only [List.append_assoc, if_true]
 rfl
theorem zo {x : Sup} (h : x.ros.gone = false) : aU 8 8 x.id ++ aU 8 1 x.ros.m.toNat ++ aU 8 2 x.ros.s.toNat ++ aU 8 2 x.ros.r.toNat ++ aU 8 1 x.self.toNat ++ aU 8 4 (val 2 x.ros.st.toList) ++ aU 8 2 x.ros.cur.toNat ++ [0] = cU x := by
 unfold cU kJ;rw [h];simp only [List.append_assoc, Bool.false_eq_true, if_false]
 rfl
theorem ye (x : Sup) (w : World) (hid : x.id < 18446744073709551616) (hx : dX x = true) : Calls prog 77 #[sup x] w fun e w' => ∃ v, e = .returned v /\ Made w' w.heap.size v (cU x) /\ Below w.heap.size w w' := by
 obtain ⟨h1, h2, h3⟩ := hJ w x;have HS0 := ae h1;have HB0 := ae h2;have HZ0 : Hid (w.heap.size + 1 <= (w.alloc (.cells (aN x).toArray 37)).heap.size) := ae h3;clear h1 h2 h3;obtain ⟨_, hf, q1, q2⟩ := js hx;obtain ⟨hgeo, hsta, _, q3, q4, _⟩ := dy hf;obtain ⟨g1, g2, g3, g4, g5, g6⟩ := eI hgeo;have HNAR : Hid (narrow 2 x.ros.st.toList = true) := ae (by
  unfold narrow;rw [List.all_eq_true];intro u hu
  simpa using kR hsta u hu)
 have HSMALL := ae (pp hsta);obtain ⟨M, hM⟩ : ∃ M : Nat, x.ros.m.toNat = M := ⟨_, rfl⟩;obtain ⟨T, hT⟩ : ∃ T : Nat, x.ros.s.toNat = T := ⟨_, rfl⟩;obtain ⟨R, hR⟩ : ∃ R : Nat, x.ros.r.toNat = R := ⟨_, rfl⟩;obtain ⟨E, hE⟩ : ∃ E : Nat, x.self.toNat = E := ⟨_, rfl⟩;obtain ⟨C, hC⟩ : ∃ C : Nat, x.ros.cur.toNat = C := ⟨_, rfl⟩;have HCR : Hid (∀ w' rb, bQ w' rb x.ros -> w'.cell? ⟨rb, 0, none⟩ = some (.int .i64 (M : Nat)) /\ w'.cell? ⟨rb, 1, none⟩ = some (.int .i64 (T : Nat)) /\ w'.cell? ⟨rb, 2, none⟩ = some (.int .i64 (R : Nat)) /\ w'.cell? ⟨rb, 19, none⟩ = some (.int .i64 (C : Nat)) /\ w'.cell? ⟨rb, 20, none⟩ = some (.bool x.ros.gone)) := ae fun w' rb h => by
  have := h.cells;rw [show x.ros.m = (M : Int) from by omega, show x.ros.s = (T : Int) from by omega, show x.ros.r = (R : Int) from by omega, show x.ros.cur = (C : Int) from by omega] at this;exact this
 have HCR2 : Hid (∀ w' sb, bJ w' sb x -> w'.cell? ⟨sb, 2, none⟩ = some (.int .i64 (M : Nat)) /\ w'.cell? ⟨sb, 3, none⟩ = some (.int .i64 (T : Nat)) /\ w'.cell? ⟨sb, 4, none⟩ = some (.int .i64 (R : Nat)) /\ w'.cell? ⟨sb, 21, none⟩ = some (.int .i64 (C : Nat)) /\ w'.cell? ⟨sb, 22, none⟩ = some (.bool x.ros.gone)) := ae fun w' sb h => by
  have := h.cells.2.2;rw [show x.ros.m = (M : Int) from by omega, show x.ros.s = (T : Int) from by omega, show x.ros.r = (R : Int) from by omega, show x.ros.cur = (C : Int) from by omega] at this;exact this
 have HCS : Hid (∀ w' sb, bJ w' sb x -> w'.cell? ⟨sb, 0, none⟩ = some (.int .u64 x.id) /\ w'.cell? ⟨sb, 1, none⟩ = some (.int .i64 (E : Nat))) := ae fun w' sb h => by
  have := h.cells;rw [show x.self = (E : Int) from by omega] at this;exact ⟨this.1, this.2.1⟩
 have hM16 : M <= 16 := by omega
 have hT64 : T <= 64 := by omega
 have hR256 : R <= 256 := by omega
 have hE16 : E <= 16 := by omega
 have hC64 : C <= 64 := by omega
 have HYES := fun h => ae (xq (x := x) h)
 have HNO := fun h => ae (zo (x := x) h)
 rw [hM, hT, hR, hE, hC] at HYES HNO;clear hf q1 q2 hgeo hsta q3 q4 g1 g2 g3 g4 g5 g6 hM hT hR hE hC hx;go_enter func77, ntmps77;go_upto_region 1 with (first | (refine au rfl (ed rfl rfl) ?_) | fail);generalize w.alloc (.cells (aN x).toArray 37) = w1 at *;obtain ⟨s, hs⟩ : ∃ s, w.heap.size = s := ⟨_, rfl⟩;have HSD := ae hs;rw [hs] at HS0 HB0 HZ0 ⊢;clear hs;have HM0 : Hid (Made w1 (s + 1) (.slice none 0 0) []) := ae (World.ownsRow_nil _ _ _ _);have HX := ae hid;clear hid;obtain ⟨c0, c1⟩ := HCS.out _ _ HS0;obtain ⟨d0, d1, d2, d3, d4⟩ := HCR2.out _ _ HS0;go_wp2_with fail;refine (lx (s + 1) _ _ x.id 8 w1 HM0 HZ0 (by simp [aD]) (by exact HX) (by omega) (by omega) (by exact HX)).mono ?_;rintro e w2 ⟨v1, rfl, hm, hb⟩;have HM1 := ae hm;have HS1 := ae (HS0.out.below (Nat.lt_succ_self _) hb);have HB1 := ae (HB0.out.trans (hb.mono (Nat.le_succ _)));have HZ1 : Hid (s + 1 <= w2.heap.size) := ae (ap HZ0 hb.size);clear hm hb HM0 HS0 HB0 HZ0 c0 c1 d0 d1 d2 d3 d4;obtain ⟨c0, c1⟩ := HCS.out _ _ HS1;obtain ⟨d0, d1, d2, d3, d4⟩ := HCR2.out _ _ HS1;go_wp2_with fail;refine (lx (s + 1) _ _ M 1 w2 HM1 HZ1 (by simp [aD]) (by omega) (by omega) (by omega) (by omega)).mono ?_;rintro e w3 ⟨v2, rfl, hm, hb⟩;have HM2 := ae hm;have HS2 := ae (HS1.out.below (Nat.lt_succ_self _) hb);have HB2 := ae (HB1.out.trans (hb.mono (Nat.le_succ _)));have HZ2 : Hid (s + 1 <= w3.heap.size) := ae (ap HZ1 hb.size);clear hm hb HM1 HS1 HB1 HZ1 c0 c1 d0 d1 d2 d3 d4;obtain ⟨c0, c1⟩ := HCS.out _ _ HS2;obtain ⟨d0, d1, d2, d3, d4⟩ := HCR2.out _ _ HS2;go_wp2_with fail;refine (lx (s + 1) _ _ T 2 w3 HM2 HZ2 (by simp [aD]) (by omega) (by omega) (by omega) (by omega)).mono ?_;rintro e w4 ⟨v3, rfl, hm, hb⟩;have HM3 := ae hm;have HS3 := ae (HS2.out.below (Nat.lt_succ_self _) hb);have HB3 := ae (HB2.out.trans (hb.mono (Nat.le_succ _)));have HZ3 : Hid (s + 1 <= w4.heap.size) := ae (ap HZ2 hb.size);clear hm hb HM2 HS2 HB2 HZ2 c0 c1 d0 d1 d2 d3 d4;obtain ⟨c0, c1⟩ := HCS.out _ _ HS3;obtain ⟨d0, d1, d2, d3, d4⟩ := HCR2.out _ _ HS3;go_wp2_with fail;refine (lx (s + 1) _ _ R 2 w4 HM3 HZ3 (by simp [aD]) (by omega) (by omega) (by omega) (by omega)).mono ?_;rintro e w5 ⟨v4, rfl, hm, hb⟩;have HM4 := ae hm;have HS4 := ae (HS3.out.below (Nat.lt_succ_self _) hb);have HB4 := ae (HB3.out.trans (hb.mono (Nat.le_succ _)));have HZ4 : Hid (s + 1 <= w5.heap.size) := ae (ap HZ3 hb.size);clear hm hb HM3 HS3 HB3 HZ3 c0 c1 d0 d1 d2 d3 d4;obtain ⟨c0, c1⟩ := HCS.out _ _ HS4;obtain ⟨d0, d1, d2, d3, d4⟩ := HCR2.out _ _ HS4;go_wp2_with fail;refine (lx (s + 1) _ _ E 1 w5 HM4 HZ4 (by simp [aD]) (by omega) (by omega) (by omega) (by omega)).mono ?_;rintro e w6 ⟨v5, rfl, hm, hb⟩;have HM5 := ae hm;have HS5 := ae (HS4.out.below (Nat.lt_succ_self _) hb);have HB5 := ae (HB4.out.trans (hb.mono (Nat.le_succ _)));have HZ5 : Hid (s + 1 <= w6.heap.size) := ae (ap HZ4 hb.size);clear hm hb HM4 HS4 HB4 HZ4 c0 c1 d0 d1 d2 d3 d4;have HRD := ae HS5.out.rd;go_wp2_with (first | (refine au rfl (fu rfl rfl) ?_) | fail);refine (vz _ 16 16 _ 2 _ x.ros.st.toList w6 (ae rfl) HRD ai (by omega) (by omega) (by omega)).mono ?_;rintro e w7 ⟨⟨hy, _⟩, hb⟩;obtain ⟨vb, rfl, hmb⟩ := hy HNAR;rw [show bytesOf 16 2 = 4 from rfl] at hmb;obtain ⟨Ab, cb, rfl, hrb, _, _⟩ := hmb.open_ (aD 8 4 _);have HRB := ae hrb;have HM6 := ae (HM5.out.below hb);have HS6 := ae (HS5.out.below (aY HS5) hb);have HB6 := ae (HB5.out.trans (hb.mono (ap (Nat.le_succ s) HZ5)));have HZ6 : Hid (s + 1 <= w7.heap.size) := ae (ap HZ5 hb.size);clear hmb hrb hb HM5 HS5 HB5 HZ5 HRD hy;obtain ⟨a, ha⟩ : ∃ a, [] ++ aU 8 8 x.id ++ aU 8 1 M ++ aU 8 2 T ++ aU 8 2 R ++ aU 8 1 E = a := ⟨_, rfl⟩;have hal : a.length = 14 := by rw [<- ha]; simp [aD]
 rw [ha] at HM6;have HA := ae ha;have HAL := ae hal;clear ha hal;go_wp2_with (first | (refine dS rfl _ _ rfl (s + 1) _ 4 cb _ a (aU 8 4 (val 2 x.ros.st.toList)) Ab rfl rfl HM6 HRB HZ6 ?_ ?_) | fail)
 ·rw [HAL.out]; omega
 intro v8 w8 hm8 hg8;have hb8 : Below (s + 1) w7 w8 := aj.grown hg8 HZ6 (fun k hk => (HM6.out.lt k hk).1);have HM7 := ae hm8;have HS7 := ae (HS6.out.below (Nat.lt_succ_self _) hb8);have HB7 := ae (HB6.out.trans (hb8.mono (Nat.le_succ _)));have HZ7 : Hid (s + 1 <= w8.heap.size) := ae (ap HZ6 hb8.size);clear hm8 hg8 hb8 HM6 HS6 HB6 HZ6 HRB;obtain ⟨c0, c1⟩ := HCS.out _ _ HS7;obtain ⟨d0, d1, d2, d3, d4⟩ := HCR2.out _ _ HS7;go_wp2_with fail;refine (lx (s + 1) _ _ C 2 w8 HM7 HZ7 (by rw [List.length_append, HAL.out, aD]; omega) (by omega) (by omega) (by omega) (by omega)).mono ?_;rintro e w9 ⟨v9, rfl, hm, hb⟩;have HM8 := ae hm;have HS8 := ae (HS7.out.below (Nat.lt_succ_self _) hb);have HB8 := ae (HB7.out.trans (hb.mono (Nat.le_succ _)));have HZ8 : Hid (s + 1 <= w9.heap.size) := ae (ap HZ7 hb.size);clear hm hb HM7 HS7 HB7 HZ7 c0 c1 d0 d1 d2 d3 d4;have d4 := (HCR2.out _ _ HS8).2.2.2.2;cases hgn : x.ros.gone
 ·have HF := HNO hgn;rw [hgn] at d4;have HMA := ae (HM8.out.below ((Below.refl _ w9).alloc ai (.cells #[.int .u8 0] 5)));have HRA := ae (sD w9 [0] #[.int .u8 0] rfl);have HZA : Hid (s + 1 <= (w9.alloc (.cells #[.int .u8 0] 5)).heap.size) := ae (by have := HZ8.out; simp only [World.size_alloc]; omega);have HBA := ae (HB8.out.alloc (ap (Nat.le_succ s) HZ8) (.cells #[.int .u8 0] 5));clear HYES HNO hgn;go_wp2_with (first | (refine dS rfl _ _ rfl (s + 1) _ 1 1 _ _ [0] _ rfl rfl HMA HRA HZA ?_ ?_) | fail)
  ·rw [List.length_append, List.length_append, HAL.out, aD, aD]; omega
  intro v10 w10 hm10 hg10;rw [<- HA.out] at hm10;have hF := HF.out;simp only [List.append_assoc] at hF;simp only [List.nil_append, List.append_assoc] at hm10;rw [hF] at hm10;clear hF;have HM10 := ae hm10;have HB10 := ae (HBA.out.grown hg10 (ap (Nat.le_succ s) HZA) (fun k hk => ap (Nat.le_succ s) (HMA.out.lt k hk).1));clear hm10 hg10;go_wp2_with fail;go_ret;exact ⟨_, rfl, by rw [HSD.out]; exact HM10.out.base (Nat.le_succ _), by rw [HSD.out]; exact HB10⟩
 ·have HF := HYES hgn;rw [hgn] at d4;have HMA := ae (HM8.out.below ((Below.refl _ w9).alloc ai (.cells #[.int .u8 1] 5)));have HRA := ae (sD w9 [1] #[.int .u8 1] rfl);have HZA : Hid (s + 1 <= (w9.alloc (.cells #[.int .u8 1] 5)).heap.size) := ae (by have := HZ8.out; simp only [World.size_alloc]; omega);have HBA := ae (HB8.out.alloc (ap (Nat.le_succ s) HZ8) (.cells #[.int .u8 1] 5));clear HYES HNO hgn;go_wp2_with (first | (refine dS rfl _ _ rfl (s + 1) _ 1 1 _ _ [1] _ rfl rfl HMA HRA HZA ?_ ?_) | fail)
  ·rw [List.length_append, List.length_append, HAL.out, aD, aD]; omega
  intro v10 w10 hm10 hg10;rw [<- HA.out] at hm10;have hF := HF.out;simp only [List.append_assoc] at hF;simp only [List.nil_append, List.append_assoc] at hm10;rw [hF] at hm10;clear hF;have HM10 := ae hm10;have HB10 := ae (HBA.out.grown hg10 (ap (Nat.le_succ s) HZA) (fun k hk => ap (Nat.le_succ s) (HMA.out.lt k hk).1));clear hm10 hg10;go_wp2_with fail;go_ret;exact ⟨_, rfl, by rw [HSD.out]; exact HM10.out.base (Nat.le_succ _), by rw [HSD.out]; exact HB10⟩
theorem qE (y : Ros) (j : Nat) (v : Value) : (vals y.st.toList ++ [Value.int .i64 y.cur, Value.bool y.gone]).set (16 + j) v = vals y.st.toList ++ [Value.int .i64 y.cur, Value.bool y.gone].set j v := by
 rw [List.set_append_right _ _ (by simp [bk])]
 congr 2
 simp [bk]
theorem mo (id : Nat) (self m s r : Int) (st : Vector UInt8 16) (cur : Int) (gone : Bool) : aN ⟨id, self, ⟨m, s, r, st, cur, gone⟩⟩ = Value.int .u64 id :: Value.int .i64 self :: Value.int .i64 m :: Value.int .i64 s :: Value.int .i64 r :: (vals st.toList ++ [Value.int .i64 cur, Value.bool gone]) := rfl
section
variable (y : Sup)
theorem zG (n : Nat) : (aN y).set 0 (.int .u64 n) = aN { y with id := n } := rfl
theorem wN (n : Int) : (aN y).set 1 (.int .i64 n) = aN { y with self := n } := rfl
theorem mK (n : Int) : (aN y).set 2 (.int .i64 n) = aN { y with ros := { y.ros with m := n } } := rfl
theorem ny (n : Int) : (aN y).set 3 (.int .i64 n) = aN { y with ros := { y.ros with s := n } } := rfl
theorem nt (n : Int) : (aN y).set 4 (.int .i64 n) = aN { y with ros := { y.ros with r := n } } := rfl
theorem iV (n : Int) : (aN y).set 21 (.int .i64 n) = aN { y with ros := { y.ros with cur := n } } := by
 show Value.int .u64 y.id :: Value.int .i64 y.self :: Value.int .i64 y.ros.m :: Value.int .i64 y.ros.s :: Value.int .i64 y.ros.r :: (vals y.ros.st.toList ++ [Value.int .i64 y.ros.cur, Value.bool y.ros.gone]).set (16 + 0) (.int .i64 n) = _
 rw [qE]
 rfl
theorem ia (b : Bool) : (aN y).set 22 (.bool b) = aN { y with ros := { y.ros with gone := b } } := by
 show Value.int .u64 y.id :: Value.int .i64 y.self :: Value.int .i64 y.ros.m :: Value.int .i64 y.ros.s :: Value.int .i64 y.ros.r :: (vals y.ros.st.toList ++ [Value.int .i64 y.ros.cur, Value.bool y.ros.gone]).set (16 + 1) (.bool b) = _
 rw [qE]
 rfl
theorem zq {l : List UInt8} (h : l.length = 16) : splice (aN y) 5 (vals l) = aN { y with ros := { y.ros with st := eP l } } := by
 obtain ⟨id, self, m, s, r, st, cur, gone⟩ := y
 show splice (aN ⟨id, self, ⟨m, s, r, st, cur, gone⟩⟩) 5 (vals l) = aN ⟨id, self, ⟨m, s, r, eP l, cur, gone⟩⟩
 have h2 : (vals st.toList).length = 16 := by simp [bk]
 rw [mo, mo, fi h];generalize vals st.toList = z at *;unfold splice;rw [bk, h, show 5 + 16 = 16 + 1 + 1 + 1 + 1 + 1 from rfl];simp only [List.drop_succ_cons, List.take_succ_cons, List.take_zero];rw [List.drop_append_of_le_length (by omega), List.drop_of_length_le (by omega)]
 rfl
end
theorem bJ.set {w : World} {s j : Nat} {y y' : Sup} {v : Value} (h : bJ w s y) (e : (aN y).set j v = aN y') : bJ (w.setCell ⟨s, j, none⟩ v) s y' := by
 have := heap_setCell_same w s j (aN y).toArray 37 v h;rw [List.setIfInBounds_toArray, e] at this;exact this
theorem bJ.free {w : World} {s : Nat} {y : Sup} (h : bJ w s y) (j : Nat) : w.frozen? ⟨s, j, none⟩ = false := frozen_of_row w s j _ _ h
theorem o6 {w : World} {ops : Array Oper} {rest : List Oper} {o : Oper} {a : Act} {Q : Exit -> Act -> World -> Prop} (hgd : o.guard = none) (d s : Operand)
  (ho : o.op = .call { callee := .builtin .copy, args := #[d, s], argTypes := #[116, 116] }) (g off n c c' N : Nat) (A : Option Addr) (t : TypeId) (cs : List Value) (x : List UInt8)
  (hd : a.eval d = .slice (some ⟨g, off, none⟩) n c) (hs : a.eval s = .slice A n c') (hS : w.heap[g]? = some (.cells cs.toArray t (0, 0))) (hr : Rd w N A n x) (hn : 0 < n) (hfit : off + n <= cs.length)
  (h : ∀ w', w'.heap[g]? = some (.cells (splice cs off (vals x)).toArray t (0, 0)) -> w.grownBy w' (some g) -> wpList prog ops Q rest (a.put o.dst (goInt n)) w') : wpList prog ops Q (o :: rest) a w := by
 have hx := hr.1;obtain ⟨ad, rfl⟩ : ∃ ad, A = some ad := by
  obtain ⟨b, off, e, _⟩ := hr.2 0 hn;exact ⟨_, e⟩
 have hcl : (vals x).length = n := by rw [bk, hx]
 refine wpList_copy_own hgd d s _ _ ho 5 underlying116 (by kernel_rfl) g off n c ad n c' hd hs _ t hS (vals x) (by rw [hcl]; exact (Nat.min_self n).symm) (fun j v hj => ?_) (by simp [hcl]; omega) (gY x) ?_
 ·have hlt : j < n := by have := (List.getElem?_eq_some_iff.1 hj).1; omega
  obtain ⟨b, o2, e, _, hc⟩ := hr.2 j hlt;injection e with e;subst e;rw [Addr.add_mid, hc, <- hj, fT (by omega)]
 ·have hrow := setRow_heap w g cs.toArray (cs.toArray.toList.take off ++ (vals x ++ cs.toArray.toList.drop (off + (vals x).length))).toArray t (0, 0) hS;have e : cs.toArray.toList.take off ++ (vals x ++ cs.toArray.toList.drop (off + (vals x).length)) = splice cs off (vals x) := rfl;rw [hcl];rw [hcl] at hrow e;refine h _ ?_ ⟨rfl, rfl, rfl, by simp [World.setRow], fun k hk hne => setRow_other w g k _ (fun e => hne (by rw [e]))⟩;rw [e] at hrow ⊢;exact hrow
structure ge (B : Nat) (w0 w : World) (g : Nat) (l : List UInt8) (s r nb p q k : Nat) (y : Sup) : Prop where
 row : cr w g 5 l
 sup : bJ w s y
 res : bJ w r aT
 nxt : w.heap[nb]? = some (.cells #[jM p q] 167 (0, 0))
 cut : ji w p q (.slice (some ⟨g, 0, none⟩) 44 44) k
 bel : Below B w0 w
 p0 : B <= p
 s0 : B <= s
 dif : g ≠ p /\ s ≠ p /\ r ≠ p /\ nb ≠ p /\ p ≠ q /\ g ≠ s /\ r ≠ s /\ nb ≠ s /\ p ≠ s /\ q ≠ s
section
variable {B : Nat} {w0 w w' : World} {g s r nb p q k k' : Nat} {l : List UInt8} {y y' : Sup}
theorem ge.keep (h : ge B w0 w g l s r nb p q k y) (hb : Below w.heap.size w w') (hB : B <= w0.heap.size) : ge B w0 w' g l s r nb p q k y :=
 ⟨aB h.row hb, aB h.sup hb, aB h.res hb, aB h.nxt hb, ⟨aB h.cut.1 hb, aB h.cut.2 hb⟩, h.bel.trans (hb.mono (ap hB h.bel.size)), h.p0, h.s0, h.dif⟩
theorem ge.step (h : ge B w0 w g l s r nb p q k y) (hc : ji w' p q (.slice (some ⟨g, 0, none⟩) 44 44) k') (hg : w.grownBy w' (some p)) (hB : B <= w0.heap.size) : ge B w0 w' g l s r nb p q k' y := by
 obtain ⟨d1, d2, d3, d4, d5, d6, d7, d8, d9, d10⟩ := h.dif;exact ⟨cl h.row hg d1, cl h.sup hg d2, cl h.res hg d3, cl h.nxt hg d4, hc, h.bel.grown hg (ap hB h.bel.size) (fun k hk => by injection hk with e; have := h.p0; omega), h.p0, h.s0, h.dif⟩
theorem ge.put (h : ge B w0 w g l s r nb p q k y) (hs : bJ w' s y') (hg : w.grownBy w' (some s)) (hB : B <= w0.heap.size) : ge B w0 w' g l s r nb p q k y' := by
 obtain ⟨d1, d2, d3, d4, d5, d6, d7, d8, d9, d10⟩ := h.dif;exact ⟨cl h.row hg d6, hs, cl h.res hg d7, cl h.nxt hg d8, ⟨cl h.cut.1 hg d9, cl h.cut.2 hg d10⟩, h.bel.grown hg (ap hB h.bel.size) (fun k hk => by injection hk with e; have := h.s0; omega), h.p0, h.s0, h.dif⟩
theorem ge.set (h : ge B w0 w g l s r nb p q k y) (j : Nat) (v : Value) (e : (aN y).set j v = aN y') (hB : B <= w0.heap.size) : ge B w0 (w.setCell ⟨s, j, none⟩ v) g l s r nb p q k y' :=
 h.put (h.sup.set e) (fz w s j v) hB
end
theorem nl (B : Nat) (w0 w : World) (g : Nat) (l : List UInt8) (s r nb p q k n : Nat) (y : Sup) (h : ge B w0 w g l s r nb p q k y) (hB : B <= w0.heap.size) (hl : l.length = 44) (h1 : 1 <= n) (h2 : n <= 8) (hk : k + n <= 44) :
  Calls prog 136 #[.int .i64 n, .pointer (some ⟨nb, 0, none⟩)] w fun e w' => e = .returned (.int .u64 (val 8 (piece l k n) : Nat)) /\ ge B w0 w' g l s r nb p q (k + n) y := by
 have HH := ae h;have HL := ae hl;have HP := ae (fp (b := piece l k n) (n := n) (co (by omega)));have c0 := (cell1 h.nxt).1;unfold jM at c0;clear h hl;go_enter func136, ntmps136;go_wp2_with fail;refine (z8 p q g 0 44 44 k n w HH.out.cut HH.out.dif.2.2.2.2.1 h1 hk ai (by omega)).mono ?_;rintro e w1 ⟨rfl, hc, hg⟩;have H1 := ae (HH.out.step hc hg hB);clear hc hg c0 HH;have HRD := ae (H1.out.row.rd (p := k) (k := n) (by rw [HL.out]; omega));go_wp2_with fail;refine (xM _ n n _ (piece l k n) 0 n w1 HRD (by unfold maxLen; omega) h1 h2 (by omega)).mono ?_;rintro e w2 ⟨rfl, rfl⟩;rw [HP.out];obtain ⟨v, hv⟩ : ∃ v, val 8 (piece l k n) = v := ⟨_, rfl⟩;rw [hv];have HV := ae hv;clear hv;go_wp2_with fail;go_ret;exact ⟨by rw [HV.out]; rfl, H1⟩
end Go.Proofs.YtehefifamaofkaaGreatDoor
