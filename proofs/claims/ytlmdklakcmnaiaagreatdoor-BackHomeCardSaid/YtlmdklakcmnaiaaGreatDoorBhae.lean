import Derived.Test.YtlmdklakcmnaiaaGreatDoorBhad
import Derived.Laws.EntriesVeiled
namespace Go.Proofs.YtlmdklakcmnaiaaGreatDoor
set_option maxHeartbeats 8000000
open Go.Proofs.Tryz
open Go.RowKit
set_option maxRecDepth 100000
set_option linter.unusedVariables false
def unw (ops : Array Oper) : List Oper -> Act -> Bool
 |[], _ => true
 |r :: rs, a => !(Region.wanted r (yielded ops a.tmps)) && unw ops rs (a.put r.dst undef)
def bL : List Oper -> Act -> Act
 |[], a => a
 |r :: rs, a => bL rs (a.put r.dst undef)
section
variable {P : Program} {ops : Array Oper} {rest l : List Oper} {o : Oper} {a : Act} {w w' : World} {Q : Exit -> Act -> World -> Prop} {v : Value}
theorem qk : ∀ (rs : List Oper) (a : Act), unw ops rs a = true -> wpList P ops Q rest (bL rs a) w -> wpList P ops Q (rs ++ rest) a w
 |[], _, _, h => h
 |r :: rs, a, hu, h => by
  simp only [unw, Bool.and_eq_true, Bool.not_eq_true'] at hu;refine wpList_step fun K hK => ?_
  rw [if_neg (by rw [hu.1]; exact Bool.false_ne_true)];exact hK _ _ (qk rs _ hu.2 h)
theorem a7 (n : Nat) (hw : Region.wanted o (yielded ops a.tmps) = true) (h : (execOp a.eval o).run P w = .ok (.value v) w') (hu : unw ops (l.take n) (a.put o.dst v) = true) (hr : wpList P ops Q (l.drop n) (bL (l.take n) (a.put o.dst v)) w') : wpList P ops Q (o :: l) a w :=
 az hw h (by have := qk (P := P) (Q := Q) (l.take n) _ hu hr; rwa [List.take_append_drop] at this)
end
set_option linter.unusedSimpArgs false
theorem ago (x : Ros) (w : World) : Calls prog 40 #[ros x] w fun e w' => e = .returned (.bool (aW x)) /\ Below w.heap.size w w' := by
 have HGE : Hid (dH x = false -> aW x = false) := ae fun h => by unfold aW; rw [h]; rfl
 have HOK : Hid (dH x = true -> fO x = true -> aW x = (decide (dG x <= 1) && decide (0 <= x.cur /\ x.cur < x.s /\ (dG x = 1 \/ x.cur = 0)))) := ae fun h h' => by unfold aW; rw [h, h', Bool.true_and, Bool.true_and]
 have HNO : Hid (∀ j, j < 16 -> (2 < sta x j \/ (x.m <= (j : Int) /\ sta x j ≠ 0)) -> aW x = false) := ae fun j => aiz
 have HSTA := ae (jq (x := x));obtain ⟨h1, h2, h3⟩ := db w x;have HR := ae h1;have HB := ae h2;have HZ := ae h3;clear h1 h2 h3;have HH : Hid (dG x = ie x.st.toList 16) := ae rfl;have HST : Hid (∀ j, sta x j = bt x.st.toList j) := ae fun _ => rfl
 go_enter func40, ntmps40;go_wp2_with (first | (refine aw rfl (a6 rfl rfl) ?_) | (refine aw rfl (dm (c := x) rfl rfl ?_) ?_; (with_reducible exact HR.out.geo)) | fail);generalize w.alloc (.cells (aZ x).toArray 58) = w1 at *;refine (agn x w1).mono ?_;rintro e w2 ⟨rfl, hb⟩;have HR2 := ae (HR.out.below HZ hb);have HB2 := ae (HB.out.trans (hb.mono (Nat.le_of_lt HZ)));clear hb HR HB HZ;cases hg : dH x
 ·have HF := ae (HGE.out hg);clear hg;go_wp2_with fail;go_ret;exact ⟨by rw [HF.out]; rfl, HB2⟩
 ·have HOK2 := ae (HOK.out hg);clear hg HOK HGE;have HM := ae HR2.out.cells.1;have HSS := ae HR2.out.cells.2.1;have HCU := ae HR2.out.cells.2.2.2.1;go_wp2_with fail
  go_loop [3, 4] (fun n i => ∃ j : Nat, j <= 16 /\ i = .int .i64 j /\ n = .int .i64 (ie x.st.toList j : Nat) /\ (∀ k, k < j -> sta x k <= 2) /\ (∀ k : Nat, k < j -> x.m <= (k : Int) -> sta x k = 0)) (fun _ i => 16 - (intOf i).toNat)
  case atStart => exact ⟨0, Nat.zero_le _, rfl, rfl, fun k hk => absurd hk (by omega), fun k hk => absurd hk (by omega)⟩
  case round =>
   obtain ⟨j, hj, rfl, rfl, ha1, ha2⟩ := hrel;have HA1 := ae ha1;have HA2 := ae ha2;clear ha1 ha2;by_cases hlt : j < 16
   ·have HC := ae (HR2.out.sta hlt);have HS := ae (lj x.st.toList j);have hle := oO x.st.toList j;generalize ie x.st.toList j = n at *;go_upto_region 7 with fail;refine aI 1 ?_;refine akj (ax rfl akt nI) ?_;refine akj (cU rfl akt akt (qn hlt)) ?_;refine akj (aD rfl akt (qy HC)) ?_;by_cases g2 : 2 < sta x j
    ·have HF := ae (HNO.out j hlt (.inl g2));have H17 : Hid (decide ((2 : Int) < sta x j) = true) := ae (ao g2);clear g2;refine akj (dA true rfl akt evk H17) ?_;refine a7 12 rfl (aM rfl akt) (by kernel_rfl) ?_;simp only [bL, ac, aa];refine aF 1 ?_;go_wp2_with fail;go_ret;exact ⟨by rw [HF.out]; rfl, HB2⟩
    ·have H17 : Hid (decide ((2 : Int) < sta x j) = false) := ae (am g2);have HLE : Hid (sta x j <= 2) := ae (by omega);refine akj (dA false rfl akt evk H17) ?_;refine runs 2 ?_;refine akq (ax rfl akt pz) ?_;refine akq (ax rfl akt oP) ?_;refine akq (aD rfl akt (cd HM)) ?_;by_cases gm : x.m <= (j : Int)
     ·have H23 : Hid (decide (x.m <= (j : Int)) = true) := ae (ao gm);refine akq (dD true rfl akt akt H23) ?_;refine runs 2 ?_;refine akq (ax rfl akt nI) ?_;refine akq (cU rfl akt akt (qn hlt)) ?_;refine akq (aD rfl akt (qy HC)) ?_;by_cases g0 : sta x j = 0
      ·have H29 : Hid ((sta x j != 0) = false) := ae (by rw [g0]; rfl);have HEQ := ae g0;clear g2 gm g0;refine akq (aK false rfl akt evk H29) ?_;refine aF 2 ?_;have cs := HC.out;rw [HEQ.out] at cs;go_wp2_with fail
       go_round
       case rel =>
        refine ⟨j + 1, by omega, by go_num, ?_, fun k hk => ?_, fun k hk hm => ?_⟩
        ·rw [HS.out, if_neg (by rw [<- HST.out, HEQ.out]; omega), Nat.add_zero]
        ·by_cases e : k = j
         ·rw [e]; exact HLE
         ·exact HA1.out k (by omega)
        ·by_cases e : k = j
         ·rw [e]; exact HEQ
         ·exact HA2.out k (by omega) hm
       case measure => simp [intOf]; omega
      ·have HF := ae (HNO.out j hlt (.inr ⟨gm, g0⟩));have H29 : Hid ((sta x j != 0) = true) := ae (by simpa using g0);clear g2 gm g0;refine akq (aK true rfl akt evk H29) ?_;refine aF 2 ?_;go_wp2_with fail;go_ret;exact ⟨by rw [HF.out]; rfl, HB2⟩
     ·have H23 : Hid (decide (x.m <= (j : Int)) = false) := ae (am gm);have HGM := ae gm;clear g2 gm;refine akq (dD false rfl akt akt H23) ?_;refine a7 5 ake (aM rfl akt) (by kernel_rfl) ?_;simp only [bL, ac, aa];refine aF 2 ?_;have cs := HC.out;have HN1 : Hid (∀ k, k < j + 1 -> sta x k <= 2) := ae fun k hk => by
       by_cases e : k = j
       ·rw [e]; exact HLE
       ·exact HA1.out k (by omega)
      have HN2 : Hid (∀ k : Nat, k < j + 1 -> x.m <= (k : Int) -> sta x k = 0) := ae fun k hk hm => by
       by_cases e : k = j
       ·rw [e] at hm; exact absurd hm HGM
       ·exact HA2.out k (by omega) hm
      by_cases h2 : sta x j = 2
      ·have hd : (sta x j == 2) = true := by rw [h2]; rfl
       have HEQ := ae h2;clear h2;go_wp2_with fail
       go_round
       case rel => exact ⟨j + 1, by omega, by go_num, by rw [HS.out, if_pos (by rw [<- HST.out, HEQ.out])]; go_num, HN1, HN2⟩
       case measure => simp [intOf]; omega
      ·have hd : (sta x j == 2) = false := by simpa using h2
       have HEQ := ae h2;clear h2;go_wp2_with fail
       go_round
       case rel => exact ⟨j + 1, by omega, by go_num, by rw [HS.out, if_neg (by rw [<- HST.out]; exact HEQ.out), Nat.add_zero], HN1, HN2⟩
       case measure => simp [intOf]; omega
   ·have e : j = 16 := by omega
    subst e;have HF := ae (HOK2.out (HSTA.out.2 ⟨HA1, HA2⟩));rw [HH.out] at HF;have hle := oO x.st.toList 16;generalize ie x.st.toList 16 = n at *;clear HA1 HA2 HNO HSTA hlt hj HST HOK2;obtain ⟨c, hc⟩ : ∃ c, x.cur = c := ⟨_, rfl⟩;obtain ⟨s, hs⟩ : ∃ s, x.s = s := ⟨_, rfl⟩;rw [hc, hs] at HF;rw [hc] at HCU;rw [hs] at HSS;clear hc hs;go_upto_region 11 with fail;refine aI 1 ?_;by_cases q1 : n <= 1
    ·have H40 : Hid (decide ((n : Int) <= 1) = true) := ae (ao (by omega));refine akj (l8 true rfl akt evk H40) ?_;refine runs 1 ?_;refine akq (ax rfl akt aaF) ?_;refine akq (aD rfl akt (cd HCU)) ?_;by_cases q2 : 0 <= c
     ·have H44 : Hid (decide ((0 : Int) <= c) = true) := ae (ao q2);refine akq (dD true rfl akt evk H44) ?_;refine runs 2 ?_;refine akq (ax rfl akt aaF) ?_;refine akq (aD rfl akt (cd HCU)) ?_;refine akq (ax rfl akt pz) ?_;refine akq (ax rfl akt acd) ?_;refine akq (aD rfl akt (cd HSS)) ?_;by_cases q3 : c < s
      ·have H52 : Hid (decide (c < s) = true) := ae (ao q3);refine akq (aY true rfl akt akt H52) ?_;refine runs 3 ?_;by_cases q4 : n = 1
       ·have H56 : Hid (((n : Int) == 1) = true) := ae (by rw [q4]; rfl);refine akq (aH true rfl akt evk H56) ?_;refine a7 3 ake (aM rfl akt) (by kernel_rfl) ?_;simp only [bL, ac, aa];refine aF 3 ?_;go_wp2_with fail;go_ret;exact ⟨bf (by rw [HF.out]; rw [ao q1, ao (by omega)]; rfl), HB2⟩
       ·have H56 : Hid (((n : Int) == 1) = false) := ae (by simp; omega);refine akq (aH false rfl akt evk H56) ?_;refine runs 1 ?_;refine akq (ax rfl akt aaF) ?_;refine akq (aD rfl akt (cd HCU)) ?_;by_cases q5 : c = 0
        ·have H60 : Hid ((c == 0) = true) := ae (by simpa using q5);refine akq (aH true rfl akt evk H60) ?_;refine aF 3 ?_;go_wp2_with fail;go_ret;exact ⟨bf (by rw [HF.out]; rw [ao q1, ao (by omega)]; rfl), HB2⟩
        ·have H60 : Hid ((c == 0) = false) := ae (by simpa using q5);refine akq (aH false rfl akt evk H60) ?_;refine aF 3 ?_;go_wp2_with fail;go_ret;exact ⟨bf (by rw [HF.out]; rw [ao q1, am (by omega)]; rfl), HB2⟩
      ·have H52 : Hid (decide (c < s) = false) := ae (am q3);refine akq (aY false rfl akt akt H52) ?_;refine runs 1 ?_;refine a7 7 rfl (aM rfl akt) (by kernel_rfl) ?_;simp only [bL, ac, aa];refine aF 2 ?_;go_wp2_with fail;go_ret;exact ⟨bf (by rw [HF.out]; rw [ao q1, am (by omega)]; rfl), HB2⟩
     ·have H44 : Hid (decide ((0 : Int) <= c) = false) := ae (am q2);refine akq (dD false rfl akt evk H44) ?_;refine runs 1 ?_;refine a7 6 rfl (aM rfl akt) (by kernel_rfl) ?_;simp only [bL, ac, aa];refine runs 1 ?_;refine a7 7 rfl (aM rfl akt) (by kernel_rfl) ?_;simp only [bL, ac, aa];refine aF 2 ?_;go_wp2_with fail;go_ret;exact ⟨bf (by rw [HF.out]; rw [ao q1, am (by omega)]; rfl), HB2⟩
    ·have H40 : Hid (decide ((n : Int) <= 1) = false) := ae (am (by omega));refine akj (l8 false rfl akt evk H40) ?_;refine a7 3 rfl (aM rfl akt) (by kernel_rfl) ?_;simp only [bL, ac, aa];refine runs 1 ?_;refine a7 6 rfl (aM rfl akt) (by kernel_rfl) ?_;simp only [bL, ac, aa];refine runs 1 ?_;refine a7 7 rfl (aM rfl akt) (by kernel_rfl) ?_;simp only [bL, ac, aa];refine aF 2 ?_;go_wp2_with fail;go_ret;exact ⟨bf (by rw [HF.out]; rw [am q1]; rfl), HB2⟩
theorem mg (s : Int) (w : World) (h1 : 1 <= s) (h2 : s <= 8) : Calls prog 166 #[.int .i64 s] w fun e w' => e = .returned (.bool true) /\ w = w' := by
 go_enter func166, ntmps166;go_wp2;go_ret;exact ⟨rfl, rfl⟩
theorem xv {d : Nat} (h1 : 1 <= d) (h2 : d <= 8) : d = 1 \/ d = 2 \/ d = 3 \/ d = 4 \/ d = 5 \/ d = 6 \/ d = 7 \/ d = 8 := by omega
def bytesOf (m d : Nat) : Nat := (m * d + 7) / 8
theorem rx (m d : Nat) (w : World) (h1 : 1 <= d) (h2 : d <= 8) (hm : m <= 4611686018427387904) : Calls prog 167 #[.int .i64 m, .int .i64 d] w fun e w' => e = .returned (.int .i64 (bytesOf m d)) /\ w = w' := by
 rcases xv h1 h2 with rfl | rfl | rfl | rfl | rfl | rfl | rfl | rfl
 all_goals
  clear h1 h2;go_enter func167, ntmps167;go_wp2;go_ret;exact ⟨dv (by unfold bytesOf; omega), rfl⟩
theorem ru (m d : Nat) (w : World) (h1 : 1 <= d) (h2 : d <= 8) (hm : m <= 4611686018427387904) : Calls prog 168 #[.int .i64 m, .int .i64 d] w fun e w' => e = .returned (.tuple #[.int .i64 (m * d / 8 : Nat), .int .i64 (m * d % 8 : Nat)]) /\ w = w' := by
 rcases xv h1 h2 with rfl | rfl | rfl | rfl | rfl | rfl | rfl | rfl
 all_goals
  clear h1 h2;go_enter func168, ntmps168;go_wp2;go_ret2;exact ⟨uT (by omega) (by omega), rfl⟩
theorem oC (a d : Nat) (w : World) (ha : a <= 8) (h2 : d <= 8) (h : 8 < a + d) : Calls prog 169 #[.int .i64 a, .int .i64 d] w fun e w' => e = .returned (.bool true) /\ w = w' := by
 go_enter func169, ntmps169;go_wp2;go_ret;exact ⟨bf (by simp; omega), rfl⟩
theorem rz (a d : Nat) (w : World) (ha : a <= 8) (h2 : d <= 8) (h : ¬ 8 < a + d) : Calls prog 169 #[.int .i64 a, .int .i64 d] w fun e w' => e = .returned (.bool false) /\ w = w' := by
 go_enter func169, ntmps169;go_wp2;go_ret;exact ⟨bf (by simp; omega), rfl⟩
theorem fits_int (n c : Int) (w : World) (hn : 0 <= n) (h0 : 0 <= c) (h64 : c <= 64) : Calls prog 165 #[.int .u64 n, .int .i64 c] w fun e w' => e = .returned (.bool (wj n.toNat c.toNat)) /\ w = w' := by
 obtain ⟨m, rfl⟩ := Int.eq_ofNat_of_zero_le hn;rw [Int.toNat_natCast];exact uX m c w h0 h64
def narrow (d : Nat) (l : List UInt8) : Bool := l.all fun u => decide (u.toNat < 2 ^ d)
theorem gY {d : Nat} {l : List UInt8} (h : narrow d l = true) : ∀ u ∈ l, u.toNat < 2 ^ d := by
 intro u hu;have := List.all_eq_true.1 h u hu
 simpa using this
theorem ad4 {l : List UInt8} {d j : Nat} (hall : narrow d l = true) (hj : j < l.length) : wj (bt l j).toNat (d : Int).toNat = true := by
 unfold wj;rw [Int.toNat_natCast, decide_eq_true_eq, eS hj, Int.toNat_natCast];exact gY hall _ (List.getElem_mem hj)
theorem aa6 {X ab : Nat} (hX : X < 256) (hab : ab <= 7) : IntKind.u16.wrap ((X : Int) * 2 ^ ab) = ((X * 2 ^ ab : Nat) : Int) := by
 have h2 : 2 ^ ab <= 2 ^ 7 := Nat.pow_le_pow_right (by omega) hab;have h3 : X * 2 ^ ab <= 255 * 2 ^ 7 := Nat.mul_le_mul (by omega) h2;have e : ((X : Int) * 2 ^ ab) = ((X * 2 ^ ab : Nat) : Int) := by push_cast; rfl
 rw [e];exact IntWalk.u16_in _ ⟨by omega, by omega⟩
theorem yY {x1 X ab : Nat} (h1 : x1 < 256) (hX : X < 256) (hab : ab <= 7) : bits .or .u8 (x1 : Int) (IntKind.u16.wrap ((X : Int) * 2 ^ ab) % 256) = ((x1 ||| (X * 2 ^ ab % 2 ^ 8) : Nat) : Int) := by
 rw [aa6 hX hab];exact u8_or_nat x1 (X * 2 ^ ab % 256) h1 (Nat.mod_lt _ (by decide))
theorem afH {x2 X ab : Nat} (h1 : x2 < 256) (hX : X < 256) (hab : ab <= 7) : bits .or .u8 (x2 : Int) (IntKind.u16.wrap ((X : Int) * 2 ^ ab) / 256 % 256) = ((x2 ||| (X * 2 ^ ab / 2 ^ 8) : Nat) : Int) := by
 rw [aa6 hX hab];have h2 : 2 ^ ab <= 2 ^ 7 := Nat.pow_le_pow_right (by omega) hab;have h3 : X * 2 ^ ab <= 255 * 2 ^ 7 := Nat.mul_le_mul (by omega) h2;have e : (((X * 2 ^ ab : Nat) : Int) / 256 % 256) = ((X * 2 ^ ab / 256 : Nat) : Int) := by omega
 rw [e];exact u8_or_nat x2 (X * 2 ^ ab / 256) h1 (by omega)
theorem ad3 {w : World} {g t q ab i d V X : Nat} {e : TypeId} (hrow : w.rowIs g e t (fun k => .int .u8 (dg V k : Nat))) (hV : V < 2 ^ (i * d)) (hX : X < 2 ^ d) (hd : d <= 8) (hq : i * d / 8 = q) (hab : i * d % 8 = ab) :
  ((w.setCell ⟨g, q, none⟩ (.int .u8 (bits .or .u8 (dg V q : Nat) (IntKind.u16.wrap ((X : Int) * 2 ^ ab) % 256)))).setCell ⟨g, q + 1, none⟩ (.int .u8 (bits .or .u8 (dg V (q + 1) : Nat) (IntKind.u16.wrap ((X : Int) * 2 ^ ab) / 256 % 256)))).rowIs g e t
   (fun k => .int .u8 (dg (V + 2 ^ (i * d) * X) k : Nat)) := by
 have hX8 : X < 256 := au hX (Nat.pow_le_pow_right (by omega) hd);have h7 : ab <= 7 := by omega
 refine ((hrow.set q _).set (q + 1) _).congr fun k hk => ?_
 rw [yY (lg _ _) hX8 h7, afH (lg _ _) hX8 h7, aer hV hX hd hq hab]
 show (if k = q + 1 then _ else if k = q then _ else _) = _
 split
 ·rfl
 ·split <;> rfl
theorem wR {w : World} {g t q ab i d V X : Nat} {e : TypeId} (hrow : w.rowIs g e t (fun k => .int .u8 (dg V k : Nat))) (hV : V < 2 ^ (i * d)) (hX : X < 2 ^ d) (hd : d <= 8) (hs : ab + d <= 8) (hq : i * d / 8 = q) (hab : i * d % 8 = ab) :
  (w.setCell ⟨g, q, none⟩ (.int .u8 (bits .or .u8 (dg V q : Nat) (IntKind.u16.wrap ((X : Int) * 2 ^ ab) % 256)))).rowIs g e t
   (fun k => .int .u8 (dg (V + 2 ^ (i * d) * X) k : Nat)) := by
 have hX8 : X < 256 := au hX (Nat.pow_le_pow_right (by omega) hd);refine (hrow.set q _).congr fun k hk => ?_
 rw [yY (lg _ _) hX8 (by omega), wI hV hX hs hq hab]
 show (if k = q then _ else _) = _
 split <;> rfl
theorem ae5 (A : Option Addr) (n c N d B : Nat) (l : List UInt8) (w : World) (HB : Hid (B = w.heap.size)) (hl : Rd w N A n l) (hN : N <= B) (hn : n <= 140737488351232) (h1 : 1 <= d) (h2 : d <= 8) (hall : narrow d l = true) :
  Calls prog 155 #[.slice A n c, .int .i64 d] w fun e w' => ∃ v, e = .returned (.tuple #[v, .int .i64 0]) /\ Own w' B v (cw 8 (bytesOf n d) (val d l)) /\ Below B w w' := by
 have HA := ae hall;clear hall;have hBle : B <= w.heap.size := Nat.le_of_eq HB;have htot : bytesOf n d <= 140737488355328 := by unfold bytesOf; have := Nat.mul_le_mul_left n h2; omega
 have hmk := run_make_row' (P := prog) 208 5 (.int .u8 0) 1 underlying208 wg rfl .i64 .i64 (bytesOf n d) (by omega) (by omega);go_enter func155, ntmps155;go_wp2_with (first | (go_at_call 166; refine (mg _ _ (by omega) (by omega)).mono ?_; rintro e w' ⟨rfl, rfl⟩))
 go_loop [18] (fun i => ∃ j : Nat, j <= n /\ i = .int .i64 j) (fun i => n - (intOf i).toNat)
 case atStart => exact ⟨0, Nat.zero_le _, rfl⟩
 case round =>
  obtain ⟨j, hj, rfl⟩ := hrel;by_cases hlt : j < n
  ·obtain ⟨bA, oA, rfl, hA, cA⟩ := hl.2 j hlt;have hlo := kY l j;have hhi := nh l j;go_wp2_with fail;refine (fits_int _ _ _ hlo (by omega) (by omega)).mono ?_;rintro e w' ⟨rfl, rfl⟩;rw [ad4 HA.out (by have := hl.1; omega)];go_wp2
   go_round
   case rel => exact ⟨j + 1, by omega, by go_num⟩
   case measure => simp [intOf]; omega
  ·have e : j = n := by omega
   subst e;go_wp2_with fail;refine (rx _ _ _ h1 h2 (by omega)).mono ?_;rintro e w' ⟨rfl, rfl⟩;go_wp2;clear hmk;have hr0 := World.rowIs_made w (Value.int .u8 0) (bytesOf j d) 5;have hbl0 : Below B w (w.alloc (.cells (madeCells #[Value.int .u8 0] (bytesOf j d)) 5)) := ak.alloc hBle _;generalize w.heap.size = g at hr0 hBle ⊢
   go_loopw [35] (fun i wr => ∃ i' : Nat, i' <= j /\ i = .int .i64 i' /\ wr.rowIs g 5 (bytesOf j d) (fun k => .int .u8 (dg (val d (l.take i')) k : Nat)) /\ Below B w wr) (fun i _ => j - (intOf i).toNat)
   case atStart => exact ⟨0, Nat.zero_le _, rfl, hr0.congr fun k _ => by simp [val, dg], hbl0⟩
   case round =>
    clear hbl0 hr0;obtain ⟨i, hi, rfl, hrow, hbl⟩ := hrel;by_cases hlt : i < j
    ·go_wp2_with fail;refine (ru _ _ _ h1 h2 (by omega)).mono ?_;rintro e w' ⟨rfl, rfl⟩;have hab : i * d % 8 <= 7 := by omega
     have hq1 : i * d / 8 < bytesOf j d := by
      unfold bytesOf;have h3 : (i + 1) * d <= j * d := Nat.mul_le_mul_right d hlt;rw [Nat.succ_mul] at h3;omega
     have hq2 : 8 < i * d % 8 + d -> i * d / 8 + 1 < bytesOf j d := by
      unfold bytesOf;have h3 : (i + 1) * d <= j * d := Nat.mul_le_mul_right d hlt;rw [Nat.succ_mul] at h3;omega
     generalize hq : i * d / 8 = q at *;generalize ha : i * d % 8 = ab at *;have HQ := ae hq;have HAB := ae ha;clear hq ha;obtain ⟨bA, oA, rfl, hA, cA⟩ := (hl.below (hbl.mono hN)).2 i hlt;have hlo := kY l i;have hhi := nh l i;have hc1 := hrow.cell hq1;have hf1 := hrow.frozen q;have hf2 := hrow.frozen (q + 1);generalize hV : val d (l.take i) = V at *;have HV := ae hV;clear hV;have hd1 := lg V q;generalize hx : dg V q = x1 at *;have HX := ae hx;clear hx;by_cases hsp : 8 < ab + d
     ·have hq3 := hq2 hsp;have hc2 := hrow.cell hq3;have hd2 := lg V (q + 1);generalize hx : dg V (q + 1) = x2 at *;have HX2 := ae hx;clear hx hq2;go_wp2_with fail;refine (oC _ _ _ (by omega) h2 hsp).mono ?_;rintro e w' ⟨rfl, rfl⟩;go_wp2;go_roundw
      case rel =>
       refine ⟨i + 1, by omega, by go_num, ?_, (hbl.setCell hBle _).setCell hBle _⟩;have hl' : i < l.length := by have := hl.1; omega
       rw [la hl', HV.out, <- HX.out, <- HX2.out, eS hl'];exact ad3 hrow (by rw [<- HV.out]; exact ng (gY HA.out) (by omega)) (gY HA.out _ (List.getElem_mem hl')) h2 HQ.out HAB.out
      case measure => simp [intOf]; omega
     ·clear hq2;go_wp2_with fail;refine (rz _ _ _ (by omega) h2 hsp).mono ?_;rintro e w' ⟨rfl, rfl⟩;go_wp2;go_roundw
      case rel =>
       refine ⟨i + 1, by omega, by go_num, ?_, hbl.setCell hBle _⟩;have hl' : i < l.length := by have := hl.1; omega
       rw [la hl', HV.out, <- HX.out, eS hl'];exact wR hrow (by rw [<- HV.out]; exact ng (gY HA) (by omega)) (gY HA _ (List.getElem_mem hl')) h2 (by omega) HQ HAB
      case measure => simp [intOf]; omega
    ·have e : i = j := by omega
     subst e;go_wp2;go_ret2;refine ⟨_, rfl, Own.vJ (aT _ _ _) hBle hrow aj (by unfold maxLen; omega) ?_ ?_, hbl⟩
     ·intro k hk;have hk' : k < (cw 8 (bytesOf i d) (val d l)).length := by rw [aT]; exact hk
      rw [eS hk', jA (by omega) hk', List.take_of_length_le (by have := hl.1; omega)]
      rfl
     ·intro k;have := lg (val d (l.take i)) k;omega
theorem xi (b : List UInt8) (q : Nat) : (dg (val 8 b) q : Nat) = bt b q := by
 unfold dg bt;rw [zy (x6 b)]
theorem ahH {d : Nat} (h1 : 1 <= d) (h2 : d <= 8) : IntKind.u16.wrap (IntKind.u16.wrap (2 ^ d) - 1) = ((2 ^ d - 1 : Nat) : Int) := by
 rcases xv h1 h2 with rfl | rfl | rfl | rfl | rfl | rfl | rfl | rfl <;> rfl
theorem uw {d y : Nat} (h1 : 1 <= d) (h2 : d <= 8) (hy : y < 65536) : bits .and .u16 (y : Int) (IntKind.u16.wrap (IntKind.u16.wrap (2 ^ d) - 1)) % 256 = ((y % 2 ^ d : Nat) : Int) := by
 have h3 : 2 ^ d <= 2 ^ 8 := Nat.pow_le_pow_right (by omega) h2;have h4 : y % 2 ^ d < 2 ^ d := Nat.mod_lt _ (Nat.pow_pos (by omega));rw [ahH h1 h2, u16_and_nat y _ hy (by omega), Nat.and_two_pow_sub_one_eq_mod];omega
theorem yG {d m V j : Nat} (h2 : d <= 8) (hj : j < m) : bt (cw d m V) j = ((V / 2 ^ (j * d) % 2 ^ d : Nat) : Int) := by
 have hl : j < (cw d m V).length := by rw [aT]; exact hj
 rw [eS hl, jA h2 hl, Nat.mul_comm d j]
theorem zn {b : List UInt8} {q ab d j m : Nat} (h1 : 1 <= d) (h2 : d <= 8) (hj : j < m) (hq : j * d / 8 = q) (hab : j * d % 8 = ab) :
  bits .and .u16 (bits .or .u16 (bt b q) (bt b (q + 1) * 256) / 2 ^ ab) (IntKind.u16.wrap (IntKind.u16.wrap (2 ^ d) - 1)) % 256 = bt (cw d m (val 8 b)) j := by
 subst hq hab;rw [<- xi, <- xi];have l1 := lg (val 8 b) (j * d / 8);have l2 := lg (val 8 b) (j * d / 8 + 1);have e : ((dg (val 8 b) (j * d / 8 + 1) : Nat) : Int) * 256 = ((dg (val 8 b) (j * d / 8 + 1) * 256 : Nat) : Int) := by omega
 rw [e, u16_or_nat _ _ (by omega) (by omega), Nat.or_comm, nat_join 8 _ _ (Nat.mul_mod_left _ (2 ^ 8)) l1];have e2 : (((dg (val 8 b) (j * d / 8 + 1) * 256 + dg (val 8 b) (j * d / 8) : Nat) : Int) / 2 ^ (j * d % 8)) = (((dg (val 8 b) (j * d / 8) + 2 ^ 8 * dg (val 8 b) (j * d / 8 + 1)) / 2 ^ (j * d % 8) : Nat) : Int) := by
  have e3 : ((2 : Int) ^ (j * d % 8)) = ((2 ^ (j * d % 8) : Nat) : Int) := by push_cast; rfl
  rw [e3, show dg (val 8 b) (j * d / 8 + 1) * 256 + dg (val 8 b) (j * d / 8) = dg (val 8 b) (j * d / 8) + 2 ^ 8 * dg (val 8 b) (j * d / 8 + 1) from by omega]
  rfl
 have l3 : (dg (val 8 b) (j * d / 8) + 2 ^ 8 * dg (val 8 b) (j * d / 8 + 1)) / 2 ^ (j * d % 8) < 65536 := Nat.lt_of_le_of_lt (Nat.div_le_self _ _) (by omega);rw [e2, uw h1 h2 l3, wd h2, yG h2 hj]
theorem rK {b : List UInt8} {q ab d j m : Nat} (h1 : 1 <= d) (h2 : d <= 8) (hj : j < m) (hs : ab + d <= 8) (hq : j * d / 8 = q) (hab : j * d % 8 = ab) :
  bits .and .u16 (bt b q / 2 ^ ab) (IntKind.u16.wrap (IntKind.u16.wrap (2 ^ d) - 1)) % 256 = bt (cw d m (val 8 b)) j := by
 subst hq hab;rw [<- xi];have l1 := lg (val 8 b) (j * d / 8);have e2 : ((dg (val 8 b) (j * d / 8) : Nat) : Int) / 2 ^ (j * d % 8) = ((dg (val 8 b) (j * d / 8) / 2 ^ (j * d % 8) : Nat) : Int) := by
  have e3 : ((2 : Int) ^ (j * d % 8)) = ((2 ^ (j * d % 8) : Nat) : Int) := by push_cast; rfl
  rw [e3]
  rfl
 have l3 : dg (val 8 b) (j * d / 8) / 2 ^ (j * d % 8) < 65536 := Nat.lt_of_le_of_lt (Nat.div_le_self _ _) (by omega);rw [e2, uw h1 h2 l3, wb hs, yG h2 hj]
theorem aae (A : Option Addr) (n c N d m B : Nat) (b : List UInt8) (w : World) (HB : Hid (B = w.heap.size)) (hb : Rd w N A n b) (hN : N <= B) (hn : n <= 140737488355328) (h1 : 1 <= d) (h2 : d <= 8) (hm : m <= 1048576) (hs : bytesOf m d <= n) :
  Calls prog 178 #[.slice A n c, .int .i64 d, .int .i64 m] w fun e w' => ∃ v, e = .returned (.tuple #[v, .int .i64 0]) /\ Own w' B v (cw d m (val 8 b)) /\ Below B w w' := by
 have hBle : B <= w.heap.size := Nat.le_of_eq HB;have hd30 : decide (n < bytesOf m d) = false := by simpa using hs
 have hd19 : decide ((m : Int) < 0) = false := by simp
 have hd23 : decide (1048576 < (m : Int)) = false := by simp; omega
 have hmk := run_make_row' (P := prog) 208 5 (.int .u8 0) 1 underlying208 wg rfl .i64 .i64 m (by omega) (by omega);go_enter func178, ntmps178;go_wp2_with (first | (go_at_call 166; refine (mg _ _ (by omega) (by omega)).mono ?_; rintro e w' ⟨rfl, rfl⟩));refine (rx _ _ _ h1 h2 (by omega)).mono ?_;rintro e w' ⟨rfl, rfl⟩;go_wp2;clear hmk;have hr0 := World.rowIs_made w (Value.int .u8 0) m 5;have hbl0 : Below B w (w.alloc (.cells (madeCells #[Value.int .u8 0] m) 5)) := ak.alloc hBle _;generalize w.heap.size = g at hr0 hBle ⊢
 go_loopw [37] (fun i wr => ∃ (j : Nat) (f : Nat -> Int), j <= m /\ i = .int .i64 j /\ wr.rowIs g 5 m (fun k => .int .u8 (f k)) /\ (∀ k, k < j -> f k = bt (cw d m (val 8 b)) k) /\ (∀ k, 0 <= f k /\ f k <= 255) /\ Below B w wr) (fun i _ => m - (intOf i).toNat)
 case atStart => exact ⟨0, fun _ => 0, Nat.zero_le _, rfl, hr0, fun k hk => absurd hk (by omega), fun k => by simp, hbl0⟩
 case round =>
  clear hbl0 hr0;obtain ⟨j, f, hj, rfl, hrow, hf, hr, hbl⟩ := hrel;have HF := ae hf;have HR := ae hr;clear hf hr;by_cases hlt : j < m
  ·go_wp2_with fail;refine (ru _ _ _ h1 h2 (by omega)).mono ?_;rintro e w' ⟨rfl, rfl⟩;have hab : j * d % 8 <= 7 := by omega
   have hq1 : j * d / 8 < n := by
    unfold bytesOf at hs;have h3 : (j + 1) * d <= m * d := Nat.mul_le_mul_right d hlt;rw [Nat.succ_mul] at h3;omega
   have hq2 : 8 < j * d % 8 + d -> j * d / 8 + 1 < n := by
    unfold bytesOf at hs;have h3 : (j + 1) * d <= m * d := Nat.mul_le_mul_right d hlt;rw [Nat.succ_mul] at h3;omega
   generalize hq : j * d / 8 = q at *;generalize ha : j * d % 8 = ab at *;have HQ := ae hq;have HAB := ae ha;clear hq ha;obtain ⟨bA, oA, rfl, hA, cA⟩ := (hb.below (hbl.mono hN)).2 q hq1;have hlo := kY b q;have hhi := nh b q;have hc1 := hrow.cell hlt;have hf1 := hrow.frozen j;by_cases hsp : 8 < ab + d
   ·have hq3 := hq2 hsp;obtain ⟨bA', oA', hA2, _, cA2⟩ := (hb.below (hbl.mono hN)).2 (q + 1) hq3;injection hA2 with hA2;injection hA2 with hA3 hA4;subst hA3 hA4;have hlo2 := kY b (q + 1);have hhi2 := nh b (q + 1);go_wp2_with fail;refine (oC _ _ _ (by omega) h2 hsp).mono ?_;rintro e w' ⟨rfl, rfl⟩;go_wp2;go_roundw
    case rel =>
     rw [zn h1 h2 hlt HQ.out HAB.out];refine ⟨j + 1, upd f j (bt (cw d m (val 8 b)) j), by omega, by go_num, y6 hrow _, ?_, ?_, hbl.setCell hBle _⟩
     ·intro k hk;by_cases e : k = j
      ·subst e; exact sw _ _ _
      ·rw [nP _ _ e]; exact HF.out k (by omega)
     ·intro k;by_cases e : k = j
      ·subst e; rw [sw]; exact ⟨kY _ _, nh _ _⟩
      ·rw [nP _ _ e]; exact HR.out k
    case measure => simp [intOf]; omega
   ·clear hq2;go_wp2_with fail;refine (rz _ _ _ (by omega) h2 hsp).mono ?_;rintro e w' ⟨rfl, rfl⟩;go_wp2;go_roundw
    case rel =>
     rw [rK h1 h2 hlt (by omega) HQ.out HAB.out];refine ⟨j + 1, upd f j (bt (cw d m (val 8 b)) j), by omega, by go_num, y6 hrow _, ?_, ?_, hbl.setCell hBle _⟩
     ·intro k hk;by_cases e : k = j
      ·subst e; exact sw _ _ _
      ·rw [nP _ _ e]; exact HF.out k (by omega)
     ·intro k;by_cases e : k = j
      ·subst e; rw [sw]; exact ⟨kY _ _, nh _ _⟩
      ·rw [nP _ _ e]; exact HR.out k
    case measure => simp [intOf]; omega
  ·have e : j = m := by omega
   subst e;go_wp2;go_ret2;exact ⟨_, rfl, Own.vJ (aT _ _ _) hBle hrow aj (by unfold maxLen; omega) HF HR, hbl⟩
theorem il {ρ : Operand -> Value} {o : Oper} {x y : Operand} {w : World} (g : Nat) (ho : o.op = .store 221 x y) (hx : ρ x = .pointer (some ⟨w.heap.size, 0, none⟩)) (hy : ρ y = .agg (fY g)) :
  (execOp ρ o).run prog (w.alloc (.cells #[.slice none 0 0, .slice none 0 0, .slice none 0 0, .slice none 0 0, .slice none 0 0] 221)) = .ok .skip (w.alloc (.cells (fY g) 221)) :=
 lx (by kernel_rfl) rfl rfl ho hx hy
theorem wS (w w1 : World) (hb : Below ((w.alloc (.cells (cel aJ).toArray 44)).alloc (.cells (cel aJ).toArray 44)).heap.size ((w.alloc (.cells (cel aJ).toArray 44)).alloc (.cells (cel aJ).toArray 44)) w1) :
  pw w.heap.size w (w1.alloc (.cells (fY (w.heap.size + 1)) 221)) w.heap.size (w.heap.size + 1) w1.heap.size aJ.toList := by
 have h1 := (Below.refl w.heap.size w).alloc aj (.cells (cel aJ).toArray 44);have h2 := h1.alloc h1.size (.cells (cel aJ).toArray 44);have hs := hb.size;simp only [World.size_alloc] at hs;have hr : cJ w1 w.heap.size 44 aJ.toList := cJ.below ((cJ.blk w aJ 44).past _) (by simp only [World.size_alloc]; omega) hb;have hg : cJ w1 (w.heap.size + 1) 44 aJ.toList := cJ.below (by have := cJ.blk (w.alloc (.cells (cel aJ).toArray 44)) aJ 44; rwa [World.size_alloc] at this) (by simp only [World.size_alloc]; omega) hb;have hbel : Below w.heap.size w w1 := h2.trans (hb.mono (by simp only [World.size_alloc]; omega));exact ⟨hr.past _, hg.past _, heap_alloc_new w1 _, hbel.alloc (by omega) _, aj, by omega, by omega, by omega⟩
theorem aeM (n m c N : Nat) (A : Option Addr) (b : List UInt8) (w : World) (T : Tab w) (hn : n < 18446744073709551616) (h0 : 0 < n) (hb : Rd w N A m b) (hN : N <= w.heap.size) (hm : m <= 44) :
  Calls prog 148 #[.int .u64 n, .slice A m c] w fun e w' => e = .returned (.tuple #[blk (jV n b), .int .i64 (ix n b : Nat)]) /\ Below w.heap.size w w' := by
 have hl := hb.1;have hbl : b.length <= 44 := by omega
 have hE : ix n b = 0 := rI (by omega) hbl;have hB : jV n b = ofL (jk n b) := af2 hE;rw [hE, hB];have HS := ae (vz (n := n) hbl);have HH := ae (xD (n := n) hbl);have HL := ae (gR (n := n) hbl);have HL64 := ae (ml n hbl);have HC := ae (za (s := 0) (by omega) (gK n b));have HT := ae T;have HR := ae hb;have HB := ae hl;have HN := ae hn;have HNN := ae hN;clear hE hB T hb hl hbl hn hN;have hz : ((n : Int) == 0) = false := by simp; omega
 go_enter func148, ntmps148;go_wp2_with (first | (refine az rfl (bU rfl) ?_) | fail);refine (lJ (w.heap.size + 1) _).mono ?_;rintro e w1 ⟨rfl, hb1⟩;have hW := wS w w1 hb1;have HBW := ae hb1.size;clear hb1;have HFP := HBW.out;obtain ⟨c0, c1, c2, c3, c4⟩ := hW.par.cells;obtain ⟨g, hg⟩ : ∃ g, w.heap.size + 1 = g := ⟨_, rfl⟩;rw [hg] at hW c0 c1 c2 c3 c4;rw [hg];have HGG := ae hg;clear HFP hg;have HW := ae hW;clear hW;go_wp2_with (first | (refine bN rfl (il g rfl rfl rfl) ?_) | fail);clear c0 c1 c2 c3 c4 HBW HGG;have HN8 := HN.out;refine (sf g 0 8 n 44 aJ.toList _ HW.out.row (by omega) (by omega) (by simp) (by simpa using HN8)).mono ?_;rintro e w2 ⟨rfl, hr2, hg2⟩;have HW2 := ae (HW.out.turn hr2 hg2 aj);clear hr2 hg2 HW;obtain ⟨c0, c1, c2, c3, c4⟩ := HW2.out.par.cells;generalize w1.heap.size = p at *;obtain ⟨r, hr⟩ : ∃ r, r = w.heap.size := ⟨_, rfl⟩;have HRR := ae hr;rw [<- hr] at HNN HW2 ⊢;clear hr;clear HN8;go_wp2_with fail;clear c0 c1 c2 c3 c4;have HN8 := HN.out;refine (sf g 56 8 n 44 _ _ HW2.out.row (by omega) (by omega) (by rw [nQ]; omega) (by simpa using HN8)).mono ?_;rintro e w3 ⟨rfl, hr3, hg3⟩;have HW3 := ae (HW2.out.turn hr3 hg3 (Nat.le_of_eq HRR));clear hr3 hg3 HW2 HN8;obtain ⟨c0, c1, c2, c3, c4⟩ := HW3.out.par.cells;have HR3 := ae (HR.out.below (HW3.out.bel.mono HNN));have HL2 := ae (od n);obtain ⟨l2, hl2⟩ : ∃ l2, splice (splice aJ.toList 0 (cw 8 8 n)) 56 (cw 8 8 n) = l2 := ⟨_, rfl⟩;have HNS : Hid (splice l2 8 b = mf n b) := ae (by rw [<- hl2]; rfl);rw [hl2] at HW3 HL2;clear hl2;go_wp2_with (with_reducible refine fa rfl _ _ rfl g 8 44 44 m c N A 44 l2 b rfl rfl HW3.out.row HR3.out hm ?c1 ?_)
 case c1 => rw [HL2.out]; omega
 intro w4 hr4 hg4;rw [HNS.out] at hr4;have HW4 := ae (HW3.out.turn hr4 hg4 (Nat.le_of_eq HRR));clear hr4 hg4 HW3 HR3 HL2 c0 c1 c2 c3 c4;go_wp2_with fail;refine wp_region_held (S := fun w' => Hid (pw r w w' r g p (mf n b) \/ pw r w w' r g p (jk n b))) (by kernel_rfl) ?_;change wpAnyH _ _ _ _ _ 7 _ _ w4.drew;have hS : Hid (pw r w w4.drew r g p (mf n b) \/ pw r w w4.drew r g p (jk n b)) := ae (.inl HW4.out.draw);refine akm 0 rfl (fun _ hw => ax rfl akt ahb) hS ?_;refine akm 1 rfl (fun _ hw => aD rfl akt (ldS (hw.out.elim (fun h => h.par.cells.2.2.1) (fun h => h.par.cells.2.2.1)))) hS ?_;refine akm 2 rfl (fun _ hw => ax rfl akt ahC) hS ?_;refine akm 3 rfl (fun _ hw => aD rfl akt (ldS (hw.out.elim (fun h => h.par.cells.2.2.2.2) (fun h => h.par.cells.2.2.2.2)))) hS ?_;refine eB 4 rfl (by kernel_rfl) rfl (aB call158 rfl (evc akt evn)) ?_;have T4 : Tab w4.drew := (HT.out.below (by rw [<- HRR.out]; exact HW4.out.draw.bel));have R4 := HW4.out.draw.row.rd (p := 0) (k := 52) (by rw [HL.out]; omega);rw [HH.out] at R4;refine (abA _ 52 52 _ (gK n b) _ T4 R4 (by unfold maxLen; omega)).mono ?_;rintro e w' ⟨rfl, rfl⟩;refine ⟨_, rfl, hS, ?_⟩;simp only [aa];clear T4 R4;refine akm 5 rfl (fun _ hw => m8 rfl akt HC) hS ?_;refine eB 6 rfl (by kernel_rfl) rfl (aB call157 rfl (evc akt (evc akt evn))) ?_;refine (sf g 52 4 (more 0 (gK n b)) 44 _ _ HW4.out.draw.row (by omega) (by omega) (by rw [HL.out]; omega) (by have := HC.out; simpa using this)).mono ?_;rintro e w5 ⟨rfl, hr5, hg5⟩;rw [HS.out] at hr5;have HW5 := ae (HW4.out.draw.turn hr5 hg5 (Nat.le_of_eq HRR));refine ⟨_, rfl, ae (.inr HW5), ?_⟩;simp only [aa];clear hr5 hg5 hS HW4;refine wpAnyH_done (by kernel_rfl) ?_ _;have HG := ae (HW5.out.row.range HL64);have HTH : Hid (w5.there r 0 64) := ae (aaf HW5.out.res.row (by simp));have HBB : Hid (Below w.heap.size w w5) := ae (by rw [<- HRR.out]; exact HW5.out.bel);go_wp2_with (first | (refine az rfl (bI rfl rfl HG.out) ?_) | (refine bN rfl (bO rfl rfl rfl HTH.out) ?_) | fail);refine bodyPost_ret (dC rfl _ _ _ rfl (World.rangeAt_setCells_same _ _ _ _ (by rw [aO]; exact HTH))) rfl ⟨rfl, below_setCells HBB (Nat.le_of_eq HRR.out.symm) _⟩
theorem afg (n m c N : Nat) (A : Option Addr) (b : List UInt8) (w : World) (T : Tab w) (hn : n < 18446744073709551616) (hb : Rd w N A m b) (hN : N <= w.heap.size) (hm : m <= maxLen) :
  Calls prog 148 #[.int .u64 n, .slice A m c] w fun e w' => e = .returned (.tuple #[blk (jV n b), .int .i64 (ix n b : Nat)]) /\ Below w.heap.size w w' := by
 by_cases h0 : n = 0
 ·subst h0;exact afv m c A b w hb.1
 ·by_cases h44 : m <= 44
  ·exact aeM n m c N A b w T hn (by omega) hb hN h44
  ·exact adF n m c A b w hb.1 (by omega) (by omega) hm
def kR (p q : Nat) : Value := .func (.func 163) #[] #[.pointer (some ⟨p, 0, none⟩), .pointer (some ⟨q, 0, none⟩)]
def kA (w : World) (p q : Nat) (S : Value) (k : Nat) : Prop := w.heap[p]? = some (.cells #[.int .i64 (k : Int)] 3 (0, 0)) /\ w.heap[q]? = some (.cells #[S] 208 (0, 0))
theorem pO (S : Value) (A : Option Addr) (n c : Nat) (hS : S = .slice A n c) (w : World) : Calls prog 152 #[S] w fun e w' => ∃ p q, e = .returned (kR p q) /\ kA w' p q S 0 /\ w.heap.size <= p /\ w.heap.size <= q /\ p ≠ q /\ p < w'.heap.size /\ q < w'.heap.size /\ Below w.heap.size w w' := by
 subst hS;have hmf : ∀ (fn : Fn) (first cap : Array Value) (w : World), (Instr.makeFunc fn first cap).run prog w = .ok (.func fn first cap) w := fun _ _ _ _ => rfl
 go_enter func152, ntmps152;go_wp2;go_ret;have e1 := World.size_alloc (w := w) (o := Obj.cells #[Value.slice A n c] 208);refine ⟨w.heap.size + 1, w.heap.size, rfl, ⟨?_, ?_⟩, by omega, by omega, by omega, ?_, ?_, ?_⟩
 ·have := heap_alloc_new (w.alloc (.cells #[.slice A n c] 208)) (.cells #[.int .i64 0] 3);rwa [e1] at this
 ·exact bu (heap_alloc_new w _) _
 ·simp only [World.size_alloc]; omega
 ·simp only [World.size_alloc]; omega
 ·exact ((Below.refl _ w).alloc aj _).alloc (by simp only [World.size_alloc]; omega) _
theorem ahc (g off n c : Nat) (w : World) {i j : Nat} (h1 : i < j) (h2 : j <= n) (h3 : n <= c) : (Instr.sliceAt 208 (.slice (some ⟨g, off, none⟩) n c) (some (.int .i64 (i : Int))) (some (.int .i64 (j : Int))) (some (.int .i64 (j : Int)))).run prog w = .ok (.slice (some ⟨g, off + i, none⟩) (j - i) (j - i)) w := by
 have e1 : (0 <= (j : Int) /\ (j : Int) <= (c : Int)) := by omega
 have e2 : (0 <= (j : Int) /\ (j : Int) <= (j : Int)) := by omega
 have e3 : (0 <= (i : Int) /\ (i : Int) <= (j : Int)) := by omega
 have e4 : j ≠ i := by omega
 have e5 : i <= j := by omega
 have e6 : j <= c := by omega
 simp [Instr.sliceAt, Instr.slice, Instr.sliceBounds, Instr.sliceBound, Instr.sureAddr, asIntOf, run_underlying underlying208, Tryz.sizeOf5, Addr.add_mid, e1, e2, e3, e4, e5, e6]
theorem ae9 (p q g off n c k s : Nat) (w : World) (h : kA w p q (.slice (some ⟨g, off, none⟩) n c) k) (hpq : p ≠ q) (hs : 0 < s) (hk : k + s <= n) (hc : n <= c) (hn : n <= 1000000) :
  Calls prog 163 #[.int .i64 (s : Int), .pointer (some ⟨p, 0, none⟩), .pointer (some ⟨q, 0, none⟩)] w fun e w' => e = .returned (.slice (some ⟨g, off + k, none⟩) s s) /\ kA w' p q (.slice (some ⟨g, off, none⟩) n c) (k + s) /\ w.grownBy w' (some p) := by
 obtain ⟨h1, h2⟩ := h;obtain ⟨a1, a2⟩ := cell1 h1;obtain ⟨b1, b2⟩ := cell1 h2;have s1 := set1 h1 (.int .i64 ((k : Int) + s));have s2 : (w.setCell ⟨p, 0, none⟩ (.int .i64 ((k : Int) + s))).heap[q]? = some (.cells #[.slice (some ⟨g, off, none⟩) n c] 208 (0, 0)) := (heap_setCell_other w ⟨p, 0, none⟩ q _ (fun e => hpq e.symm)).trans h2;have d1 := (cell1 s1).1;have d2 := (cell1 s2).1;have hg := rl w p 0 (.int .i64 ((k : Int) + s));have S1 := ae s1;have S2 := ae s2;have HG := ae hg;have HCUT : Hid (∀ w : World, (Instr.sliceAt 208 (.slice (some ⟨g, off, none⟩) n c) (some (.int .i64 (k : Int))) (some (.int .i64 ((k : Int) + (s : Int)))) (some (.int .i64 ((k : Int) + (s : Int))))).run prog w = .ok (.slice (some ⟨g, off + k, none⟩) s s) w) := ae fun w => by
  have := ahc g off n c w (i := k) (j := k + s) (by omega) hk hc;rw [show k + s - k = s from by omega] at this;exact this
 clear h1 h2 s1 s2 hg b1 b2;go_enter func163, ntmps163;go_wp2_with (first | (refine aw rfl (gT rfl rfl rfl rfl rfl (HCUT.out _)) ?_) | fail);go_ret;exact ⟨rfl, ⟨S1, S2⟩, HG⟩
structure rY (B : Nat) (w0 w : World) (x : Sup) (sb rb r nb p q g : Nat) (a : List UInt8) : Prop where
 sup : cZ w sb x
 ros : bJ w rb x.ros
 res : cJ w r 205 z44
 nxt : w.heap[nb]? = some (.cells #[kR p q] 214 (0, 0))
 cut : kA w p q (.slice (some ⟨g, 0, none⟩) 44 44) a.length
 row : cJ w g 205 (gI a)
 bel : Below B w0 w
 p0 : B <= p
 g0 : B <= g
 dif : sb ≠ p /\ sb ≠ g /\ rb ≠ p /\ rb ≠ g /\ r ≠ p /\ r ≠ g /\ nb ≠ p /\ nb ≠ g /\ p ≠ q /\ p ≠ g /\ q ≠ g
section
variable {B : Nat} {w0 w w' : World} {x : Sup} {sb rb r nb p q g : Nat} {a b : List UInt8}
theorem rY.keep (h : rY B w0 w x sb rb r nb p q g a) (hb : Below w.heap.size w w') (hB : B <= w0.heap.size) : rY B w0 w' x sb rb r nb p q g a :=
 ⟨aC h.sup hb, aC h.ros hb, aC h.res hb, aC h.nxt hb, ⟨aC h.cut.1 hb, aC h.cut.2 hb⟩, aC h.row hb, h.bel.trans (hb.mono (aq hB h.bel.size)), h.p0, h.g0, h.dif⟩
theorem rY.aiW (h : rY B w0 w x sb rb r nb p q g a) (hc : kA w' p q (.slice (some ⟨g, 0, none⟩) 44 44) b.length) (hr : cJ w' g 205 (gI b)) (hg : ∃ w1, w.grownBy w1 (some p) /\ w1.grownBy w' (some g)) (hB : B <= w0.heap.size) : rY B w0 w' x sb rb r nb p q g b := by
 obtain ⟨w1, k1, k2⟩ := hg;obtain ⟨d1, d2, d3, d4, d5, d6, d7, d8, d9, d10, d11⟩ := h.dif;have hb1 : Below B w0 w1 := h.bel.grown k1 (aq hB h.bel.size) (fun k hk => by injection hk with e; have := h.p0; omega);have hb2 : Below B w0 w' := hb1.grown k2 (aq hB hb1.size) (fun k hk => by injection hk with e; have := h.g0; omega);exact ⟨cu (cu h.sup k1 d1) k2 d2, cu (cu h.ros k1 d3) k2 d4, cu (cu h.res k1 d5) k2 d6, cu (cu h.nxt k1 d7) k2 d8, hc, hr, hb2, h.p0, h.g0, h.dif⟩
end
theorem Made.agl {w w' : World} {B : Nat} {v : Value} {l : List UInt8} {row : Option Nat} (h : Made w B v l) (hg : w.grownBy w' row) (hne : ∀ k, row = Option.some k -> k < B) : Made w' B v l := by
 refine ⟨h.1, ?_⟩;rcases h.2 with hn | ⟨g, cap, cur, rfl, hbg, hgg, rest⟩
 ·exact .inl hn
 ·refine .inr ⟨g, cap, cur, rfl, hbg, ?_, rest⟩;rw [hg.block g (Array.getElem?_eq_some_iff.1 hgg).1 (fun e => by have := hne g e.symm; omega)];exact hgg
theorem wu (B : Nat) (w0 w : World) (x : Sup) (sb rb r nb p q g : Nat) (a : List UInt8) (n k : Nat) (h : rY B w0 w x sb rb r nb p q g a) (hB : B <= w0.heap.size) (h1 : 1 <= k) (h2 : k <= 8) (hk : a.length + k <= 44) (hn : n < 256 ^ k) :
  Calls prog 153 #[.int .u64 n, .int .i64 k, .pointer (some ⟨nb, 0, none⟩)] w fun e w' => e = .returned (.tuple #[]) /\ rY B w0 w' x sb rb r nb p q g (a ++ cw 8 k n) := by
 have HH := ae h;have HL := ae (aT 8 k n);have HSP := ae (pH (a := a) (x := cw 8 k n) (by rw [aT]; exact hk));have HPL := ae (fD (b := a) (by omega));have HPP := ae (aU h.cut.1);clear h;go_enter func153, ntmps153;go_wp2_with fail;refine (abz n k w h1 h2 hn).mono ?_;rintro e w1 ⟨v, rfl, hv, hb⟩;have hvm := hv.made;obtain ⟨A, c, rfl, _, _, _⟩ := hvm.open_ HL;have HV := ae hvm;have H1 := ae (HH.out.keep hb hB);have c0 := (cell1 H1.out.nxt).1;unfold kR at c0;clear hv hvm hb HH;go_wp2_with fail;refine (ae9 p q g 0 44 44 a.length k w1 H1.out.cut H1.out.dif.2.2.2.2.2.2.2.2.1 h1 hk aj (by omega)).mono ?_;rintro e w2 ⟨rfl, hc2, hg2⟩;clear c0;have HC2 := ae hc2;have HG2 := ae hg2;have HROW2 : Hid (cJ w2 g 205 (gI a)) := ae (cu H1.out.row hg2 (fun e => H1.out.dif.2.2.2.2.2.2.2.2.2.1 e.symm));have HRD2 : Hid (Rd w2 w2.heap.size A k (cw 8 k n)) := ae (by
  have := (HV.out.agl hg2 (fun j hj => by injection hj with e; have := HPP.out; omega)).rd;exact this)
 clear hc2 hg2;go_wp2_with (first | (refine fa rfl _ _ rfl g a.length k k k c _ A 205 (gI a) (cw 8 k n) rfl rfl HROW2 HRD2 aj ?_ ?_) | fail)
 ·rw [HPL.out]; omega
 intro w3 hr3 hg3;rw [HSP.out] at hr3;have hdf := H1.out.dif;have hc3 : kA w3 p q (.slice (some ⟨g, 0, none⟩) 44 44) (a ++ cw 8 k n).length := by
  rw [List.length_append, HL.out];exact ⟨cu HC2.out.1 hg3 hdf.2.2.2.2.2.2.2.2.2.1, cu HC2.out.2 hg3 hdf.2.2.2.2.2.2.2.2.2.2⟩
 have H3 := ae (H1.out.aiW hc3 hr3 ⟨w2, HG2, hg3⟩ hB);clear hr3 hg3 hdf hc3;go_wp2_with fail
 go_end0
 exact ⟨rfl, H3⟩
section
variable {ρ : Operand -> Value} {o : Oper} {x z : Operand} {w : World} {g off : Nat}
theorem pd (ho : o.op = .slice 205 x none none none) (hx : ρ x = .pointer (some ⟨g, off, none⟩)) : (execOp ρ o).run prog w = .ok (.value (.slice (some ⟨g, off, none⟩) 44 44)) w := by
 have h : (Instr.sliceAt 205 (.pointer (some ⟨g, off, none⟩)) none none none).run prog w = .ok (.slice (some ⟨g, off, none⟩) 44 44) w := by
  simp [Instr.sliceAt, Instr.sliceBounds, Instr.sliceBound, Instr.sureAddr, asIntOf, run_underlying underlying205, Tryz.sizeOf5, Addr.add_mid]
 unfold execOp;simp only [ho, hx, Option.map_none, Sem.run_bind, h, Result.andThen_ok, Sem.run_pure]
end
theorem bJ.aj8 {w : World} {b : Nat} {x : Ros} (h : bJ w b x) : Rd w w.heap.size (some ⟨b, 3, none⟩) 16 x.st.toList := by
 have := h.rd (m := 16) aj;rwa [List.take_of_length_le (by simp)] at this
theorem xn {w w1 w2 : World} {x : Sup} {p q : Nat} (HS : cZ w1 w.heap.size x) (HB : Below w.heap.size w w1) (HRES : cJ w1 (w.heap.size + 1) 205 z44) (HROW : cJ w1 (w.heap.size + 1 + 1) 205 z44)
  (hb : Below w1.heap.size w1 w2) (hc : kA w2 p q (.slice (some ⟨w.heap.size + 1 + 1, 0, none⟩) 44 44) 0) (hd : w1.heap.size <= p /\ w1.heap.size <= q /\ p ≠ q /\ p < w2.heap.size /\ q < w2.heap.size) :
  rY w.heap.size w ((w2.alloc (.cells #[kR p q] 214)).alloc (.cells (aZ x.ros).toArray 58)) x w.heap.size (w2.heap.size + 1) (w.heap.size + 1) w2.heap.size p q (w.heap.size + 1 + 1) [] := by
 have e1 := World.size_alloc (w := w2) (o := Obj.cells #[kR p q] 214);have h2 := aU HROW;have h3 := hb.size;have hro := bJ.new (w2.alloc (.cells #[kR p q] 214)) x.ros;rw [e1] at hro;have hb2 : Below w.heap.size w w2 := HB.trans (hb.mono HB.size);refine ⟨((HS.below (aU HS) hb).past _).past _, hro, bu (bu (aC HRES hb) _) _, bu (heap_alloc_new w2 _) _, ⟨bu (bu hc.1 _) _, bu (bu hc.2 _) _⟩, bu (bu (aC HROW hb) _) _, (hb2.alloc (by omega) _).alloc (by rw [e1]; omega) _, ?_, ?_, ?_⟩
 ·omega
 ·omega
 ·refine ⟨?_, ?_, ?_, ?_, ?_, ?_, ?_, ?_, ?_, ?_, ?_⟩ <;> omega
theorem zB {a : List UInt8} (h : a.length < 44) : gI (a ++ cw 8 1 0) = gI a := by
 unfold gI;have e : cw 8 1 0 = [0] := by decide
 rw [e, List.append_assoc, List.length_append, List.length_singleton]
 congr 1
 rw [show 44 - a.length = (44 - (a.length + 1)) + 1 from by omega, List.replicate_succ]
 rfl
theorem adt {x : Sup} (h : x.ros.gone = true) : gI (cw 8 8 x.id ++ cw 8 1 x.ros.m.toNat ++ cw 8 2 x.ros.s.toNat ++ cw 8 2 x.ros.r.toNat ++ cw 8 1 x.self.toNat ++ cw 8 4 (val 2 x.ros.st.toList) ++ cw 8 2 x.ros.cur.toNat ++ cw 8 1 1) = dU x := by
 unfold dU kr abW;rw [h];simp only [List.append_assoc, if_true]
theorem afL {x : Sup} (h : x.ros.gone = false) : gI (cw 8 8 x.id ++ cw 8 1 x.ros.m.toNat ++ cw 8 2 x.ros.s.toNat ++ cw 8 2 x.ros.r.toNat ++ cw 8 1 x.self.toNat ++ cw 8 4 (val 2 x.ros.st.toList) ++ cw 8 2 x.ros.cur.toNat) = dU x := by
 rw [<- zB (by simp [aT])];unfold dU kr abW;rw [h];simp only [List.append_assoc, Bool.false_eq_true, if_false]
theorem adV (x : Sup) (w : World) (hid : x.id < 18446744073709551616) (hx : gQ x = true) : Calls prog 147 #[sup x] w fun e w' => e = .returned (arr (dU x)) /\ Below w.heap.size w w' := by
 obtain ⟨_, hf, q1, q2⟩ := aef hx;obtain ⟨hgeo, hsta, _, q3, q4, _⟩ := ex hf;obtain ⟨g1, g2, g3, g4, g5, g6⟩ := ew hgeo;have HNAR : Hid (narrow 2 x.ros.st.toList = true) := ae (by
  unfold narrow;rw [List.all_eq_true];intro u hu
  simpa using uK hsta u hu)
 have HSMALL := ae (aeP hsta);obtain ⟨M, hM⟩ : ∃ M : Nat, x.ros.m.toNat = M := ⟨_, rfl⟩;obtain ⟨T, hT⟩ : ∃ T : Nat, x.ros.s.toNat = T := ⟨_, rfl⟩;obtain ⟨R, hR⟩ : ∃ R : Nat, x.ros.r.toNat = R := ⟨_, rfl⟩;obtain ⟨E, hE⟩ : ∃ E : Nat, x.self.toNat = E := ⟨_, rfl⟩;obtain ⟨C, hC⟩ : ∃ C : Nat, x.ros.cur.toNat = C := ⟨_, rfl⟩;have HCR : Hid (∀ w' rb, bJ w' rb x.ros -> w'.cell? ⟨rb, 0, none⟩ = some (.int .i64 (M : Nat)) /\ w'.cell? ⟨rb, 1, none⟩ = some (.int .i64 (T : Nat)) /\ w'.cell? ⟨rb, 2, none⟩ = some (.int .i64 (R : Nat)) /\ w'.cell? ⟨rb, 19, none⟩ = some (.int .i64 (C : Nat)) /\ w'.cell? ⟨rb, 20, none⟩ = some (.bool x.ros.gone)) := ae fun w' rb h => by
  have := h.cells;rw [show x.ros.m = (M : Int) from by omega, show x.ros.s = (T : Int) from by omega, show x.ros.r = (R : Int) from by omega, show x.ros.cur = (C : Int) from by omega] at this;exact this
 have HCS : Hid (∀ w' sb, cZ w' sb x -> w'.cell? ⟨sb, 0, none⟩ = some (.int .u64 x.id) /\ w'.cell? ⟨sb, 1, none⟩ = some (.int .i64 (E : Nat))) := ae fun w' sb h => by
  have := h.cells;rw [show x.self = (E : Int) from by omega] at this;exact ⟨this.1, this.2.1⟩
 have hM16 : M <= 16 := by omega
 have hT64 : T <= 64 := by omega
 have hR256 : R <= 256 := by omega
 have hE16 : E <= 16 := by omega
 have hC64 : C <= 64 := by omega
 have HYES := fun h => ae (adt (x := x) h)
 have HNO := fun h => ae (afL (x := x) h)
 rw [hM, hT, hR, hE, hC] at HYES HNO;clear hf q1 q2 hgeo hsta q3 q4 g1 g2 g3 g4 g5 g6 hM hT hR hE hC hx;have hmf : ∀ (fn : Fn) (first cap : Array Value) (w : World), (Instr.makeFunc fn first cap).run prog w = .ok (.func fn first cap) w := fun _ _ _ _ => rfl
 obtain ⟨h1, h2, h3⟩ := pT w x;have HS := ae ((h1.past (.cells (vals z44).toArray 205)).past (.cells (vals z44).toArray 205));have hb2 := h2.alloc h2.size (.cells (vals z44).toArray 205);have HB := ae (hb2.alloc hb2.size (.cells (vals z44).toArray 205));have hr := cJ.new (w.alloc (.cells (bD x).toArray 198)) z44 205;rw [World.size_alloc] at hr;have HRES := ae (hr.past (.cells (vals z44).toArray 205));have hg := cJ.new ((w.alloc (.cells (bD x).toArray 198)).alloc (.cells (vals z44).toArray 205)) z44 205;rw [World.size_alloc, World.size_alloc] at hg;have HROW := ae hg;clear h1 h2 h3 hb2 hr hg;go_enter func147, ntmps147;go_wp2_with (first | (refine aw rfl (jp rfl rfl) ?_) | (refine aw rfl (lF rfl) ?_) | (refine aw rfl (pd rfl rfl) ?_) | fail)
 try simp only [World.size_alloc]
 generalize ((w.alloc (.cells (bD x).toArray 198)).alloc (.cells (vals z44).toArray 205)).alloc (.cells (vals z44).toArray 205) = w1 at *;refine (pO (.slice (some ⟨w.heap.size + 1 + 1, 0, none⟩) 44 44) _ 44 44 rfl w1).mono ?_;rintro e w2 ⟨p, q, rfl, hc, hp0, hq0, hpq, hp1, hq1, hb⟩;have hsz : w.heap.size + 1 + 1 < w2.heap.size := by have := aU HROW; have := hb.size; omega
 have HS2 := ae ((HS.out.below (aU HS) hb).past (.cells #[kR p q] 214));have HW0 := ae (xn HS HB HRES HROW hb hc ⟨hp0, hq0, hpq, hp1, hq1⟩);have HR0 : Hid (w.heap.size <= w.heap.size + 1) := ae (Nat.le_succ _);clear hb hc hp0 hq0 hpq hp1 hq1 HS HB HRES HROW;unfold kR at HS2 HW0 ⊢;go_upto_region 5 with (first | (refine aw rfl (bi (c := x.ros) rfl rfl ?_) ?_; (with_reducible exact HS2.out.agP)) | (refine aw rfl (cT rfl) ?_) | (refine aG rfl (lA rfl rfl rfl) ?_) | fail)
 try simp only [World.size_alloc]
 generalize ((w2.alloc (.cells #[Value.func (.func 163) #[] #[.pointer (some ⟨p, 0, none⟩), .pointer (some ⟨q, 0, none⟩)]] 214)).alloc (.cells (aZ x.ros).toArray 58)) = w3 at *
 try simp only [World.size_alloc]
 generalize w2.heap.size = nb at *;generalize w.heap.size + 1 + 1 = g at *;generalize w.heap.size + 1 = r at *;obtain ⟨B, hBdef⟩ : ∃ B, w.heap.size = B := ⟨_, rfl⟩;have HBD := ae hBdef;rw [hBdef] at HW0 HR0 ⊢;clear hBdef HS2 hsz;obtain ⟨c0, c1⟩ := HCS.out _ _ HW0.out.sup;obtain ⟨d0, d1, d2, d3, d4⟩ := HCR.out _ _ HW0.out.ros;go_wp2_with fail;refine (wu B w w3 x B (nb + 1) r nb p q g _ x.id 8 HW0 (Nat.le_of_eq HBD.out.symm) (by omega) (by omega) (by simp [aT]) (by simpa using hid)).mono ?_;rintro e w4 ⟨rfl, hW⟩;have HW1 := ae hW;clear hW c0 c1 d0 d1 d2 d3 d4 HW0;obtain ⟨c0, c1⟩ := HCS.out _ _ HW1.out.sup;obtain ⟨d0, d1, d2, d3, d4⟩ := HCR.out _ _ HW1.out.ros;go_wp2_with fail;refine (wu B w w4 x B (nb + 1) r nb p q g _ M 1 HW1 (Nat.le_of_eq HBD.out.symm) (by omega) (by omega) (by simp [aT]) (by omega)).mono ?_;rintro e w5 ⟨rfl, hW⟩;have HW2 := ae hW;clear hW c0 c1 d0 d1 d2 d3 d4 HW1;obtain ⟨c0, c1⟩ := HCS.out _ _ HW2.out.sup;obtain ⟨d0, d1, d2, d3, d4⟩ := HCR.out _ _ HW2.out.ros;go_wp2_with fail;refine (wu B w w5 x B (nb + 1) r nb p q g _ T 2 HW2 (Nat.le_of_eq HBD.out.symm) (by omega) (by omega) (by simp [aT]) (by omega)).mono ?_;rintro e w6 ⟨rfl, hW⟩;have HW3 := ae hW;clear hW c0 c1 d0 d1 d2 d3 d4 HW2;obtain ⟨c0, c1⟩ := HCS.out _ _ HW3.out.sup;obtain ⟨d0, d1, d2, d3, d4⟩ := HCR.out _ _ HW3.out.ros;go_wp2_with fail;refine (wu B w w6 x B (nb + 1) r nb p q g _ R 2 HW3 (Nat.le_of_eq HBD.out.symm) (by omega) (by omega) (by simp [aT]) (by omega)).mono ?_;rintro e w7 ⟨rfl, hW⟩;have HW4 := ae hW;clear hW c0 c1 d0 d1 d2 d3 d4 HW3;obtain ⟨c0, c1⟩ := HCS.out _ _ HW4.out.sup;obtain ⟨d0, d1, d2, d3, d4⟩ := HCR.out _ _ HW4.out.ros;go_wp2_with fail;refine (wu B w w7 x B (nb + 1) r nb p q g _ E 1 HW4 (Nat.le_of_eq HBD.out.symm) (by omega) (by omega) (by simp [aT]) (by omega)).mono ?_;rintro e w8 ⟨rfl, hW⟩;have HW5 := ae hW;clear hW c0 c1 d0 d1 d2 d3 d4 HW4;have HRD := ae HW5.out.ros.aj8;go_wp2_with (first | (refine aw rfl (lh rfl rfl) ?_) | fail);refine (ae5 _ 16 16 _ 2 _ x.ros.st.toList w8 (ae rfl) HRD aj (by omega) (by omega) (by omega) HNAR).mono ?_;rintro e w9 ⟨v, rfl, hv, hb⟩;rw [show bytesOf 16 2 = 4 from rfl] at hv;have hvm := hv.made;obtain ⟨A, c, rfl, _, _, _⟩ := hvm.open_ (aT 8 4 _);have HV := ae hvm;have HW6 := ae (HW5.out.keep hb (Nat.le_of_eq HBD.out.symm));have HPP := ae (aU HW5.out.cut.1);have n0 := (cell1 HW6.out.nxt).1;unfold kR at n0;clear hv hvm hb HRD HW5;go_wp2_with fail;refine (ae9 p q g 0 44 44 _ 4 w9 HW6.out.cut HW6.out.dif.2.2.2.2.2.2.2.2.1 (by omega) (by simp [aT]) aj (by omega)).mono ?_;rintro e w10 ⟨rfl, hc2, hg2⟩;clear n0;have HC2 := ae hc2;have HG2 := ae hg2;have HROW2 := ae (cu HW6.out.row hg2 (fun e => HW6.out.dif.2.2.2.2.2.2.2.2.2.1 e.symm));have HRD2 : Hid (Rd w10 w10.heap.size A 4 (cw 8 4 (val 2 x.ros.st.toList))) := ae (by
  have := (HV.out.agl hg2 (fun j hj => by injection hj with e; have := HPP.out; omega)).rd;exact this)
 clear hc2 hg2;obtain ⟨a, ha⟩ : ∃ a, [] ++ cw 8 8 x.id ++ cw 8 1 M ++ cw 8 2 T ++ cw 8 2 R ++ cw 8 1 E = a := ⟨_, rfl⟩;have hal : a.length = 14 := by rw [<- ha]; simp [aT]
 rw [ha] at HC2 HROW2 HW6;have HA := ae ha;have HAL := ae hal;clear ha;rw [hal] at HC2;go_wp2_with (first | (refine fa rfl _ _ rfl g 14 4 4 4 c _ A 205 (gI a) (cw 8 4 (val 2 x.ros.st.toList)) rfl rfl HROW2 HRD2 aj ?_ ?_) | fail)
 ·rw [fD (by omega)]; omega
 intro w11 hr3 hg3;rw [<- hal, pH (by rw [hal, aT]; omega)] at hr3;have hdf := HW6.out.dif;have hc3 : kA w11 p q (.slice (some ⟨g, 0, none⟩) 44 44) (a ++ cw 8 4 (val 2 x.ros.st.toList)).length := by
  rw [List.length_append, aT, hal];exact ⟨cu HC2.out.1 hg3 hdf.2.2.2.2.2.2.2.2.2.1, cu HC2.out.2 hg3 hdf.2.2.2.2.2.2.2.2.2.2⟩
 have HW7 := ae (HW6.out.aiW hc3 hr3 ⟨w10, HG2, hg3⟩ (Nat.le_of_eq HBD.out.symm));clear hr3 hg3 hdf hc3 HW6 HC2 HG2 HROW2 HRD2 HV HPP;obtain ⟨d0, d1, d2, d3, d4⟩ := HCR.out _ _ HW7.out.ros;go_wp2_with fail;refine (wu B w w11 x B (nb + 1) r nb p q g _ C 2 HW7 (Nat.le_of_eq HBD.out.symm) (by omega) (by omega) (by rw [List.length_append, aT]; omega) (by omega)).mono ?_;rintro e w12 ⟨rfl, hW⟩;have HW8 := ae hW;clear hW d0 d1 d2 d3 d4 HW7;have d4 := (HCR.out _ _ HW8.out.ros).2.2.2.2;cases hgn : x.ros.gone
 ·have HF := HNO hgn;rw [hgn] at d4;have HL := ae HW8.out.row;rw [<- HA.out] at HL;simp only [List.nil_append] at HL;rw [HF.out] at HL;have HLR := ae (aQ HL);have HTH := ae (dY (o := 0) (n := 44) HW8.out.res (by rw [bj]; exact aj));have HBB := ae HW8.out.bel;have HFL := ae (dp x);clear HYES HNO HF hgn;go_wp2_with (first | (refine aw rfl (iO HFL.out rfl rfl ?_) ?_; (with_reducible exact HLR.out)) | (refine aG rfl (f6 (cs := vals (dU x)) ?k1 (jj _) rfl rfl rfl ?k2) ?_; (case k1 => rw [bj, HFL.out]; exact mX); (case k2 => rw [bj, HFL.out]; exact HTH.out)) | fail);refine bodyPost_ret (nV (t := 205) (cs := vals (dU x)) rfl _ _ r rfl ?h1 underlying205 rfl ?h2) rfl ⟨rfl, ?h3⟩
  case h1 => exact World.rangeAt_setCells_same _ _ _ _ (by rw [bj, HFL.out]; exact HTH)
  case h2 => rw [bj, HFL.out]; exact mX
  case h3 => rw [HBD.out]; exact below_setCells HBB HR0 _
 ·have HF := HYES hgn;rw [hgn] at d4;go_wp2_with fail;refine (wu B w w12 x B (nb + 1) r nb p q g _ 1 1 HW8 (Nat.le_of_eq HBD.out.symm) (by omega) (by omega) (by rw [List.length_append, List.length_append, aT, aT]; have := HAL.out; omega) (by omega)).mono ?_;rintro e w13 ⟨rfl, hW⟩;have HW9 := ae hW;clear hW d4 HW8;have HL := ae HW9.out.row;rw [<- HA.out] at HL;simp only [List.nil_append] at HL;rw [HF.out] at HL;have HLR := ae (aQ HL);have HTH := ae (dY (o := 0) (n := 44) HW9.out.res (by rw [bj]; exact aj));have HBB := ae HW9.out.bel;have HFL := ae (dp x);clear HYES HNO HF hgn;go_wp2_with (first | (refine aw rfl (iO HFL.out rfl rfl ?_) ?_; (with_reducible exact HLR.out)) | (refine aG rfl (f6 (cs := vals (dU x)) ?k1 (jj _) rfl rfl rfl ?k2) ?_; (case k1 => rw [bj, HFL.out]; exact mX); (case k2 => rw [bj, HFL.out]; exact HTH.out)) | fail);refine bodyPost_ret (nV (t := 205) (cs := vals (dU x)) rfl _ _ r rfl ?h1 underlying205 rfl ?h2) rfl ⟨rfl, ?h3⟩
  case h1 => exact World.rangeAt_setCells_same _ _ _ _ (by rw [bj, HFL.out]; exact HTH)
  case h2 => rw [bj, HFL.out]; exact mX
  case h3 => rw [HBD.out]; exact below_setCells HBB HR0 _
theorem uf (y : Ros) (j : Nat) (v : Value) : (vals y.st.toList ++ [Value.int .i64 y.cur, Value.bool y.gone]).set (16 + j) v = vals y.st.toList ++ [Value.int .i64 y.cur, Value.bool y.gone].set j v := by
 rw [List.set_append_right _ _ (by simp [bj])]
 congr 2
 simp [bj]
theorem yk (id : Nat) (self m s r : Int) (st : Vector UInt8 16) (cur : Int) (gone : Bool) : bD ⟨id, self, ⟨m, s, r, st, cur, gone⟩⟩ = Value.int .u64 id :: Value.int .i64 self :: Value.int .i64 m :: Value.int .i64 s :: Value.int .i64 r :: (vals st.toList ++ [Value.int .i64 cur, Value.bool gone]) := rfl
section
variable (y : Sup)
theorem aeF (n : Nat) : (bD y).set 0 (.int .u64 n) = bD { y with id := n } := rfl
theorem aaJ (n : Int) : (bD y).set 1 (.int .i64 n) = bD { y with self := n } := rfl
theorem agT (n : Int) : (bD y).set 2 (.int .i64 n) = bD { y with ros := { y.ros with m := n } } := rfl
theorem ahV (n : Int) : (bD y).set 3 (.int .i64 n) = bD { y with ros := { y.ros with s := n } } := rfl
theorem ahI (n : Int) : (bD y).set 4 (.int .i64 n) = bD { y with ros := { y.ros with r := n } } := rfl
theorem abH (n : Int) : (bD y).set 21 (.int .i64 n) = bD { y with ros := { y.ros with cur := n } } := by
 show Value.int .u64 y.id :: Value.int .i64 y.self :: Value.int .i64 y.ros.m :: Value.int .i64 y.ros.s :: Value.int .i64 y.ros.r :: (vals y.ros.st.toList ++ [Value.int .i64 y.ros.cur, Value.bool y.ros.gone]).set (16 + 0) (.int .i64 n) = _
 rw [uf]
 rfl
theorem aaW (b : Bool) : (bD y).set 22 (.bool b) = bD { y with ros := { y.ros with gone := b } } := by
 show Value.int .u64 y.id :: Value.int .i64 y.self :: Value.int .i64 y.ros.m :: Value.int .i64 y.ros.s :: Value.int .i64 y.ros.r :: (vals y.ros.st.toList ++ [Value.int .i64 y.ros.cur, Value.bool y.ros.gone]).set (16 + 1) (.bool b) = _
 rw [uf]
 rfl
theorem ad9 {l : List UInt8} (h : l.length = 16) : splice (bD y) 5 (vals l) = bD { y with ros := { y.ros with st := sN l } } := by
 obtain ⟨id, self, m, s, r, st, cur, gone⟩ := y
 show splice (bD ⟨id, self, ⟨m, s, r, st, cur, gone⟩⟩) 5 (vals l) = bD ⟨id, self, ⟨m, s, r, sN l, cur, gone⟩⟩
 have h2 : (vals st.toList).length = 16 := by simp [bj]
 rw [yk, yk, vq h];generalize vals st.toList = z at *;unfold splice;rw [bj, h, show 5 + 16 = 16 + 1 + 1 + 1 + 1 + 1 from rfl];simp only [List.drop_succ_cons, List.take_succ_cons, List.take_zero];rw [List.drop_append_of_le_length (by omega), List.drop_of_length_le (by omega)]
 rfl
end
theorem cZ.set {w : World} {s j : Nat} {y y' : Sup} {v : Value} (h : cZ w s y) (e : (bD y).set j v = bD y') : cZ (w.setCell ⟨s, j, none⟩ v) s y' := by
 have := heap_setCell_same w s j (bD y).toArray 198 v h;rw [List.setIfInBounds_toArray, e] at this;exact this
theorem cZ.free {w : World} {s : Nat} {y : Sup} (h : cZ w s y) (j : Nat) : w.frozen? ⟨s, j, none⟩ = false := frozen_of_row w s j _ _ h
theorem rO {w : World} {ops : Array Oper} {rest : List Oper} {o : Oper} {a : Act} {Q : Exit -> Act -> World -> Prop} (hgd : o.guard = none) (d s : Operand)
  (ho : o.op = .call { callee := .builtin .copy, args := #[d, s], argTypes := #[208, 208] }) (g off n c c' N : Nat) (A : Option Addr) (t : TypeId) (cs : List Value) (x : List UInt8)
  (hd : a.eval d = .slice (some ⟨g, off, none⟩) n c) (hs : a.eval s = .slice A n c') (hS : w.heap[g]? = some (.cells cs.toArray t (0, 0))) (hr : Rd w N A n x) (hn : 0 < n) (hfit : off + n <= cs.length)
  (h : ∀ w', w'.heap[g]? = some (.cells (splice cs off (vals x)).toArray t (0, 0)) -> w.grownBy w' (some g) -> wpList prog ops Q rest (a.put o.dst (goInt n)) w') : wpList prog ops Q (o :: rest) a w := by
 have hx := hr.1;obtain ⟨ad, rfl⟩ : ∃ ad, A = some ad := by
  obtain ⟨b, off, e, _⟩ := hr.2 0 hn;exact ⟨_, e⟩
 have hcl : (vals x).length = n := by rw [bj, hx]
 refine wpList_copy_own hgd d s _ _ ho 5 underlying208 (by kernel_rfl) g off n c ad n c' hd hs _ t hS (vals x) (by rw [hcl]; exact (Nat.min_self n).symm) (fun j v hj => ?_) (by simp [hcl]; omega) (jj x) ?_
 ·have hlt : j < n := by have := (List.getElem?_eq_some_iff.1 hj).1; omega
  obtain ⟨b, o2, e, _, hc⟩ := hr.2 j hlt;injection e with e;subst e;rw [Addr.add_mid, hc, <- hj, iP (by omega)]
 ·have hrow := setRow_heap w g cs.toArray (cs.toArray.toList.take off ++ (vals x ++ cs.toArray.toList.drop (off + (vals x).length))).toArray t (0, 0) hS;have e : cs.toArray.toList.take off ++ (vals x ++ cs.toArray.toList.drop (off + (vals x).length)) = splice cs off (vals x) := rfl;rw [hcl];rw [hcl] at hrow e;refine h _ ?_ ⟨rfl, rfl, rfl, by simp [World.setRow], fun k hk hne => setRow_other w g k _ (fun e => hne (by rw [e]))⟩;rw [e] at hrow ⊢;exact hrow
structure ib (B : Nat) (w0 w : World) (g : Nat) (l : List UInt8) (s r nb p q k : Nat) (y : Sup) : Prop where
 row : cJ w g 5 l
 sup : cZ w s y
 res : cZ w r cG
 nxt : w.heap[nb]? = some (.cells #[kR p q] 214 (0, 0))
 cut : kA w p q (.slice (some ⟨g, 0, none⟩) 44 44) k
 bel : Below B w0 w
 p0 : B <= p
 s0 : B <= s
 dif : g ≠ p /\ s ≠ p /\ r ≠ p /\ nb ≠ p /\ p ≠ q /\ g ≠ s /\ r ≠ s /\ nb ≠ s /\ p ≠ s /\ q ≠ s
section
variable {B : Nat} {w0 w w' : World} {g s r nb p q k k' : Nat} {l : List UInt8} {y y' : Sup}
theorem ib.keep (h : ib B w0 w g l s r nb p q k y) (hb : Below w.heap.size w w') (hB : B <= w0.heap.size) : ib B w0 w' g l s r nb p q k y :=
 ⟨aC h.row hb, aC h.sup hb, aC h.res hb, aC h.nxt hb, ⟨aC h.cut.1 hb, aC h.cut.2 hb⟩, h.bel.trans (hb.mono (aq hB h.bel.size)), h.p0, h.s0, h.dif⟩
theorem ib.step (h : ib B w0 w g l s r nb p q k y) (hc : kA w' p q (.slice (some ⟨g, 0, none⟩) 44 44) k') (hg : w.grownBy w' (some p)) (hB : B <= w0.heap.size) : ib B w0 w' g l s r nb p q k' y := by
 obtain ⟨d1, d2, d3, d4, d5, d6, d7, d8, d9, d10⟩ := h.dif;exact ⟨cu h.row hg d1, cu h.sup hg d2, cu h.res hg d3, cu h.nxt hg d4, hc, h.bel.grown hg (aq hB h.bel.size) (fun k hk => by injection hk with e; have := h.p0; omega), h.p0, h.s0, h.dif⟩
theorem ib.put (h : ib B w0 w g l s r nb p q k y) (hs : cZ w' s y') (hg : w.grownBy w' (some s)) (hB : B <= w0.heap.size) : ib B w0 w' g l s r nb p q k y' := by
 obtain ⟨d1, d2, d3, d4, d5, d6, d7, d8, d9, d10⟩ := h.dif;exact ⟨cu h.row hg d6, hs, cu h.res hg d7, cu h.nxt hg d8, ⟨cu h.cut.1 hg d9, cu h.cut.2 hg d10⟩, h.bel.grown hg (aq hB h.bel.size) (fun k hk => by injection hk with e; have := h.s0; omega), h.p0, h.s0, h.dif⟩
theorem ib.set (h : ib B w0 w g l s r nb p q k y) (j : Nat) (v : Value) (e : (bD y).set j v = bD y') (hB : B <= w0.heap.size) : ib B w0 (w.setCell ⟨s, j, none⟩ v) g l s r nb p q k y' :=
 h.put (h.sup.set e) (rl w s j v) hB
end
theorem o0 (B : Nat) (w0 w : World) (g : Nat) (l : List UInt8) (s r nb p q k n : Nat) (y : Sup) (h : ib B w0 w g l s r nb p q k y) (hB : B <= w0.heap.size) (hl : l.length = 44) (h1 : 1 <= n) (h2 : n <= 8) (hk : k + n <= 44) :
  Calls prog 176 #[.int .i64 n, .pointer (some ⟨nb, 0, none⟩)] w fun e w' => e = .returned (.int .u64 (val 8 (piece l k n) : Nat)) /\ ib B w0 w' g l s r nb p q (k + n) y := by
 have HH := ae h;have HL := ae hl;have HP := ae (mn (b := piece l k n) (n := n) (dS (by omega)));have c0 := (cell1 h.nxt).1;unfold kR at c0;clear h hl;go_enter func176, ntmps176;go_wp2_with fail;refine (ae9 p q g 0 44 44 k n w HH.out.cut HH.out.dif.2.2.2.2.1 h1 hk aj (by omega)).mono ?_;rintro e w1 ⟨rfl, hc, hg⟩;have H1 := ae (HH.out.step hc hg hB);clear hc hg c0 HH;have HRD := ae (H1.out.row.rd (p := k) (k := n) (by rw [HL.out]; omega));go_wp2_with fail;refine (ab7 _ n n _ (piece l k n) 0 n w1 HRD (by unfold maxLen; omega) h1 h2 (by omega)).mono ?_;rintro e w2 ⟨rfl, rfl⟩;rw [HP.out];obtain ⟨v, hv⟩ : ∃ v, val 8 (piece l k n) = v := ⟨_, rfl⟩;rw [hv];have HV := ae hv;clear hv;go_wp2_with fail;go_ret;exact ⟨by rw [HV.out]; rfl, H1⟩
def Bod (w : World) (B : Nat) (v : Value) (l : List UInt8) : Prop := (v = .slice none 0 0 /\ l = []) \/ ∃ g, v = .slice (some ⟨g, 0, none⟩) l.length l.length /\ B <= g /\ cJ w g 5 l /\ l.length <= maxLen
structure aeg (B : Nat) (w w' : World) (g p : Nat) (l : List UInt8) : Prop where
 row : cJ w' g 44 l
 par : PartsAt w' p g
 bel : Below B w w'
 tab : Tab w'
theorem aeg.below {B : Nat} {w w1 w2 : World} {g p : Nat} {l : List UInt8} (h : aeg B w w1 g p l) (hb : Below w1.heap.size w1 w2) (hB : B <= w.heap.size) : aeg B w w2 g p l :=
 ⟨h.row.below h.row.lt hb, h.par.below (aU h.par) hb, h.bel.trans (hb.mono (aq hB h.bel.size)), h.tab.below hb⟩
theorem jx (w w1 : World) (b : Blk) (hbA : Below w.heap.size w (w.alloc (.cells (cel b).toArray 44))) (hT : Tab (w.alloc (.cells (cel b).toArray 44))) (hb : Below (w.alloc (.cells (cel b).toArray 44)).heap.size (w.alloc (.cells (cel b).toArray 44)) w1) :
  aeg w.heap.size w (w1.alloc (.cells (fY w.heap.size) 221)) w.heap.size w1.heap.size b.toList := by
 have hs := hb.size;simp only [World.size_alloc] at hs;have hr : cJ w1 w.heap.size 44 b.toList := (cJ.blk w b 44).below (by simp only [World.size_alloc]; omega) hb;have hbel : Below w.heap.size w w1 := hbA.trans (hb.mono (by simp only [World.size_alloc]; omega));exact ⟨hr.past _, heap_alloc_new w1 _, hbel.alloc (by omega) _, (hT.below hb).below (ak.alloc aj _)⟩
theorem ow {W w' : World} {g : Nat} {t : TypeId} {l : List UInt8} (h : cJ W g t l) (hb : Below W.heap.size W w') (off k : Nat) (hk : off + k <= l.length) (h1 : 1 <= k) (h8 : k <= 8) :
  Calls prog 175 #[.slice (some ⟨g, off, none⟩) k k] w' fun e w'' => e = .returned (.int .u64 (val 8 (piece l off k) : Nat)) /\ Below w'.heap.size w' w'' :=
 (gu _ k k _ _ w' ((h.below h.lt hb).rd hk) h1 h8).mono fun e w'' ⟨he, hw⟩ => ⟨he, by subst hw; exact ak⟩
theorem ui {W w' : World} {g : Nat} {t : TypeId} {l : List UInt8} (h : cJ W g t l) (T : Tab W) (hb : Below W.heap.size W w') (off k : Nat) (hk : off + k <= l.length) (hm : k <= maxLen) :
  Calls prog 158 #[.slice (some ⟨g, off, none⟩) k k] w' fun e w'' => e = .returned (.int .u32 (more 0 (piece l off k) : Nat)) /\ Below w'.heap.size w' w'' :=
 (abA _ k k _ _ w' (T.below hb) ((h.below h.lt hb).rd hk) hm).mono fun e w'' ⟨he, hw⟩ => ⟨he, by subst hw; exact ak⟩
theorem uM {ρ : Operand -> Value} {o : Oper} {x y : Operand} {w : World} {t r : TypeId} {a b : Nat} (c : Bool) (ho : o.op = .binOp .neq t x y r) (hx : ρ x = .int .u64 (a : Int)) (hy : ρ y = .int .u64 (b : Int)) (h : ((a : Int) != (b : Int)) = c) : (execOp ρ o).run prog w = .ok (.value (.bool c)) w := aK c ho hx hy h
theorem xq (l : List UInt8) (n : Nat) (h : l.length = n) : splice (List.replicate n 0) 0 l = l := by
 subst h;simp [splice]
def yF : List UInt8 := List.replicate 44 0
theorem zz {l : List UInt8} (h : l.length = 44) : splice yF 0 l = l := xq l 44 h
def yL : Array Value := (vals (List.replicate 44 0)).toArray
theorem ahY (w : World) : (Instr.makeSlice 208 (.int .i64 44) (.int .i64 44)).run prog w = .ok (.slice (some ⟨w.heap.size, 0, none⟩) 44 44) (w.alloc (.cells yL 5)) := by kernel_rfl
theorem aap (b : Blk) (B : Nat) (w : World) (HB : Hid (B = w.heap.size)) (T : Tab w) (h0 : iz b.toList = 0) :
  Calls prog 171 #[blk b] w fun e w' => ∃ v, e = .returned (.tuple #[.int .u64 (im b.toList : Nat), v, .int .i64 (fp b.toList : Nat)]) /\ Bod w' B v (eK b.toList) /\ Below B w w' := by
 have hA := cJ.blk w b 44;have hbA := (Below.refl w.heap.size w).alloc aj (.cells (cel b).toArray 44);have HTA := ae (T.below hbA);have HA := ae hA;have HBA := ae hbA;have HL := ae (gd b);have hE := qP (.inl h0);have HE := ae hE;have HN := ae (sr (l := b.toList) (by omega));have HBB := ae (sG (l := b.toList) (by omega));have HX : Hid (val 8 (piece b.toList 0 8) = 0) := ae h0;clear hE h0;clear hA hbA T;go_enter func171, ntmps171;go_wp2_with (first | (refine az rfl (cY rfl rfl) ?_) | fail);refine (lJ w.heap.size _).mono ?_;rintro e w1 ⟨rfl, hb1⟩;have HG := ae (jx w w1 b HBA HTA hb1);clear HTA HA HBA hb1;obtain ⟨g, hg⟩ : ∃ g, w.heap.size = g := ⟨_, rfl⟩;have HGE := ae (Nat.le_of_eq hg.symm);rw [hg] at HG HB;rw [hg];clear hg;obtain ⟨c0, c1, c2, c3, c4⟩ := HG.out.par.cells;go_wp2_with (first | (refine bN rfl (il g rfl rfl rfl) ?_) | fail);clear c0 c1 c2 c3 c4;generalize w1.heap.size = p at *;generalize w1.alloc (.cells (fY g) 221) = w2 at *;obtain ⟨c0, c1, c2, c3, c4⟩ := HG.out.par.cells;have hr0 := HG.out.row.rd (p := 0) (k := 8) (by rw [HL.out]; omega);refine (gu _ 8 8 _ _ _ hr0 (by omega) (by omega)).mono ?_;rintro e w3 ⟨rfl, rfl⟩;clear hr0;rw [HX.out];go_wp2_with fail;refine bodyPost_ret (v := .tuple #[.int .u64 0, .slice none 0 0, .int .i64 5]) (by simp [results, Tryz.results171, go_sem]) rfl ⟨_, by rw [HE.out, HN.out]; rfl, .inl ⟨rfl, HBB⟩, by rw [HB.out]; exact HG.out.bel⟩
theorem ul (b : Blk) (B : Nat) (w : World) (HB : Hid (B = w.heap.size)) (T : Tab w) (h0 : iz b.toList ≠ 0) (h1 : iz b.toList ≠ agO b.toList) :
  Calls prog 171 #[blk b] w fun e w' => ∃ v, e = .returned (.tuple #[.int .u64 (im b.toList : Nat), v, .int .i64 (fp b.toList : Nat)]) /\ Bod w' B v (eK b.toList) /\ Below B w w' := by
 have hA := cJ.blk w b 44;have hbA := (Below.refl w.heap.size w).alloc aj (.cells (cel b).toArray 44);have HTA := ae (T.below hbA);have HA := ae hA;have HBA := ae hbA;have HL := ae (gd b);have hE := qP (.inr h1);have HE := ae hE;have HN := ae (sr (l := b.toList) (by omega));have HBB := ae (sG (l := b.toList) (by omega));obtain ⟨x, hx⟩ : ∃ x, iz b.toList = x := ⟨_, rfl⟩;obtain ⟨y, hy⟩ : ∃ y, agO b.toList = y := ⟨_, rfl⟩;rw [hx] at h0 h1;rw [hy] at h1;have hz : ((x : Int) == 0) = false := by simp; omega
 have hn : ((x : Int) != (y : Int)) = true := by simp; omega
 have HX : Hid (val 8 (piece b.toList 0 8) = x) := ae hx;have HY : Hid (val 8 (piece b.toList 56 8) = y) := ae hy;clear hE h0 h1 hx hy;clear hA hbA T;go_enter func171, ntmps171;go_wp2_with (first | (refine az rfl (cY rfl rfl) ?_) | fail);refine (lJ w.heap.size _).mono ?_;rintro e w1 ⟨rfl, hb1⟩;have HG := ae (jx w w1 b HBA HTA hb1);clear HTA HA HBA hb1;obtain ⟨g, hg⟩ : ∃ g, w.heap.size = g := ⟨_, rfl⟩;have HGE := ae (Nat.le_of_eq hg.symm);rw [hg] at HG HB;rw [hg];clear hg;obtain ⟨c0, c1, c2, c3, c4⟩ := HG.out.par.cells;go_wp2_with (first | (refine bN rfl (il g rfl rfl rfl) ?_) | fail);clear c0 c1 c2 c3 c4;generalize w1.heap.size = p at *;generalize w1.alloc (.cells (fY g) 221) = w2 at *;obtain ⟨c0, c1, c2, c3, c4⟩ := HG.out.par.cells;have hr0 := HG.out.row.rd (p := 0) (k := 8) (by rw [HL.out]; omega);refine (gu _ 8 8 _ _ _ hr0 (by omega) (by omega)).mono ?_;rintro e w3 ⟨rfl, rfl⟩;clear hr0;rw [HX.out];go_wp2_with fail;have hr3 := HG.out.row.rd (p := 56) (k := 8) (by rw [HL.out]; omega);refine (gu _ 8 8 _ _ _ hr3 (by omega) (by omega)).mono ?_;rintro e w3 ⟨rfl, rfl⟩;clear hr3;rw [HY.out];go_wp2_with fail;refine bodyPost_ret (v := .tuple #[.int .u64 0, .slice none 0 0, .int .i64 5]) (by simp [results, Tryz.results171, go_sem]) rfl ⟨_, by rw [HE.out, HN.out]; rfl, .inl ⟨rfl, HBB⟩, by rw [HB.out]; exact HG.out.bel⟩
theorem acW (b : Blk) (B : Nat) (w : World) (HB : Hid (B = w.heap.size)) (T : Tab w) (h0 : iz b.toList ≠ 0) (h1 : iz b.toList = agO b.toList) (h2 : sp b.toList ≠ sj b.toList) :
  Calls prog 171 #[blk b] w fun e w' => ∃ v, e = .returned (.tuple #[.int .u64 (im b.toList : Nat), v, .int .i64 (fp b.toList : Nat)]) /\ Bod w' B v (eK b.toList) /\ Below B w w' := by
 have hA := cJ.blk w b 44;have hbA := (Below.refl w.heap.size w).alloc aj (.cells (cel b).toArray 44);have HTA := ae (T.below hbA);have HA := ae hA;have HBA := ae hbA;have HL := ae (gd b);have hE := abc h0 h1 h2;have HE := ae hE;have HN := ae (sr (l := b.toList) (by omega));have HBB := ae (sG (l := b.toList) (by omega));obtain ⟨x, hx⟩ : ∃ x, iz b.toList = x := ⟨_, rfl⟩;rw [hx] at h0;have HX : Hid (val 8 (piece b.toList 0 8) = x) := ae hx;have HY : Hid (val 8 (piece b.toList 56 8) = x) := ae (by rw [<- hx]; exact h1.symm);have HS4 := ae (yV (gd b));have HCL := ae (yp b.toList);have hz : ((x : Int) == 0) = false := by simp; omega
 have hn : ((x : Int) != (x : Int)) = false := by simp
 have hc : ((sp b.toList : Nat) : Int) != ((sj b.toList : Nat) : Int) := by simp; omega
 clear hE h0 h1 hx h2;clear hA hbA T;go_enter func171, ntmps171;go_wp2_with (first | (refine az rfl (cY rfl rfl) ?_) | fail);refine (lJ w.heap.size _).mono ?_;rintro e w1 ⟨rfl, hb1⟩;have HG := ae (jx w w1 b HBA HTA hb1);clear HTA HA HBA hb1;obtain ⟨g, hg⟩ : ∃ g, w.heap.size = g := ⟨_, rfl⟩;have HGE := ae (Nat.le_of_eq hg.symm);rw [hg] at HG HB;rw [hg];clear hg;obtain ⟨c0, c1, c2, c3, c4⟩ := HG.out.par.cells;go_wp2_with (first | (refine bN rfl (il g rfl rfl rfl) ?_) | fail);clear c0 c1 c2 c3 c4;generalize w1.heap.size = p at *;generalize w1.alloc (.cells (fY g) 221) = w2 at *;obtain ⟨c0, c1, c2, c3, c4⟩ := HG.out.par.cells;have hr0 := HG.out.row.rd (p := 0) (k := 8) (by rw [HL.out]; omega);refine (gu _ 8 8 _ _ _ hr0 (by omega) (by omega)).mono ?_;rintro e w3 ⟨rfl, rfl⟩;clear hr0;rw [HX.out];go_wp2_with fail;have hr3 := HG.out.row.rd (p := 56) (k := 8) (by rw [HL.out]; omega);refine (gu _ 8 8 _ _ _ hr3 (by omega) (by omega)).mono ?_;rintro e w3 ⟨rfl, rfl⟩;clear hr3;rw [HY.out];go_wp2_with fail;clear c0 c1 c2 c3 c4;have hle : w2.heap.size <= w2.heap.size := aj;refine aS (B := w2.heap.size) (by kernel_rfl) ?_;refine akr (fun _ hw => ax rfl akt ahb) ?_;refine akr (fun _ hw => aD rfl akt (ldS (HG.out.par.below (aU HG.out.par) hw).cells.2.2.1)) ?_;refine bQ rfl (fun _ => aB call175 rfl (evc akt evn)) (bz hle fun _ hw => ow HG.out.row hw 52 4 (by rw [HL.out]; omega) (by omega) (by omega)) ?_;simp only [aa];refine akr (fun _ hw => ax rfl akt ahC) ?_;refine akr (fun _ hw => aD rfl akt (ldS (HG.out.par.below (aU HG.out.par) hw).cells.2.2.2.2)) ?_;refine bQ rfl (fun _ => aB call158 rfl (evc akt evn)) (bz hle fun _ hw => ui HG.out.row HG.out.tab hw 0 52 (by rw [HL.out]; omega) (by unfold maxLen; omega)) ?_;simp only [aa];refine akr (fun _ hw => m8 rfl akt HCL) ?_;refine akr (fun _ hw => uM true rfl akt akt hc) ?_;refine wpQuiet_nil ?_;intro w3 hb3;have HG3 := ae (HG.out.below hb3 HGE);clear hb3 HG;go_wp2_with fail;refine bodyPost_ret (v := .tuple #[.int .u64 0, .slice none 0 0, .int .i64 6]) (by simp [results, Tryz.results171, go_sem]) rfl ⟨_, by rw [HE.out, HN.out]; rfl, .inl ⟨rfl, HBB⟩, by rw [HB.out]; exact HG3.out.bel⟩
theorem aex (b : Blk) (B : Nat) (w : World) (HB : Hid (B = w.heap.size)) (T : Tab w) (h0 : iz b.toList ≠ 0) (h1 : iz b.toList = agO b.toList) (h2 : sp b.toList = sj b.toList) :
  Calls prog 171 #[blk b] w fun e w' => ∃ v, e = .returned (.tuple #[.int .u64 (im b.toList : Nat), v, .int .i64 (fp b.toList : Nat)]) /\ Bod w' B v (eK b.toList) /\ Below B w w' := by
 have hA := cJ.blk w b 44;have hbA := (Below.refl w.heap.size w).alloc aj (.cells (cel b).toArray 44);have HTA := ae (T.below hbA);have HA := ae hA;have HBA := ae hbA;have HL := ae (gd b);have hE := ae2 h0 h1 h2;have HE := ae hE;have HN := ae (aeC hE);have HBB := ae (xI hE);obtain ⟨x, hx⟩ : ∃ x, iz b.toList = x := ⟨_, rfl⟩;rw [hx] at h0;have HX : Hid (val 8 (piece b.toList 0 8) = x) := ae hx;have HY : Hid (val 8 (piece b.toList 56 8) = x) := ae (by rw [<- hx]; exact h1.symm);have HS4 := ae (yV (gd b));have HCL := ae (yp b.toList);have hz : ((x : Int) == 0) = false := by simp; omega
 have hn : ((x : Int) != (x : Int)) = false := by simp
 have hc : (((sp b.toList : Nat) : Int) != ((sj b.toList : Nat) : Int)) = false := by rw [h2]; simp
 have HXX := ae hx;clear hE h0 h1 hx h2;clear hA hbA T;go_enter func171, ntmps171;go_wp2_with (first | (refine az rfl (cY rfl rfl) ?_) | fail);refine (lJ w.heap.size _).mono ?_;rintro e w1 ⟨rfl, hb1⟩;have HG := ae (jx w w1 b HBA HTA hb1);clear HTA HA HBA hb1;obtain ⟨g, hg⟩ : ∃ g, w.heap.size = g := ⟨_, rfl⟩;have HGE := ae (Nat.le_of_eq hg.symm);rw [hg] at HG HB;rw [hg];clear hg;obtain ⟨c0, c1, c2, c3, c4⟩ := HG.out.par.cells;go_wp2_with (first | (refine bN rfl (il g rfl rfl rfl) ?_) | fail);clear c0 c1 c2 c3 c4;generalize w1.heap.size = p at *;generalize w1.alloc (.cells (fY g) 221) = w2 at *;obtain ⟨c0, c1, c2, c3, c4⟩ := HG.out.par.cells;have hr0 := HG.out.row.rd (p := 0) (k := 8) (by rw [HL.out]; omega);refine (gu _ 8 8 _ _ _ hr0 (by omega) (by omega)).mono ?_;rintro e w3 ⟨rfl, rfl⟩;clear hr0;rw [HX.out];go_wp2_with fail;have hr3 := HG.out.row.rd (p := 56) (k := 8) (by rw [HL.out]; omega);refine (gu _ 8 8 _ _ _ hr3 (by omega) (by omega)).mono ?_;rintro e w3 ⟨rfl, rfl⟩;clear hr3;rw [HY.out];go_wp2_with fail;clear c0 c1 c2 c3 c4;have hle : w2.heap.size <= w2.heap.size := aj;refine aS (B := w2.heap.size) (by kernel_rfl) ?_;refine akr (fun _ hw => ax rfl akt ahb) ?_;refine akr (fun _ hw => aD rfl akt (ldS (HG.out.par.below (aU HG.out.par) hw).cells.2.2.1)) ?_;refine bQ rfl (fun _ => aB call175 rfl (evc akt evn)) (bz hle fun _ hw => ow HG.out.row hw 52 4 (by rw [HL.out]; omega) (by omega) (by omega)) ?_;simp only [aa];refine akr (fun _ hw => ax rfl akt ahC) ?_;refine akr (fun _ hw => aD rfl akt (ldS (HG.out.par.below (aU HG.out.par) hw).cells.2.2.2.2)) ?_;refine bQ rfl (fun _ => aB call158 rfl (evc akt evn)) (bz hle fun _ hw => ui HG.out.row HG.out.tab hw 0 52 (by rw [HL.out]; omega) (by unfold maxLen; omega)) ?_;simp only [aa];refine akr (fun _ hw => m8 rfl akt HCL) ?_;refine akr (fun _ hw => uM false rfl akt akt hc) ?_;refine wpQuiet_nil ?_;intro w3 hb3;have HG3 := ae (HG.out.below hb3 HGE);clear hb3 HG;have HG4 := ae (HG3.out.below ((Below.refl w3.heap.size w3).alloc aj (.cells yL 5)) HGE);obtain ⟨c0, c1, c2, c3, c4⟩ := HG4.out.par.cells;have HNEW : Hid (cJ (w3.alloc (.cells yL 5)) w3.heap.size 5 yF) := ae (cJ.new w3 yF _);have HSRC := ae (HG4.out.row.rd (p := 8) (k := 44) (by rw [HL.out]; omega));have HPL : Hid ((piece b.toList 8 44).length = 44) := ae (dS (by rw [HL.out]; omega));have HW3 := ae (aq HGE HG3.out.bel.size);clear HG3;obtain ⟨q, hq⟩ : ∃ q, w3.heap.size = q := ⟨_, rfl⟩;rw [hq] at HNEW HW3;have HQ := ae hq;generalize hw4 : w3.alloc (.cells yL 5) = w4 at *;have HM : Hid (∀ w : World, w = w3 -> (Instr.makeSlice 208 (.int .i64 44) (.int .i64 44)).run prog w = .ok (.slice (some ⟨q, 0, none⟩) 44 44) w4) := ae (fun w e => by subst e; rw [ahY, hq, hw4]);have hmk := HM.out w3 rfl;clear hq hw4;go_wp2_with (with_reducible refine fa rfl _ _ rfl q 0 44 44 44 44 _ _ 5 _ (piece b.toList 8 44) rfl rfl HNEW.out HSRC.out (Nat.le_refl _) ?c1 ?_)
 case c1 => simp [yF]
 intro w5 hr5 hg5;rw [zz HPL.out] at hr5;have HB5 := ae (HG4.out.bel.grown hg5 (aq HGE HG4.out.bel.size) (fun k hk => by injection hk with e; subst e; exact HW3));have HR5 := ae hr5;clear hr5 hg5 c0 c1 c2 c3 c4;go_wp2_with fail;refine bodyPost_ret (v := .tuple #[.int .u64 (x : Int), .slice (some ⟨q, 0, none⟩) 44 44, .int .i64 0]) (by simp [results, Tryz.results171, go_sem]) rfl ⟨_, by rw [HE.out, HN.out, HXX.out]; rfl, .inr ⟨q, ?_, ?_, ?_, ?_⟩, ?_⟩
 ·rw [HBB.out, HPL.out]
 ·rw [HB.out]; exact HW3
 ·rw [HBB.out]; exact HR5
 ·rw [HBB.out, HPL.out]; unfold maxLen; omega
 ·rw [HB.out]; exact HB5
theorem ke (b : Blk) (B : Nat) (w : World) (HB : Hid (B = w.heap.size)) (T : Tab w) : Calls prog 171 #[blk b] w fun e w' => ∃ v, e = .returned (.tuple #[.int .u64 (im b.toList : Nat), v, .int .i64 (fp b.toList : Nat)]) /\ Bod w' B v (eK b.toList) /\ Below B w w' := by
 by_cases h0 : iz b.toList = 0
 ·exact aap b B w HB T h0
 ·by_cases h1 : iz b.toList = agO b.toList
  ·by_cases h2 : sp b.toList = sj b.toList
   ·exact aex b B w HB T h0 h1 h2
   ·exact acW b B w HB T h0 h1 h2
  ·exact ul b B w HB T h0 h1
theorem wm {w w2 : World} {g p q : Nat} {l : List UInt8} (HR : cJ w g 5 l) (hb : Below (w.alloc (.cells (bD cG).toArray 198)).heap.size (w.alloc (.cells (bD cG).toArray 198)) w2)
  (hc : kA w2 p q (.slice (some ⟨g, 0, none⟩) 44 44) 0) (hd : w.heap.size + 1 <= p /\ w.heap.size + 1 <= q /\ p ≠ q /\ p < w2.heap.size /\ q < w2.heap.size) :
  ib w.heap.size w ((w2.alloc (.cells #[kR p q] 214)).alloc (.cells (bD cG).toArray 198)) g l (w2.heap.size + 1) w.heap.size w2.heap.size p q 0 cG := by
 have e0 := World.size_alloc (w := w) (o := Obj.cells (bD cG).toArray 198);have e1 := World.size_alloc (w := w2) (o := Obj.cells #[kR p q] 214);have h1 := aU HR;have h3 := hb.size;rw [e0] at h3;have hro := cZ.new (w2.alloc (.cells #[kR p q] 214)) cG;rw [e1] at hro;have hb1 := (Below.refl w.heap.size w).alloc aj (.cells (bD cG).toArray 198);have hb2 : Below w.heap.size w w2 := hb1.trans (hb.mono hb1.size);refine ⟨((HR.past _).below (by rw [e0]; omega) hb).past _ |>.past _, hro, bu (bu (aC (heap_alloc_new w _) hb) _) _, bu (heap_alloc_new w2 _) _, ⟨bu (bu hc.1 _) _, bu (bu hc.2 _) _⟩, (hb2.alloc (by omega) _).alloc (by rw [e1]; omega) _, ?_, ?_, ?_⟩
 ·omega
 ·omega
 ·refine ⟨?_, ?_, ?_, ?_, ?_, ?_, ?_, ?_, ?_, ?_⟩ <;> omega
theorem xS (g : Nat) (l : List UInt8) (w : World) (hl : l.length = 44) (hr : cJ w g 5 l) : Calls prog 172 #[.slice (some ⟨g, 0, none⟩) 44 44] w fun e w' => e = .returned (sup (cQ l)) /\ Below w.heap.size w w' := by
 have hmf : ∀ (fn : Fn) (first cap : Array Value) (w : World), (Instr.makeFunc fn first cap).run prog w = .ok (.func fn first cap) w := fun _ _ _ _ => rfl
 have HL := ae hl;have HR := ae hr;obtain ⟨I, hI⟩ : ∃ I : Nat, val 8 (piece l 0 8) = I := ⟨_, rfl⟩;obtain ⟨M, hM⟩ : ∃ M : Nat, val 8 (piece l 8 1) = M := ⟨_, rfl⟩;have bM : M < 256 := by rw [<- hM]; exact dE (b := l) (p := 8) (k := 1) (by omega)
 obtain ⟨T, hT⟩ : ∃ T : Nat, val 8 (piece l 9 2) = T := ⟨_, rfl⟩;have bT : T < 65536 := by rw [<- hT]; exact dE (b := l) (p := 9) (k := 2) (by omega)
 obtain ⟨R, hR⟩ : ∃ R : Nat, val 8 (piece l 11 2) = R := ⟨_, rfl⟩;have bR : R < 65536 := by rw [<- hR]; exact dE (b := l) (p := 11) (k := 2) (by omega)
 obtain ⟨E, hE⟩ : ∃ E : Nat, val 8 (piece l 13 1) = E := ⟨_, rfl⟩;have bE : E < 256 := by rw [<- hE]; exact dE (b := l) (p := 13) (k := 1) (by omega)
 obtain ⟨C, hC⟩ : ∃ C : Nat, val 8 (piece l 18 2) = C := ⟨_, rfl⟩;have bC : C < 65536 := by rw [<- hC]; exact dE (b := l) (p := 18) (k := 2) (by omega)
 obtain ⟨G, hG⟩ : ∃ G : Nat, val 8 (piece l 20 1) = G := ⟨_, rfl⟩;have bG : G < 256 := by rw [<- hG]; exact dE (b := l) (p := 20) (k := 1) (by omega)
 obtain ⟨gb, hgb⟩ : ∃ gb, decide (G = 1) = gb := ⟨_, rfl⟩;have hgg : ((G : Int) == 1) = gb := by rw [<- hgb, Bool.eq_iff_iff]; simp; omega
 obtain ⟨st, hst⟩ : ∃ st, cw 2 16 (val 8 (piece l 14 4)) = st := ⟨_, rfl⟩;have HST := ae hst;have HSL : Hid (st.length = 16) := ae (by rw [<- hst, aT]);have HDEF : Hid (cQ l = ⟨I, (E : Nat), ⟨(M : Nat), (T : Nat), (R : Nat), sN st, (C : Nat), gb⟩⟩) := ae (by unfold cQ; rw [hI, hM, hT, hR, hE, hC, hG, hgb, hst]);have HII := ae hI;have HMM := ae hM;have HTT := ae hT;have HRR := ae hR;have HEE := ae hE;have HCC := ae hC;have HGG2 := ae hG;have HGG := ae hgg;clear hI hM hT hR hE hC hG hgb hst hl hr hgg;go_enter func172, ntmps172;go_wp2_with (first | (refine aw rfl (cp rfl) ?_) | fail);refine (pO (.slice (some ⟨g, 0, none⟩) 44 44) _ 44 44 rfl _).mono ?_;rintro e w2 ⟨p, q, rfl, hc, hp0, hq0, hpq, hp1, hq1, hb⟩;have HW0 := ae (wm HR hb hc (by rw [World.size_alloc] at hp0 hq0; exact ⟨hp0, hq0, hpq, hp1, hq1⟩));clear hb hc hp0 hq0 hpq hp1 hq1 HR;unfold kR at HW0 ⊢;go_upto_region 5 with (first | (refine aw rfl (cp rfl) ?_) | fail)
 try simp only [World.size_alloc]
 generalize ((w2.alloc (.cells #[Value.func (.func 163) #[] #[.pointer (some ⟨p, 0, none⟩), .pointer (some ⟨q, 0, none⟩)]] 214)).alloc (.cells (bD cG).toArray 198)) = w3 at *
 try simp only [World.size_alloc]
 generalize w2.heap.size = nb at *;obtain ⟨B, hBdef⟩ : ∃ B, w.heap.size = B := ⟨_, rfl⟩;have HBD := ae hBdef;rw [hBdef] at HW0 ⊢;clear hBdef;have HSN : Hid (nb + 1 ≠ nb) := ae (by omega);obtain ⟨s, hs⟩ : ∃ s, nb + 1 = s := ⟨_, rfl⟩;rw [hs] at HW0 ⊢;clear hs;have HB0 : Hid (B <= w.heap.size) := ae (Nat.le_of_eq HBD.out.symm);go_wp2_with fail;refine (o0 B w _ g l s B nb p q 0 8 _ HW0 HB0 HL (by omega) (by omega) (by omega)).mono ?_;rintro e w4 ⟨rfl, hW⟩;rw [HII.out];have HV0 := ae hW;have cc := HV0.out.sup.cells.1;have ff := HV0.out.sup.free 0;clear hW;have HW1 : Hid (ib B w (w4.setCell ⟨s, 0, none⟩ (.int .u64 (I : Nat))) g l s B nb p q 8 ⟨I, 0, ⟨0, 0, 0, bK.st, 0, false⟩⟩) := ae (HV0.out.set 0 _ (aeF _ _) HB0);clear HV0;go_wp2_with fail;refine (o0 B w _ g l s B nb p q 8 1 _ HW1 HB0 HL (by omega) (by omega) (by omega)).mono ?_;rintro e w5 ⟨rfl, hW⟩;rw [HMM.out];have HV1 := ae hW;have cc := HV1.out.sup.cells.2.2.1;have ff := HV1.out.sup.free 2;clear hW HW1;have HW2 : Hid (ib B w (w5.setCell ⟨s, 2, none⟩ (.int .i64 (M : Nat))) g l s B nb p q 9 ⟨I, 0, ⟨(M : Nat), 0, 0, bK.st, 0, false⟩⟩) := ae (HV1.out.set 2 _ (agT _ _) HB0);clear HV1;go_wp2_with fail;refine (o0 B w _ g l s B nb p q 9 2 _ HW2 HB0 HL (by omega) (by omega) (by omega)).mono ?_;rintro e w6 ⟨rfl, hW⟩;rw [HTT.out];have HV2 := ae hW;have cc := HV2.out.sup.cells.2.2.2.1;have ff := HV2.out.sup.free 3;clear hW HW2;have HW3 : Hid (ib B w (w6.setCell ⟨s, 3, none⟩ (.int .i64 (T : Nat))) g l s B nb p q 11 ⟨I, 0, ⟨(M : Nat), (T : Nat), 0, bK.st, 0, false⟩⟩) := ae (HV2.out.set 3 _ (ahV _ _) HB0);clear HV2;go_wp2_with fail;refine (o0 B w _ g l s B nb p q 11 2 _ HW3 HB0 HL (by omega) (by omega) (by omega)).mono ?_;rintro e w7 ⟨rfl, hW⟩;rw [HRR.out];have HV3 := ae hW;have cc := HV3.out.sup.cells.2.2.2.2.1;have ff := HV3.out.sup.free 4;clear hW HW3;have HW4 : Hid (ib B w (w7.setCell ⟨s, 4, none⟩ (.int .i64 (R : Nat))) g l s B nb p q 13 ⟨I, 0, ⟨(M : Nat), (T : Nat), (R : Nat), bK.st, 0, false⟩⟩) := ae (HV3.out.set 4 _ (ahI _ _) HB0);clear HV3;go_wp2_with fail;refine (o0 B w _ g l s B nb p q 13 1 _ HW4 HB0 HL (by omega) (by omega) (by omega)).mono ?_;rintro e w8 ⟨rfl, hW⟩;rw [HEE.out];have HV4 := ae hW;have cc := HV4.out.sup.cells.2.1;have ff := HV4.out.sup.free 1;clear hW HW4;have HW5 : Hid (ib B w (w8.setCell ⟨s, 1, none⟩ (.int .i64 (E : Nat))) g l s B nb p q 14 ⟨I, (E : Nat), ⟨(M : Nat), (T : Nat), (R : Nat), bK.st, 0, false⟩⟩) := ae (HV4.out.set 1 _ (aaJ _ _) HB0);clear HV4;have n0 := (cell1 HW5.out.nxt).1;unfold kR at n0;go_wp2_with fail;refine (ae9 p q g 0 44 44 14 4 _ HW5.out.cut HW5.out.dif.2.2.2.2.1 (by omega) (by omega) aj (by omega)).mono ?_;rintro e w9 ⟨rfl, hc, hg⟩;have HV5 := ae (HW5.out.step hc hg HB0);clear hc hg n0 HW5 cc ff;have HRD := ae (HV5.out.row.rd (p := 14) (k := 4) (by rw [HL.out]; omega));go_wp2_with fail;refine (aae _ 4 4 _ 2 16 _ (piece l 14 4) w9 (ae rfl) HRD aj (by omega) (by omega) (by omega) (by omega) (by decide)).mono ?_;rintro e w10 ⟨v, rfl, hv, hb⟩;rw [HST.out] at hv;have hvm := hv.made;obtain ⟨A, c, rfl, hrd, _, _⟩ := hvm.open_ HSL;have HV6 := ae (HV5.out.keep hb HB0);have HRD2 := ae hrd;clear hv hvm hrd hb HRD HV5;go_wp2_with (first | (refine aw rfl (lh rfl rfl) ?_) | (refine rO rfl _ _ rfl s 5 16 16 c _ A 198 (bD _) st rfl rfl HV6.out.sup HRD2 (by omega) ?_ ?_) | fail)
 ·rw [a8]; omega
 intro w11 hs11 hg11;rw [ad9 _ HSL.out] at hs11;have HW6 : Hid (ib B w w11 g l s B nb p q 18 ⟨I, (E : Nat), ⟨(M : Nat), (T : Nat), (R : Nat), sN st, 0, false⟩⟩) := ae (HV6.out.put hs11 hg11 HB0);clear hs11 hg11 HV6 HRD2;go_wp2_with fail;refine (o0 B w _ g l s B nb p q 18 2 _ HW6 HB0 HL (by omega) (by omega) (by omega)).mono ?_;rintro e w12 ⟨rfl, hW⟩;rw [HCC.out];have HV6 := ae hW;have cc := HV6.out.sup.cells.2.2.2.2.2.1;have ff := HV6.out.sup.free 21;clear hW HW6;have HW7 : Hid (ib B w (w12.setCell ⟨s, 21, none⟩ (.int .i64 (C : Nat))) g l s B nb p q 20 ⟨I, (E : Nat), ⟨(M : Nat), (T : Nat), (R : Nat), sN st, (C : Nat), false⟩⟩) := ae (HV6.out.set 21 _ (abH _ _) HB0);clear HV6;go_wp2_with fail;refine (o0 B w _ g l s B nb p q 20 1 _ HW7 HB0 HL (by omega) (by omega) (by omega)).mono ?_;rintro e w13 ⟨rfl, hW⟩;rw [HGG2.out];have HV7 := ae hW;clear hW HW7 cc ff;have cc := HV7.out.sup.cells.2.2.2.2.2.2;have ff := HV7.out.sup.free 22;have HW8 : Hid (ib B w (w13.setCell ⟨s, 22, none⟩ (.bool gb)) g l s B nb p q 21 ⟨I, (E : Nat), ⟨(M : Nat), (T : Nat), (R : Nat), sN st, (C : Nat), gb⟩⟩) := ae (HV7.out.set 22 _ (aaW _ _) HB0);rw [<- HDEF.out] at HW8;have hgg := HGG.out;clear HV7;have HLS := ae HW8.out.sup.range;have HTH := ae (dY (o := 0) (n := 23) HW8.out.res (by rw [a8]; exact aj));have HBB := ae HW8.out.bel;go_upto_region 14 with fail;generalize w13.setCell ⟨s, 22, none⟩ (.bool gb) = w14 at *;clear cc ff;go_wp2_with (first | (refine aw rfl (dz (c := cQ l) rfl rfl ?_) ?_; (with_reducible exact HLS.out)) | (refine aG rfl (ez rfl rfl rfl ?_) ?_; (with_reducible exact HTH.out)) | fail);refine bodyPost_ret (nV (t := 198) (cs := bD (cQ l)) rfl _ _ B rfl ?h1 underlying198 rfl ?h2) rfl ⟨rfl, ?h3⟩
 case h1 => exact World.rangeAt_setCells_same _ _ _ _ (by rw [a8]; exact HTH)
 case h2 => rw [a8]; exact kj
 case h3 => rw [HBD.out]; exact below_setCells HBB aj _
theorem tD {ρ : Operand -> Value} {o : Oper} {x y : Operand} {w : World} {l : List UInt8} (hl : l.length = 44) (ho : o.op = .store 205 x y) (hx : ρ x = .pointer (some ⟨w.heap.size, 0, none⟩)) (hy : ρ y = arr l) :
  (execOp ρ o).run prog (w.alloc (.cells (vals z44).toArray 205)) = .ok .skip (w.alloc (.cells (vals l).toArray 205)) :=
 fG (by rw [bj, hl]; exact mX) (by rw [bj, bj, hl, wP]) (jj l) ho hx hy
theorem ma (n : Nat) (w : World) {b : Bool} (h : evB n = b) : Calls prog 145 #[.int .u64 n] w fun e w' => e = .returned (.bool b) /\ Below w.heap.size w w' := by
 subst h;exact (adG n w).mono fun e w' ⟨he, hw⟩ => ⟨he, hw ▸ ak⟩
theorem ss (x : Sup) (w : World) {b : Bool} (h : gQ x = b) : Calls prog 146 #[sup x] w fun e w' => e = .returned (.bool b) /\ Below w.heap.size w w' := by
 subst h;exact agh x w
theorem aiX (n : Nat) (x : Sup) (w : World) (T : Tab w) (hn : n < 18446744073709551616) (hid : x.id < 18446744073709551616) :
  Calls prog 142 #[.int .u64 n, sup x] w fun e w' => e = .returned (.tuple #[blk (gC n x), .int .i64 (xJ n x : Nat)]) /\ Below w.heap.size w w' := by
 obtain ⟨h1, h2, h3⟩ := pT w x;have HS := ae (h1.past (.cells (cel aJ).toArray 44));have HB := ae (h2.alloc h2.size (.cells (cel aJ).toArray 44));have HT := ae T;have HN := ae hn;have HI := ae hid;have HR : Hid (((w.alloc (.cells (bD x).toArray 198)).alloc (.cells (cel aJ).toArray 44)).there (w.heap.size + 1) 0 64) := ae (by
  have := fB (w.alloc (.cells (bD x).toArray 198)) aJ 44;rwa [World.size_alloc] at this)
 have HZ : Hid (w.heap.size + 1 < ((w.alloc (.cells (bD x).toArray 198)).alloc (.cells (cel aJ).toArray 44)).heap.size) := ae (by simp only [World.size_alloc]; omega);clear h1 h2 h3 T hn hid;go_enter func142, ntmps142;go_wp2_with (first | (refine aw rfl (jp rfl rfl) ?_) | (refine aw rfl (bU rfl) ?_) | fail)
 try simp only [World.size_alloc]
 generalize (w.alloc (.cells (bD x).toArray 198)).alloc (.cells (cel aJ).toArray 44) = w1 at *;refine (adG n w1).mono ?_;rintro e w' ⟨rfl, rfl⟩;by_cases hev : evB n = true
 ·rw [hev];have HEV := ae hev;clear hev;go_wp2_with (first | (refine az (by rfl) (dz (c := x) rfl rfl ?_) ?_; (with_reducible exact HS.out.range)) | fail);refine (agh x w1).mono ?_;rintro e w2 ⟨rfl, hb⟩;have HS2 := ae (HS.out.below (aU HS) hb);have HB2 := ae (HB.out.trans (hb.mono HB.out.size));have HR2 := ae (ci HR HZ hb);have HZ2 : Hid (w.heap.size + 1 < w2.heap.size) := ae (by have := hb.size; have := HZ.out; omega);clear hb HS HB HR HZ;by_cases hm : gQ x = true
  ·rw [hm];have HM := ae hm;clear hm;go_wp2_with (first | (refine aw rfl (dz (c := x) rfl rfl ?_) ?_; (with_reducible exact HS2.out.range)) | fail);refine (adV x w2 HI HM).mono ?_;rintro e w3 ⟨rfl, hb⟩;have hb3 := HB2.out.trans (hb.mono HB2.out.size);have HB3 := ae (hb3.alloc hb3.size (.cells (vals (dU x)).toArray 205));have HR3 := ae (ci HR2 HZ2 (hb.alloc hb.size (.cells (vals (dU x)).toArray 205)));have hrd := (cJ.new w3 (dU x) 205).rd (p := 0) (k := 44) (by rw [dp]; omega);rw [mn (dp x)] at hrd;have HRD := ae hrd;have HFL := ae (dp x);have HZ3 : Hid (w.heap.size + 1 < (w3.alloc (.cells (vals (dU x)).toArray 205)).heap.size) := ae (by have := hb.size; have := HZ2.out; simp only [World.size_alloc]; omega);clear hb hb3 hrd HS2 HB2 HR2 HZ2;go_wp2_with (first | (refine aw rfl (lF rfl) ?_) | (refine aG rfl (tD (l := dU x) HFL.out rfl rfl rfl) ?_) | (refine aw rfl (pd rfl rfl) ?_) | fail);generalize hw4 : w3.alloc (.cells (vals (dU x)).toArray 205) = w4 at *;refine (afg n 44 44 _ _ (dU x) w4 (HT.out.below HB3) HN HRD aj (by unfold maxLen; omega)).mono ?_;rintro e w5 ⟨rfl, hb⟩;rw [rj, kF, qM x HEV.out];have HR5 := ae (ci HR3 HZ3 hb);have HB5 := ae (HB3.out.trans (hb.mono HB3.out.size));have HPB := ae (acz HEV HM);have HPE := ae (vl HEV HM);clear hb hw4 HRD HR3 HZ3 HB3;generalize jV n (kr x) = pb at *;go_wp2_with (first | (refine aG rfl (bO (c := pb) rfl rfl rfl ?_) ?_; (with_reducible exact HR5.out)) | fail);refine bodyPost_ret (dC rfl _ _ _ rfl (World.rangeAt_setCells_same _ _ _ _ (by rw [aO]; exact HR5))) rfl ⟨by rw [HPB.out, HPE.out]; rfl, below_setCells HB5 (Nat.le_succ _) _⟩
  ·have hm' : gQ x = false := by simpa using hm
   have HPB := ae (tU (n := n) (x := x) (fun h => hm h.2));have HPE := ae (tz (n := n) (x := x) (fun h => hm h.2));rw [hm'];clear hm hm';go_wp2_with (first | (refine aw rfl (dy (c := aJ) (parts := []) rfl rfl) ?_) | (refine aG rfl (bO (c := aJ) rfl rfl rfl ?_) ?_; (with_reducible exact HR2.out)) | fail);refine bodyPost_ret (dC rfl _ _ _ rfl (World.rangeAt_setCells_same _ _ _ _ (by rw [aO]; exact HR2))) rfl ⟨by rw [HPB.out, HPE.out]; rfl, below_setCells HB2 (Nat.le_succ _) _⟩
 ·have hev' : evB n = false := by simpa using hev
  have HPB := ae (tU (n := n) (x := x) (fun h => hev h.1));have HPE := ae (tz (n := n) (x := x) (fun h => hev h.1));rw [hev'];clear hev hev';go_wp2_with (first | (refine aw rfl (dy (c := aJ) (parts := []) rfl rfl) ?_) | (refine aG rfl (bO (c := aJ) rfl rfl rfl ?_) ?_; (with_reducible exact HR.out)) | fail);refine bodyPost_ret (dC rfl _ _ _ rfl (World.rangeAt_setCells_same _ _ _ _ (by rw [aO]; exact HR))) rfl ⟨by rw [HPB.out, HPE.out]; rfl, below_setCells HB (Nat.le_succ _) _⟩
section
variable {P : Program} {ops : Array Oper} {C : World -> Prop} {Q : Act -> Prop} {a : Act} {o : Oper} {rest l : List Oper} {v : Value}
theorem nq : ∀ (rs : List Oper) (a : Act), unw ops rs a = true -> wpQuiet P ops C Q rest (bL rs a) -> wpQuiet P ops C Q (rs ++ rest) a
 |[], _, _, h => h
 |r :: rs, a, hu, h => by
  simp only [unw, Bool.and_eq_true, Bool.not_eq_true'] at hu;exact aeD hu.1 (nq rs _ hu.2 h)
theorem gL (n : Nat) (hw : Region.wanted o (yielded ops a.tmps) = true) (h : ∀ w, C w -> (execOp a.eval o).run P w = .ok (.value v) w) (hu : unw ops (l.take n) (a.put o.dst v) = true) (hr : wpQuiet P ops C Q (l.drop n) (bL (l.take n) (a.put o.dst v))) : wpQuiet P ops C Q (o :: l) a :=
 aL hw h (by have := nq (P := P) (C := C) (Q := Q) (l.take n) _ hu hr; rwa [List.take_append_drop] at this)
end
end Go.Proofs.YtlmdklakcmnaiaaGreatDoor
