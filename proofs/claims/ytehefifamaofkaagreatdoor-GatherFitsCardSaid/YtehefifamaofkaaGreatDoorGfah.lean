import Derived.Test.YtehefifamaofkaaGreatDoorGfag
import Derived.LaidEqlPtr
import Derived.Deep.Slices
namespace Go.Proofs.YtehefifamaofkaaGreatDoor
set_option maxHeartbeats 8000000
open Go.Proofs.Tryz
open Go.RowKit
set_option linter.unusedVariables false
set_option linter.unusedSimpArgs false
set_option maxRecDepth 100000
theorem zN {x : Ros} (hf : a8 x = false) (w : World) : Calls prog 31 #[ros x] w fun e w' => e = .returned (.int .i64 0) /\ Below w.heap.size w w' := by
 have HT1 := ae (fz.new w x);have HF := ae hf;clear hf;go_enter func31, ntmps31;go_wp2_with (first | (refine au rfl (bf rfl rfl) ?_) | fail);generalize w.alloc (.cells (aU x).toArray 35) = w1 at *;have ht1 := HT1.out;clear HT1
 go_loopw [3, 4] (fun n i wr => ∃ j : Nat, j <= 16 /\ i = .int .i64 j /\ n = .int .i64 (0 : Nat) /\ fz w wr x) (fun _ i _ => 16 - (intOf i).toNat)
 case atStart => exact ⟨0, Nat.zero_le _, rfl, rfl, ht1⟩
 case round =>
  clear ht1;obtain ⟨j, hj, rfl, rfl, ht⟩ := hrel;have HT := ae ht;clear ht;by_cases hlt : j < 16
  ·have H16 : Hid (decide ((j : Int) < 16) = true) := ae (am (by omega));go_upto_region 3 with fail;refine bn 1 ?_;refine ac6 (bw true rfl adh evk H16) ?_;refine runs 1 ?_;refine ade (aX rfl adh (HT.out.at0)) ?_;refine ay ac1 (aD call24 rfl (evc adh evn)) ?_;refine (eD wr HF).mono ?_;rintro e w2 ⟨rfl, hb⟩;have HT2 := ae (HT.out.call hb);clear hb HT;refine bI ?_;refine aP 1 ?_;go_wp2_with fail;go_ret;exact ⟨rfl, HT2.out.bel⟩
  ·have e : j = 16 := by omega
   subst e;go_wp2;go_ret;exact ⟨rfl, HT.out.bel⟩
theorem zC {x : Ros} (hf : a8 x = true) (w : World) : Calls prog 31 #[ros x] w fun e w' => e = .returned (.int .i64 (outs x : Nat)) /\ Below w.heap.size w w' := by
 have HT1 := ae (fz.new w x);have HF := ae hf;clear hf;go_enter func31, ntmps31;go_wp2_with (first | (refine au rfl (bf rfl rfl) ?_) | fail);generalize w.alloc (.cells (aU x).toArray 35) = w1 at *;have ht1 := HT1.out;clear HT1;have HS : Hid (∀ j, sta x j = bt x.st.toList j) := ae fun _ => rfl
 go_loopw [3, 4] (fun n i wr => ∃ j : Nat, j <= 16 /\ i = .int .i64 j /\ n = .int .i64 (pV x.st.toList j : Nat) /\ fz w wr x) (fun _ i _ => 16 - (intOf i).toNat)
 case atStart => exact ⟨0, Nat.zero_le _, rfl, rfl, ht1⟩
 case round =>
  clear ht1;obtain ⟨j, hj, rfl, rfl, ht⟩ := hrel;have HT := ae ht;clear ht;by_cases hlt : j < 16
  ·have H16 : Hid (decide ((j : Int) < 16) = true) := ae (am (by omega));go_upto_region 3 with fail;refine bn 1 ?_;refine ac6 (bw true rfl adh evk H16) ?_;refine runs 1 ?_;refine ade (aX rfl adh (HT.out.at0)) ?_;refine ay ac1 (aD call24 rfl (evc adh evn)) ?_;refine (eD wr HF).mono ?_;rintro e w2 ⟨rfl, hb⟩;have HT2 := ae (HT.out.call hb);clear hb HT;refine bI ?_;refine aP 1 ?_;have HK := ae (jY x.st.toList j);have hle := yI x.st.toList j;generalize pV x.st.toList j = n at *;go_upto_region 5 with fail;refine bn 1 ?_;refine ac6 (ax rfl adh kU) ?_;refine ac6 (cN rfl adh adh (oG hlt)) ?_;refine ac6 (aE rfl adh (pK ((HT2.out.at0).sta hlt))) ?_;by_cases h0 : sta x j = 0
   ·rw [if_pos (by rw [<- HS.out]; exact h0)] at HK;have H0 : Hid ((sta x j != 0) = false) := ae (by simpa using h0);clear h0;refine ac6 (aO false rfl adh evk H0) ?_;refine ag ?_;go_wp2_with fail;go_roundw
    case rel => exact ⟨j + 1, by omega, by go_num, by rw [HK.out]; rfl, HT2⟩
    case measure => simp [intOf]; omega
   ·rw [if_neg (by rw [<- HS.out]; exact h0)] at HK;have H0 : Hid ((sta x j != 0) = true) := ae (by simpa using h0);clear h0;refine ac6 (aO true rfl adh evk H0) ?_;refine ag ?_;go_wp2_with fail;go_roundw
    case rel => exact ⟨j + 1, by omega, by go_num, by rw [HK.out]; go_num, HT2⟩
    case measure => simp [intOf]; omega
  ·have e : j = 16 := by omega
   subst e;go_wp2;go_ret;exact ⟨rfl, HT.out.bel⟩
theorem ack (x : Ros) (w : World) : Calls prog 31 #[ros x] w fun e w' => e = .returned (.int .i64 (fF x : Nat)) /\ Below w.heap.size w w' := by
 unfold fF;cases hf : a8 x
 ·exact zN hf w
 ·exact zC hf w
theorem fd {x : Ros} {n : Nat} (w : World) (h : fF x = n) : Calls prog 31 #[ros x] w fun e w' => e = .returned (.int .i64 (n : Nat)) /\ Below w.heap.size w w' := by subst h; exact ack x w
theorem wB {x : Ros} (hf : a8 x = false) (w : World) : Calls prog 88 #[ros x] w fun e w' => e = .returned (.tuple #[.int .i64 0, .bool false]) /\ Below w.heap.size w w' := by
 have HT1 := ae (fz.new w x);have HF := ae hf;clear hf;go_enter func88, ntmps88;go_wp2_with (first | (refine au rfl (bf rfl rfl) ?_) | fail);generalize w.alloc (.cells (aU x).toArray 35) = w1 at *;have ht1 := HT1.out;clear HT1
 go_loopw [4] (fun i wr => ∃ j : Nat, j <= 16 /\ i = .int .i64 j /\ fz w wr x) (fun i _ => 16 - (intOf i).toNat)
 case atStart => exact ⟨0, Nat.zero_le _, rfl, ht1⟩
 case round =>
  clear ht1;obtain ⟨j, hj, rfl, ht⟩ := hrel;have HT := ae ht;clear ht;by_cases hlt : j < 16
  ·have H16 : Hid (decide ((j : Int) < 16) = true) := ae (am (by omega));go_upto_region 2 with fail;refine bn 1 ?_;refine ac6 (bw true rfl adh evk H16) ?_;refine runs 1 ?_;refine ade (aX rfl adh (HT.out.at0)) ?_;refine ay ac1 (aD call24 rfl (evc adh evn)) ?_;refine (eD wr HF).mono ?_;rintro e w2 ⟨rfl, hb⟩;have HT2 := ae (HT.out.call hb);clear hb HT;refine bI ?_;refine aP 1 ?_;go_wp2_with fail;go_ret2;exact ⟨rfl, HT2.out.bel⟩
  ·have e : j = 16 := by omega
   subst e;go_wp2;go_ret2;exact ⟨rfl, HT.out.bel⟩
theorem wb {x : Ros} (hf : a8 x = true) (w : World) : Calls prog 88 #[ros x] w fun e w' => e = .returned (.tuple #[.int .i64 ((jN x).getD 0 : Nat), .bool (jN x).isSome]) /\ Below w.heap.size w w' := by
 have HT1 := ae (fz.new w x);have HF := ae hf;clear hf;go_enter func88, ntmps88;go_wp2_with (first | (refine au rfl (bf rfl rfl) ?_) | fail);generalize w.alloc (.cells (aU x).toArray 35) = w1 at *;have ht1 := HT1.out;clear HT1;have HJ := ae (tP x);have HS : Hid (∀ j, sta x j = bt x.st.toList j) := ae fun _ => rfl
 go_loopw [4] (fun i wr => ∃ j : Nat, j <= 16 /\ i = .int .i64 j /\ fz w wr x /\ jL x.st.toList j = none) (fun i _ => 16 - (intOf i).toNat)
 case atStart => exact ⟨0, Nat.zero_le _, rfl, ht1, rfl⟩
 case round =>
  clear ht1;obtain ⟨j, hj, rfl, ht, h0⟩ := hrel;have HT := ae ht;clear ht;have H0 := ae h0;clear h0;by_cases hlt : j < 16
  ·have H16 : Hid (decide ((j : Int) < 16) = true) := ae (am (by omega));go_upto_region 2 with fail;refine bn 1 ?_;refine ac6 (bw true rfl adh evk H16) ?_;refine runs 1 ?_;refine ade (aX rfl adh (HT.out.at0)) ?_;refine ay ac1 (aD call24 rfl (evc adh evn)) ?_;refine (eD wr HF).mono ?_;rintro e w2 ⟨rfl, hb⟩;have HT2 := ae (HT.out.call hb);clear hb HT;refine bI ?_;refine aP 1 ?_;go_upto_region 4 with fail;refine bn 1 ?_;refine ac6 (ax rfl adh kU) ?_;refine ac6 (cN rfl adh adh (oG hlt)) ?_;refine ac6 (aE rfl adh (pK ((HT2.out.at0).sta hlt))) ?_;by_cases h2 : sta x j = 2
   ·have HE : Hid (jN x = some j) := ae (HJ.out.trans (zW H0 ((HS.out j).symm.trans h2) hlt));have H2 : Hid ((sta x j == 2) = true) := ae (by simpa using h2);clear h2;refine ac6 (aG true rfl adh evk H2) ?_;refine ag ?_;go_wp2_with fail;go_ret2;exact ⟨by rw [HE.out]; rfl, HT2.out.bel⟩
   ·have HE := ae (ud H0 (fun e => h2 ((HS.out j).trans e)));have H2 : Hid ((sta x j == 2) = false) := ae (by simpa using h2);clear h2;refine ac6 (aG false rfl adh evk H2) ?_;refine ag ?_;go_wp2_with fail;go_roundw
    case rel => exact ⟨j + 1, by omega, by go_num, HT2, HE⟩
    case measure => simp [intOf]; omega
  ·have e : j = 16 := by omega
   subst e;have HE : Hid (jN x = none) := ae (HJ.out.trans H0);go_wp2;go_ret2;exact ⟨by rw [HE.out]; rfl, HT.out.bel⟩
theorem abn (x : Ros) (w : World) : Calls prog 88 #[ros x] w fun e w' => e = .returned (.tuple #[.int .i64 (kb x : Nat), .bool (gW x)]) /\ Below w.heap.size w w' := by
 unfold kb gW;cases hf : a8 x
 ·exact wB hf w
 ·exact wb hf w
theorem et {x : Ros} {m : Nat} {b : Bool} (w : World) (hm : kb x = m) (hb : gW x = b) : Calls prog 88 #[ros x] w fun e w' => e = .returned (.tuple #[.int .i64 (m : Nat), .bool b]) /\ Below w.heap.size w w' := by subst hm hb; exact abn x w
theorem wT {x : Ros} (hf : a8 x = false) (w : World) : Calls prog 64 #[ros x] w fun e w' => e = .returned (.int .i64 0) /\ Below w.heap.size w w' := by
 have HT1 := ae (fz.new w x);have HF := ae hf;clear hf;go_enter func64, ntmps64;go_upto_region 1 with (first | (refine au rfl (bf rfl rfl) ?_) | fail);generalize w.alloc (.cells (aU x).toArray 35) = w1 at *;refine af ?_;refine ac6 (aX rfl adh (HT1.out.at0)) ?_;refine ay rfl (aD call24 rfl (evc adh evn)) ?_;refine (eD w1 HF).mono ?_;rintro e w2 ⟨rfl, hb⟩;have HT2 := ae (HT1.out.call hb);clear hb HT1;refine bI ?_;refine aP 1 ?_;go_upto_region 2 with fail;refine cI 1 ?_;go_wp2_with fail;go_ret;exact ⟨rfl, HT2.out.bel⟩
theorem rE {x : Ros} {n k : Nat} (hf : a8 x = true) (hn : fF x = n) (hm : kb x = k) (hb : gW x = true) (hg : decide ((2 : Int) <= (n : Int)) = true) (w : World) : Calls prog 64 #[ros x] w fun e w' => e = .returned (.int .i64 5) /\ Below w.heap.size w w' := by
 have HT1 := ae (fz.new w x);have HF := ae hf;have HN := ae hn;have HM := ae hm;have HB := ae hb;have HG := ae hg;clear hf hn hm hb hg;go_enter func64, ntmps64;go_upto_region 1 with (first | (refine au rfl (bf rfl rfl) ?_) | fail);generalize w.alloc (.cells (aU x).toArray 35) = w1 at *;refine af ?_;refine ac6 (aX rfl adh (HT1.out.at0)) ?_;refine ay rfl (aD call24 rfl (evc adh evn)) ?_;refine (eD w1 HF).mono ?_;rintro e w2 ⟨rfl, hb⟩;have HT2 := ae (HT1.out.call hb);clear hb HT1;refine bI ?_;refine aP 1 ?_;go_upto_region 3 with fail;refine af ?_;refine ac6 (aX rfl adh (HT2.out.at0)) ?_;refine ay rfl (aD call31 rfl (evc adh evn)) ?_;refine (fd w2 HN).mono ?_;rintro e w3 ⟨rfl, hb⟩;have HT3 := ae (HT2.out.call hb);clear hb HT2;refine bI ?_;refine aP 1 ?_;go_upto_region 4 with fail;refine af ?_;refine ac6 (aX rfl adh (HT3.out.at0)) ?_;refine ay rfl (aD call88 rfl (evc adh evn)) ?_;refine (et w3 HM HB).mono ?_;rintro e w4 ⟨rfl, hb⟩;have HT4 := ae (HT3.out.call hb);clear hb HT3;refine bI ?_;refine runs 3 ?_;refine aP 2 ?_;go_upto_region 5 with fail;refine bn 1 ?_;refine ac6 (cn true rfl adh evk HG) ?_;refine aI 6 rfl (aL rfl adh) (by kernel_rfl) ?_;simp only [bj, ac, aa];refine aP 1 ?_;go_upto_region 6 with fail;refine cI 1 ?_;go_wp2_with fail;go_ret;exact ⟨rfl, HT4.out.bel⟩
theorem sg {x : Ros} {n k : Nat} (hf : a8 x = true) (hn : fF x = n) (hm : kb x = k) (hb : gW x = true) (hg : decide ((2 : Int) <= (n : Int)) = false) (h1 : ((n : Int) == 1) = true) (ho : x.gone = true) (w : World) : Calls prog 64 #[ros x] w fun e w' => e = .returned (.int .i64 5) /\ Below w.heap.size w w' := by
 have HT1 := ae (fz.new w x);have HF := ae hf;have HN := ae hn;have HM := ae hm;have HB := ae hb;have HG := ae hg;have H1 := ae h1;have HO := ae ho;clear hf hn hm hb hg h1 ho;go_enter func64, ntmps64;go_upto_region 1 with (first | (refine au rfl (bf rfl rfl) ?_) | fail);generalize w.alloc (.cells (aU x).toArray 35) = w1 at *;refine af ?_;refine ac6 (aX rfl adh (HT1.out.at0)) ?_;refine ay rfl (aD call24 rfl (evc adh evn)) ?_;refine (eD w1 HF).mono ?_;rintro e w2 ⟨rfl, hb⟩;have HT2 := ae (HT1.out.call hb);clear hb HT1;refine bI ?_;refine aP 1 ?_;go_upto_region 3 with fail;refine af ?_;refine ac6 (aX rfl adh (HT2.out.at0)) ?_;refine ay rfl (aD call31 rfl (evc adh evn)) ?_;refine (fd w2 HN).mono ?_;rintro e w3 ⟨rfl, hb⟩;have HT3 := ae (HT2.out.call hb);clear hb HT2;refine bI ?_;refine aP 1 ?_;go_upto_region 4 with fail;refine af ?_;refine ac6 (aX rfl adh (HT3.out.at0)) ?_;refine ay rfl (aD call88 rfl (evc adh evn)) ?_;refine (et w3 HM HB).mono ?_;rintro e w4 ⟨rfl, hb⟩;have HT4 := ae (HT3.out.call hb);clear hb HT3;refine bI ?_;refine runs 3 ?_;refine aP 2 ?_;go_upto_region 5 with fail;refine bn 1 ?_;refine ac6 (cn false rfl adh evk HG) ?_;refine runs 2 ?_;refine ade (aG true rfl adh evk H1) ?_;refine runs 1 ?_;refine ade (ax rfl adh mM) ?_;refine ade (aE rfl adh (mL (HO.out ▸ HT4.out.at0.cells.2.2.2.2))) ?_;refine aP 2 ?_;go_upto_region 6 with fail;refine cI 1 ?_;go_wp2_with fail;go_ret;exact ⟨rfl, HT4.out.bel⟩
theorem tF {x : Ros} {n k : Nat} (hf : a8 x = true) (hn : fF x = n) (hm : kb x = k) (hb : gW x = true) (hg : decide ((2 : Int) <= (n : Int)) = false) (h1 : ((n : Int) == 1) = false) (ho : x.gone = true) (w : World) : Calls prog 64 #[ros x] w fun e w' => e = .returned (.int .i64 4) /\ Below w.heap.size w w' := by
 have HT1 := ae (fz.new w x);have HF := ae hf;have HN := ae hn;have HM := ae hm;have HB := ae hb;have HG := ae hg;have H1 := ae h1;have HO := ae ho;clear hf hn hm hb hg h1 ho;go_enter func64, ntmps64;go_upto_region 1 with (first | (refine au rfl (bf rfl rfl) ?_) | fail);generalize w.alloc (.cells (aU x).toArray 35) = w1 at *;refine af ?_;refine ac6 (aX rfl adh (HT1.out.at0)) ?_;refine ay rfl (aD call24 rfl (evc adh evn)) ?_;refine (eD w1 HF).mono ?_;rintro e w2 ⟨rfl, hb⟩;have HT2 := ae (HT1.out.call hb);clear hb HT1;refine bI ?_;refine aP 1 ?_;go_upto_region 3 with fail;refine af ?_;refine ac6 (aX rfl adh (HT2.out.at0)) ?_;refine ay rfl (aD call31 rfl (evc adh evn)) ?_;refine (fd w2 HN).mono ?_;rintro e w3 ⟨rfl, hb⟩;have HT3 := ae (HT2.out.call hb);clear hb HT2;refine bI ?_;refine aP 1 ?_;go_upto_region 4 with fail;refine af ?_;refine ac6 (aX rfl adh (HT3.out.at0)) ?_;refine ay rfl (aD call88 rfl (evc adh evn)) ?_;refine (et w3 HM HB).mono ?_;rintro e w4 ⟨rfl, hb⟩;have HT4 := ae (HT3.out.call hb);clear hb HT3;refine bI ?_;refine runs 3 ?_;refine aP 2 ?_;go_upto_region 5 with fail;refine bn 1 ?_;refine ac6 (cn false rfl adh evk HG) ?_;refine runs 2 ?_;refine ade (aG false rfl adh evk H1) ?_;refine aI 2 ac1 (aL rfl adh) (by kernel_rfl) ?_;simp only [bj, ac, aa];refine aP 2 ?_;go_upto_region 7 with fail;refine af ?_;refine ac6 (ax rfl adh mM) ?_;refine ac6 (aE rfl adh (mL (HO.out ▸ HT4.out.at0.cells.2.2.2.2))) ?_;refine ag ?_;go_upto_region 8 with fail;refine cI 1 ?_;go_wp2_with fail;go_ret;exact ⟨rfl, HT4.out.bel⟩
theorem sr {x : Ros} {n k : Nat} (hf : a8 x = true) (hn : fF x = n) (hm : kb x = k) (hb : gW x = false) (hg : decide ((2 : Int) <= (n : Int)) = true) (w : World) : Calls prog 64 #[ros x] w fun e w' => e = .returned (.int .i64 5) /\ Below w.heap.size w w' := by
 have HT1 := ae (fz.new w x);have HF := ae hf;have HN := ae hn;have HM := ae hm;have HB := ae hb;have HG := ae hg;clear hf hn hm hb hg;go_enter func64, ntmps64;go_upto_region 1 with (first | (refine au rfl (bf rfl rfl) ?_) | fail);generalize w.alloc (.cells (aU x).toArray 35) = w1 at *;refine af ?_;refine ac6 (aX rfl adh (HT1.out.at0)) ?_;refine ay rfl (aD call24 rfl (evc adh evn)) ?_;refine (eD w1 HF).mono ?_;rintro e w2 ⟨rfl, hb⟩;have HT2 := ae (HT1.out.call hb);clear hb HT1;refine bI ?_;refine aP 1 ?_;go_upto_region 3 with fail;refine af ?_;refine ac6 (aX rfl adh (HT2.out.at0)) ?_;refine ay rfl (aD call31 rfl (evc adh evn)) ?_;refine (fd w2 HN).mono ?_;rintro e w3 ⟨rfl, hb⟩;have HT3 := ae (HT2.out.call hb);clear hb HT2;refine bI ?_;refine aP 1 ?_;go_upto_region 4 with fail;refine af ?_;refine ac6 (aX rfl adh (HT3.out.at0)) ?_;refine ay rfl (aD call88 rfl (evc adh evn)) ?_;refine (et w3 HM HB).mono ?_;rintro e w4 ⟨rfl, hb⟩;have HT4 := ae (HT3.out.call hb);clear hb HT3;refine bI ?_;refine runs 3 ?_;refine aP 2 ?_;go_upto_region 5 with fail;refine bn 1 ?_;refine ac6 (cn true rfl adh evk HG) ?_;refine aI 6 rfl (aL rfl adh) (by kernel_rfl) ?_;simp only [bj, ac, aa];refine aP 1 ?_;go_upto_region 6 with fail;refine cI 1 ?_;go_wp2_with fail;go_ret;exact ⟨rfl, HT4.out.bel⟩
theorem qF {x : Ros} {n k : Nat} (hf : a8 x = true) (hn : fF x = n) (hm : kb x = k) (hb : gW x = false) (hg : decide ((2 : Int) <= (n : Int)) = false) (h1 : ((n : Int) == 1) = true) (ho : x.gone = true) (w : World) : Calls prog 64 #[ros x] w fun e w' => e = .returned (.int .i64 5) /\ Below w.heap.size w w' := by
 have HT1 := ae (fz.new w x);have HF := ae hf;have HN := ae hn;have HM := ae hm;have HB := ae hb;have HG := ae hg;have H1 := ae h1;have HO := ae ho;clear hf hn hm hb hg h1 ho;go_enter func64, ntmps64;go_upto_region 1 with (first | (refine au rfl (bf rfl rfl) ?_) | fail);generalize w.alloc (.cells (aU x).toArray 35) = w1 at *;refine af ?_;refine ac6 (aX rfl adh (HT1.out.at0)) ?_;refine ay rfl (aD call24 rfl (evc adh evn)) ?_;refine (eD w1 HF).mono ?_;rintro e w2 ⟨rfl, hb⟩;have HT2 := ae (HT1.out.call hb);clear hb HT1;refine bI ?_;refine aP 1 ?_;go_upto_region 3 with fail;refine af ?_;refine ac6 (aX rfl adh (HT2.out.at0)) ?_;refine ay rfl (aD call31 rfl (evc adh evn)) ?_;refine (fd w2 HN).mono ?_;rintro e w3 ⟨rfl, hb⟩;have HT3 := ae (HT2.out.call hb);clear hb HT2;refine bI ?_;refine aP 1 ?_;go_upto_region 4 with fail;refine af ?_;refine ac6 (aX rfl adh (HT3.out.at0)) ?_;refine ay rfl (aD call88 rfl (evc adh evn)) ?_;refine (et w3 HM HB).mono ?_;rintro e w4 ⟨rfl, hb⟩;have HT4 := ae (HT3.out.call hb);clear hb HT3;refine bI ?_;refine runs 3 ?_;refine aP 2 ?_;go_upto_region 5 with fail;refine bn 1 ?_;refine ac6 (cn false rfl adh evk HG) ?_;refine runs 2 ?_;refine ade (aG true rfl adh evk H1) ?_;refine runs 1 ?_;refine ade (ax rfl adh mM) ?_;refine ade (aE rfl adh (mL (HO.out ▸ HT4.out.at0.cells.2.2.2.2))) ?_;refine aP 2 ?_;go_upto_region 6 with fail;refine cI 1 ?_;go_wp2_with fail;go_ret;exact ⟨rfl, HT4.out.bel⟩
theorem t7 {x : Ros} {n k : Nat} (hf : a8 x = true) (hn : fF x = n) (hm : kb x = k) (hb : gW x = false) (hg : decide ((2 : Int) <= (n : Int)) = false) (h1 : ((n : Int) == 1) = false) (ho : x.gone = true) (w : World) : Calls prog 64 #[ros x] w fun e w' => e = .returned (.int .i64 4) /\ Below w.heap.size w w' := by
 have HT1 := ae (fz.new w x);have HF := ae hf;have HN := ae hn;have HM := ae hm;have HB := ae hb;have HG := ae hg;have H1 := ae h1;have HO := ae ho;clear hf hn hm hb hg h1 ho;go_enter func64, ntmps64;go_upto_region 1 with (first | (refine au rfl (bf rfl rfl) ?_) | fail);generalize w.alloc (.cells (aU x).toArray 35) = w1 at *;refine af ?_;refine ac6 (aX rfl adh (HT1.out.at0)) ?_;refine ay rfl (aD call24 rfl (evc adh evn)) ?_;refine (eD w1 HF).mono ?_;rintro e w2 ⟨rfl, hb⟩;have HT2 := ae (HT1.out.call hb);clear hb HT1;refine bI ?_;refine aP 1 ?_;go_upto_region 3 with fail;refine af ?_;refine ac6 (aX rfl adh (HT2.out.at0)) ?_;refine ay rfl (aD call31 rfl (evc adh evn)) ?_;refine (fd w2 HN).mono ?_;rintro e w3 ⟨rfl, hb⟩;have HT3 := ae (HT2.out.call hb);clear hb HT2;refine bI ?_;refine aP 1 ?_;go_upto_region 4 with fail;refine af ?_;refine ac6 (aX rfl adh (HT3.out.at0)) ?_;refine ay rfl (aD call88 rfl (evc adh evn)) ?_;refine (et w3 HM HB).mono ?_;rintro e w4 ⟨rfl, hb⟩;have HT4 := ae (HT3.out.call hb);clear hb HT3;refine bI ?_;refine runs 3 ?_;refine aP 2 ?_;go_upto_region 5 with fail;refine bn 1 ?_;refine ac6 (cn false rfl adh evk HG) ?_;refine runs 2 ?_;refine ade (aG false rfl adh evk H1) ?_;refine aI 2 ac1 (aL rfl adh) (by kernel_rfl) ?_;simp only [bj, ac, aa];refine aP 2 ?_;go_upto_region 7 with fail;refine af ?_;refine ac6 (ax rfl adh mM) ?_;refine ac6 (aE rfl adh (mL (HO.out ▸ HT4.out.at0.cells.2.2.2.2))) ?_;refine ag ?_;go_upto_region 8 with fail;refine cI 1 ?_;go_wp2_with fail;go_ret;exact ⟨rfl, HT4.out.bel⟩
theorem tT {x : Ros} {n k : Nat} (hf : a8 x = true) (hn : fF x = n) (hm : kb x = k) (hb : gW x = true) (hg : decide ((2 : Int) <= (n : Int)) = false) (h1 : ((n : Int) == 1) = true) (ho : x.gone = false) (w : World) : Calls prog 64 #[ros x] w fun e w' => e = .returned (.int .i64 3) /\ Below w.heap.size w w' := by
 have HT1 := ae (fz.new w x);have HF := ae hf;have HN := ae hn;have HM := ae hm;have HB := ae hb;have HG := ae hg;have H1 := ae h1;have HO := ae ho;clear hf hn hm hb hg h1 ho;go_enter func64, ntmps64;go_upto_region 1 with (first | (refine au rfl (bf rfl rfl) ?_) | fail);generalize w.alloc (.cells (aU x).toArray 35) = w1 at *;refine af ?_;refine ac6 (aX rfl adh (HT1.out.at0)) ?_;refine ay rfl (aD call24 rfl (evc adh evn)) ?_;refine (eD w1 HF).mono ?_;rintro e w2 ⟨rfl, hb⟩;have HT2 := ae (HT1.out.call hb);clear hb HT1;refine bI ?_;refine aP 1 ?_;go_upto_region 3 with fail;refine af ?_;refine ac6 (aX rfl adh (HT2.out.at0)) ?_;refine ay rfl (aD call31 rfl (evc adh evn)) ?_;refine (fd w2 HN).mono ?_;rintro e w3 ⟨rfl, hb⟩;have HT3 := ae (HT2.out.call hb);clear hb HT2;refine bI ?_;refine aP 1 ?_;go_upto_region 4 with fail;refine af ?_;refine ac6 (aX rfl adh (HT3.out.at0)) ?_;refine ay rfl (aD call88 rfl (evc adh evn)) ?_;refine (et w3 HM HB).mono ?_;rintro e w4 ⟨rfl, hb⟩;have HT4 := ae (HT3.out.call hb);clear hb HT3;refine bI ?_;refine runs 3 ?_;refine aP 2 ?_;go_upto_region 5 with fail;refine bn 1 ?_;refine ac6 (cn false rfl adh evk HG) ?_;refine runs 2 ?_;refine ade (aG true rfl adh evk H1) ?_;refine runs 1 ?_;refine ade (ax rfl adh mM) ?_;refine ade (aE rfl adh (mL (HO.out ▸ HT4.out.at0.cells.2.2.2.2))) ?_;refine aP 2 ?_;go_upto_region 7 with fail;refine af ?_;refine ac6 (ax rfl adh mM) ?_;refine ac6 (aE rfl adh (mL (HO.out ▸ HT4.out.at0.cells.2.2.2.2))) ?_;refine ag ?_;go_upto_region 9 with fail;refine cI 1 ?_;go_upto_region 10 with fail;refine cI 1 ?_;go_wp2_with fail;go_ret;exact ⟨rfl, HT4.out.bel⟩
theorem uT {x : Ros} {n k : Nat} (hf : a8 x = true) (hn : fF x = n) (hm : kb x = k) (hb : gW x = true) (hg : decide ((2 : Int) <= (n : Int)) = false) (h1 : ((n : Int) == 1) = false) (ho : x.gone = false) (w : World) : Calls prog 64 #[ros x] w fun e w' => e = .returned (.int .i64 3) /\ Below w.heap.size w w' := by
 have HT1 := ae (fz.new w x);have HF := ae hf;have HN := ae hn;have HM := ae hm;have HB := ae hb;have HG := ae hg;have H1 := ae h1;have HO := ae ho;clear hf hn hm hb hg h1 ho;go_enter func64, ntmps64;go_upto_region 1 with (first | (refine au rfl (bf rfl rfl) ?_) | fail);generalize w.alloc (.cells (aU x).toArray 35) = w1 at *;refine af ?_;refine ac6 (aX rfl adh (HT1.out.at0)) ?_;refine ay rfl (aD call24 rfl (evc adh evn)) ?_;refine (eD w1 HF).mono ?_;rintro e w2 ⟨rfl, hb⟩;have HT2 := ae (HT1.out.call hb);clear hb HT1;refine bI ?_;refine aP 1 ?_;go_upto_region 3 with fail;refine af ?_;refine ac6 (aX rfl adh (HT2.out.at0)) ?_;refine ay rfl (aD call31 rfl (evc adh evn)) ?_;refine (fd w2 HN).mono ?_;rintro e w3 ⟨rfl, hb⟩;have HT3 := ae (HT2.out.call hb);clear hb HT2;refine bI ?_;refine aP 1 ?_;go_upto_region 4 with fail;refine af ?_;refine ac6 (aX rfl adh (HT3.out.at0)) ?_;refine ay rfl (aD call88 rfl (evc adh evn)) ?_;refine (et w3 HM HB).mono ?_;rintro e w4 ⟨rfl, hb⟩;have HT4 := ae (HT3.out.call hb);clear hb HT3;refine bI ?_;refine runs 3 ?_;refine aP 2 ?_;go_upto_region 5 with fail;refine bn 1 ?_;refine ac6 (cn false rfl adh evk HG) ?_;refine runs 2 ?_;refine ade (aG false rfl adh evk H1) ?_;refine aI 2 ac1 (aL rfl adh) (by kernel_rfl) ?_;simp only [bj, ac, aa];refine aP 2 ?_;go_upto_region 7 with fail;refine af ?_;refine ac6 (ax rfl adh mM) ?_;refine ac6 (aE rfl adh (mL (HO.out ▸ HT4.out.at0.cells.2.2.2.2))) ?_;refine ag ?_;go_upto_region 9 with fail;refine cI 1 ?_;go_upto_region 10 with fail;refine cI 1 ?_;go_wp2_with fail;go_ret;exact ⟨rfl, HT4.out.bel⟩
theorem vy {x : Ros} {n k : Nat} (hf : a8 x = true) (hn : fF x = n) (hm : kb x = k) (hb : gW x = false) (hg : decide ((2 : Int) <= (n : Int)) = false) (h1 : ((n : Int) == 1) = true) (ho : x.gone = false) (w : World) : Calls prog 64 #[ros x] w fun e w' => e = .returned (.int .i64 2) /\ Below w.heap.size w w' := by
 have HT1 := ae (fz.new w x);have HF := ae hf;have HN := ae hn;have HM := ae hm;have HB := ae hb;have HG := ae hg;have H1 := ae h1;have HO := ae ho;clear hf hn hm hb hg h1 ho;go_enter func64, ntmps64;go_upto_region 1 with (first | (refine au rfl (bf rfl rfl) ?_) | fail);generalize w.alloc (.cells (aU x).toArray 35) = w1 at *;refine af ?_;refine ac6 (aX rfl adh (HT1.out.at0)) ?_;refine ay rfl (aD call24 rfl (evc adh evn)) ?_;refine (eD w1 HF).mono ?_;rintro e w2 ⟨rfl, hb⟩;have HT2 := ae (HT1.out.call hb);clear hb HT1;refine bI ?_;refine aP 1 ?_;go_upto_region 3 with fail;refine af ?_;refine ac6 (aX rfl adh (HT2.out.at0)) ?_;refine ay rfl (aD call31 rfl (evc adh evn)) ?_;refine (fd w2 HN).mono ?_;rintro e w3 ⟨rfl, hb⟩;have HT3 := ae (HT2.out.call hb);clear hb HT2;refine bI ?_;refine aP 1 ?_;go_upto_region 4 with fail;refine af ?_;refine ac6 (aX rfl adh (HT3.out.at0)) ?_;refine ay rfl (aD call88 rfl (evc adh evn)) ?_;refine (et w3 HM HB).mono ?_;rintro e w4 ⟨rfl, hb⟩;have HT4 := ae (HT3.out.call hb);clear hb HT3;refine bI ?_;refine runs 3 ?_;refine aP 2 ?_;go_upto_region 5 with fail;refine bn 1 ?_;refine ac6 (cn false rfl adh evk HG) ?_;refine runs 2 ?_;refine ade (aG true rfl adh evk H1) ?_;refine runs 1 ?_;refine ade (ax rfl adh mM) ?_;refine ade (aE rfl adh (mL (HO.out ▸ HT4.out.at0.cells.2.2.2.2))) ?_;refine aP 2 ?_;go_upto_region 7 with fail;refine af ?_;refine ac6 (ax rfl adh mM) ?_;refine ac6 (aE rfl adh (mL (HO.out ▸ HT4.out.at0.cells.2.2.2.2))) ?_;refine ag ?_;go_upto_region 9 with fail;refine cI 1 ?_;go_upto_region 11 with fail;refine bn 1 ?_;refine ac6 (aG true rfl adh evk H1) ?_;refine ag ?_;go_upto_region 12 with fail;refine cI 1 ?_;go_wp2_with fail;go_ret;exact ⟨rfl, HT4.out.bel⟩
theorem wX {x : Ros} {n k : Nat} (hf : a8 x = true) (hn : fF x = n) (hm : kb x = k) (hb : gW x = false) (hg : decide ((2 : Int) <= (n : Int)) = false) (h1 : ((n : Int) == 1) = false) (ho : x.gone = false) (w : World) : Calls prog 64 #[ros x] w fun e w' => e = .returned (.int .i64 1) /\ Below w.heap.size w w' := by
 have HT1 := ae (fz.new w x);have HF := ae hf;have HN := ae hn;have HM := ae hm;have HB := ae hb;have HG := ae hg;have H1 := ae h1;have HO := ae ho;clear hf hn hm hb hg h1 ho;go_enter func64, ntmps64;go_upto_region 1 with (first | (refine au rfl (bf rfl rfl) ?_) | fail);generalize w.alloc (.cells (aU x).toArray 35) = w1 at *;refine af ?_;refine ac6 (aX rfl adh (HT1.out.at0)) ?_;refine ay rfl (aD call24 rfl (evc adh evn)) ?_;refine (eD w1 HF).mono ?_;rintro e w2 ⟨rfl, hb⟩;have HT2 := ae (HT1.out.call hb);clear hb HT1;refine bI ?_;refine aP 1 ?_;go_upto_region 3 with fail;refine af ?_;refine ac6 (aX rfl adh (HT2.out.at0)) ?_;refine ay rfl (aD call31 rfl (evc adh evn)) ?_;refine (fd w2 HN).mono ?_;rintro e w3 ⟨rfl, hb⟩;have HT3 := ae (HT2.out.call hb);clear hb HT2;refine bI ?_;refine aP 1 ?_;go_upto_region 4 with fail;refine af ?_;refine ac6 (aX rfl adh (HT3.out.at0)) ?_;refine ay rfl (aD call88 rfl (evc adh evn)) ?_;refine (et w3 HM HB).mono ?_;rintro e w4 ⟨rfl, hb⟩;have HT4 := ae (HT3.out.call hb);clear hb HT3;refine bI ?_;refine runs 3 ?_;refine aP 2 ?_;go_upto_region 5 with fail;refine bn 1 ?_;refine ac6 (cn false rfl adh evk HG) ?_;refine runs 2 ?_;refine ade (aG false rfl adh evk H1) ?_;refine aI 2 ac1 (aL rfl adh) (by kernel_rfl) ?_;simp only [bj, ac, aa];refine aP 2 ?_;go_upto_region 7 with fail;refine af ?_;refine ac6 (ax rfl adh mM) ?_;refine ac6 (aE rfl adh (mL (HO.out ▸ HT4.out.at0.cells.2.2.2.2))) ?_;refine ag ?_;go_upto_region 9 with fail;refine cI 1 ?_;go_upto_region 11 with fail;refine bn 1 ?_;refine ac6 (aG false rfl adh evk H1) ?_;refine ag ?_;go_upto_region 13 with fail;refine cI 1 ?_;go_wp2_with fail;go_ret;exact ⟨rfl, HT4.out.bel⟩
theorem vF {x : Ros} (hf : a8 x = true) : stN x = if 2 <= outs x \/ (outs x = 1 /\ x.gone = true) then 5 else if x.gone = true then 4 else if cF x = 1 then 3 else if outs x = 1 then 2 else 1 := by unfold stN; rw [if_pos hf]
theorem zM {x : Ros} (hf : a8 x = true) : gW x = decide (cF x = 1) := by
 have h1 := (du hf).2.2.1;have h2 := r8 x;unfold gW;rw [hf, Bool.true_and];cases hj : jN x with
 |none => have := h2.1 hj; rw [al (by omega)]; rfl
 |some j =>
  have : cF x ≠ 0 := fun e => by rw [h2.2 e] at hj; cases hj
  rw [am (by omega)]; rfl
theorem vQ (x : Ros) (w : World) : Calls prog 64 #[ros x] w fun e w' => e = .returned (.int .i64 (stN x : Nat)) /\ Below w.heap.size w w' := by
 cases hf : a8 x
 ·rw [show stN x = 0 from by unfold stN; rw [hf]; rfl]; exact wT hf w
 have hm : fF x = outs x := by unfold fF; rw [if_pos hf]
 have hb := zM hf;have ho := rk (du hf).2.1;rw [vF hf];by_cases c1 : 2 <= outs x
 ·rw [if_pos (.inl c1)];cases hq : gW x
  ·exact sr hf hm rfl hq (am (by omega)) w
  ·exact rE hf hm rfl hq (am (by omega)) w
 have hg : decide ((2 : Int) <= (outs x : Int)) = false := al (by omega);cases hgo : x.gone
 ·rw [if_neg (by rintro (h | ⟨_, h⟩); exact c1 h; cases h), if_neg (by decide)];by_cases k1 : cF x = 1
  ·rw [if_pos k1];rw [am k1] at hb;by_cases n1 : outs x = 1
   ·exact tT hf hm rfl hb hg (by rw [n1]; rfl) hgo w
   ·exact uT hf hm rfl hb hg (by simp; omega) hgo w
  ·rw [if_neg k1];rw [al k1] at hb;by_cases n1 : outs x = 1
   ·rw [if_pos n1]; exact vy hf hm rfl hb hg (by rw [n1]; rfl) hgo w
   ·rw [if_neg n1]; exact wX hf hm rfl hb hg (by simp; omega) hgo w
 ·by_cases n1 : outs x = 1
  ·rw [if_pos (.inr ⟨n1, rfl⟩)];cases hq : gW x
   ·exact qF hf hm rfl hq hg (by rw [n1]; rfl) hgo w
   ·exact sg hf hm rfl hq hg (by rw [n1]; rfl) hgo w
  ·rw [if_neg (by omega), if_pos rfl];cases hq : gW x
   ·exact t7 hf hm rfl hq hg (by simp; omega) hgo w
   ·exact tF hf hm rfl hq hg (by simp; omega) hgo w
section
variable (x : Ros) {j : Nat} (hj : j < 16)
include hj
theorem nu : (aU x).set (3 + j) (.int .u8 1) = aU (fo x j 1) := xQ x hj 1
end
theorem tj {y : Ros} {b : Bool} (w : World) (h : a8 y = b) : Calls prog 65 #[ros y] w fun e w' => e = .returned (.bool b) /\ Below w.heap.size w w' := by subst h; exact wn y w
theorem yW {x : Ros} {m : Int} (hf : a8 x = false) (w : World) : Calls prog 63 #[ros x, .int .i64 m] w fun e w' => e = .returned (.tuple #[ros (x), .bool false]) /\ Below w.heap.size w w' := by
 have HT1 := ae (iT.new w x);have HF := ae hf;clear hf;go_enter func63, ntmps63;go_upto_region 1 with (first | (refine au rfl (bf rfl rfl) ?_) | (refine au rfl (cz rfl) ?_) | fail);generalize (w.alloc (.cells (aU x).toArray 35)).alloc (.cells (aU bO).toArray 35) = w1 at *;refine af ?_;refine ac6 (aX rfl adh (HT1.out.at0)) ?_;refine ay rfl (aD call66 rfl (evc adh evn)) ?_;refine (g7 w1 HF).mono ?_;rintro e w2 ⟨rfl, hb⟩;have HT2 := ae (HT1.out.call hb);clear hb HT1;refine bI ?_;refine runs 1 ?_;refine aI 4 rfl (aL rfl adh) (by kernel_rfl) ?_;simp only [bj, ac, aa];refine aP 1 ?_;go_upto_region 2 with fail;refine af ?_;refine ac6 (aX rfl adh (HT2.out.at0)) ?_;refine az rfl (dv rfl (ev rfl) (ev rfl) HT2.out.at1) ?_;simp only [aa];have HT3 := ae (HT2.out.put (x));generalize fZ w2 (w.heap.size + 1) (x) = w3 at HT3 ⊢;clear HT2;refine aP 1 ?_;go_wp2_with fail;exact bodyPost_ret (ja rfl _ _ _ rfl HT3.out.at1) rfl ⟨rfl, HT3.out.bel⟩
theorem yd {x : Ros} {m : Int} (hf : a8 x = true) (hq : fp x m = false) (w : World) : Calls prog 63 #[ros x, .int .i64 m] w fun e w' => e = .returned (.tuple #[ros (x), .bool false]) /\ Below w.heap.size w w' := by
 have HT1 := ae (iT.new w x);have HF := ae hf;have HQ := ae hq;clear hf hq;go_enter func63, ntmps63;go_upto_region 1 with (first | (refine au rfl (bf rfl rfl) ?_) | (refine au rfl (cz rfl) ?_) | fail);generalize (w.alloc (.cells (aU x).toArray 35)).alloc (.cells (aU bO).toArray 35) = w1 at *;refine af ?_;refine ac6 (aX rfl adh (HT1.out.at0)) ?_;refine ay rfl (aD call66 rfl (evc adh evn)) ?_;refine (g7 w1 HF).mono ?_;rintro e w2 ⟨rfl, hb⟩;have HT2 := ae (HT1.out.call hb);clear hb HT1;refine bI ?_;refine runs 2 ?_;refine ade (aX rfl adh (HT2.out.at0)) ?_;refine runs 1 ?_;refine ay ac1 (aD call87 rfl (evc adh (evc adh evn))) ?_;refine (iK w2 HQ).mono ?_;rintro e w3 ⟨rfl, hb⟩;have HT3 := ae (HT2.out.call hb);clear hb HT2;refine bI ?_;refine aP 2 ?_;go_upto_region 2 with fail;refine af ?_;refine ac6 (aX rfl adh (HT3.out.at0)) ?_;refine az rfl (dv rfl (ev rfl) (ev rfl) HT3.out.at1) ?_;simp only [aa];have HT4 := ae (HT3.out.put (x));generalize fZ w3 (w.heap.size + 1) (x) = w4 at HT4 ⊢;clear HT3;refine aP 1 ?_;go_wp2_with fail;exact bodyPost_ret (ja rfl _ _ _ rfl HT4.out.at1) rfl ⟨rfl, HT4.out.bel⟩
theorem yF {x : Ros} {j : Nat} (hj : j < 16) (hf : a8 x = true) (hq : fp x (j : Int) = true) (h1 : (sta x j == 1) = true) (w : World) : Calls prog 63 #[ros x, .int .i64 (j : Int)] w fun e w' => e = .returned (.tuple #[ros (x), .bool false]) /\ Below w.heap.size w w' := by
 have HT1 := ae (iT.new w x);have HF := ae hf;have HQ := ae hq;have H1 := ae h1;clear hf hq h1;go_enter func63, ntmps63;go_upto_region 1 with (first | (refine au rfl (bf rfl rfl) ?_) | (refine au rfl (cz rfl) ?_) | fail);generalize (w.alloc (.cells (aU x).toArray 35)).alloc (.cells (aU bO).toArray 35) = w1 at *;refine af ?_;refine ac6 (aX rfl adh (HT1.out.at0)) ?_;refine ay rfl (aD call66 rfl (evc adh evn)) ?_;refine (g7 w1 HF).mono ?_;rintro e w2 ⟨rfl, hb⟩;have HT2 := ae (HT1.out.call hb);clear hb HT1;refine bI ?_;refine runs 2 ?_;refine ade (aX rfl adh (HT2.out.at0)) ?_;refine runs 1 ?_;refine ay ac1 (aD call87 rfl (evc adh (evc adh evn))) ?_;refine (iK w2 HQ).mono ?_;rintro e w3 ⟨rfl, hb⟩;have HT3 := ae (HT2.out.call hb);clear hb HT2;refine bI ?_;refine aP 2 ?_;go_upto_region 3 with fail;refine bn 1 ?_;refine ac6 (ax rfl adh kU) ?_;refine ac6 (cN rfl adh adh (oG hj)) ?_;refine ac6 (aE rfl adh (pK ((HT3.out.at0).sta hj))) ?_;refine ag ?_;go_upto_region 4 with fail;refine af ?_;refine ac6 (aG true rfl adh evk H1) ?_;refine aP 1 ?_;go_upto_region 5 with fail;refine af ?_;refine ac6 (aX rfl adh (HT3.out.at0)) ?_;refine az rfl (dv rfl (ev rfl) (ev rfl) HT3.out.at1) ?_;simp only [aa];have HT4 := ae (HT3.out.put (x));generalize fZ w3 (w.heap.size + 1) (x) = w4 at HT4 ⊢;clear HT3;refine aP 1 ?_;go_wp2_with fail;exact bodyPost_ret (ja rfl _ _ _ rfl HT4.out.at1) rfl ⟨rfl, HT4.out.bel⟩
theorem zR {x : Ros} {j : Nat} (hj : j < 16) (hf : a8 x = true) (hq : fp x (j : Int) = true) (h1 : (sta x j == 1) = false) (h2 : (sta x j == 2) = true) (w : World) : Calls prog 63 #[ros x, .int .i64 (j : Int)] w fun e w' => e = .returned (.tuple #[ros (fo (ko x 0) j 1), .bool true]) /\ Below w.heap.size w w' := by
 have HT1 := ae (iT.new w x);have HF := ae hf;have HQ := ae hq;have H1 := ae h1;have H2 := ae h2;clear hf hq h1 h2;go_enter func63, ntmps63;go_upto_region 1 with (first | (refine au rfl (bf rfl rfl) ?_) | (refine au rfl (cz rfl) ?_) | fail);generalize (w.alloc (.cells (aU x).toArray 35)).alloc (.cells (aU bO).toArray 35) = w1 at *;refine af ?_;refine ac6 (aX rfl adh (HT1.out.at0)) ?_;refine ay rfl (aD call66 rfl (evc adh evn)) ?_;refine (g7 w1 HF).mono ?_;rintro e w2 ⟨rfl, hb⟩;have HT2 := ae (HT1.out.call hb);clear hb HT1;refine bI ?_;refine runs 2 ?_;refine ade (aX rfl adh (HT2.out.at0)) ?_;refine runs 1 ?_;refine ay ac1 (aD call87 rfl (evc adh (evc adh evn))) ?_;refine (iK w2 HQ).mono ?_;rintro e w3 ⟨rfl, hb⟩;have HT3 := ae (HT2.out.call hb);clear hb HT2;refine bI ?_;refine aP 2 ?_;go_upto_region 3 with fail;refine bn 1 ?_;refine ac6 (ax rfl adh kU) ?_;refine ac6 (cN rfl adh adh (oG hj)) ?_;refine ac6 (aE rfl adh (pK ((HT3.out.at0).sta hj))) ?_;refine ag ?_;go_upto_region 4 with fail;refine af ?_;refine ac6 (aG false rfl adh evk H1) ?_;refine aP 1 ?_;go_upto_region 6 with fail;refine af ?_;refine ac6 (aG true rfl adh evk H2) ?_;refine aP 1 ?_;go_upto_region 7 with fail;refine af ?_;refine ac6 (ax rfl adh uQ) ?_;refine az rfl (vY rfl (ev rfl) evk (HT3.out.at0.there (by omega))) ?_;simp only [aa];have HT4 := ae (HT3.out.set (wM _ (0)));generalize setW w3 w.heap.size (19) (.int .i64 (0)) = w4 at HT4 ⊢;clear HT3;refine ag ?_;go_upto_region 8 with fail;refine bn 1 ?_;refine ac6 (ax rfl adh kU) ?_;refine ac6 (cN rfl adh adh (oG hj)) ?_;refine az rfl (pl rfl (ev rfl) evk (HT4.out.at0.there (by omega))) ?_;simp only [aa];have HT5 := ae (HT4.out.set (nu _ hj));generalize setW w4 w.heap.size (3 + j) (.int .u8 1) = w5 at HT5 ⊢;clear HT4;refine ag ?_;go_upto_region 9 with fail;refine af ?_;refine ac6 (aX rfl adh (HT5.out.at0)) ?_;refine az rfl (dv rfl (ev rfl) (ev rfl) HT5.out.at1) ?_;simp only [aa];have HT6 := ae (HT5.out.put (fo (ko x 0) j 1));generalize fZ w5 (w.heap.size + 1) (fo (ko x 0) j 1) = w6 at HT6 ⊢;clear HT5;refine aP 1 ?_;go_wp2_with fail;exact bodyPost_ret (ja rfl _ _ _ rfl HT6.out.at1) rfl ⟨rfl, HT6.out.bel⟩
theorem yq {x : Ros} {j : Nat} (hj : j < 16) (hf : a8 x = true) (hq : fp x (j : Int) = true) (h1 : (sta x j == 1) = false) (h2 : (sta x j == 2) = false) (w : World) : Calls prog 63 #[ros x, .int .i64 (j : Int)] w fun e w' => e = .returned (.tuple #[ros (fo x j 1), .bool true]) /\ Below w.heap.size w w' := by
 have HT1 := ae (iT.new w x);have HF := ae hf;have HQ := ae hq;have H1 := ae h1;have H2 := ae h2;clear hf hq h1 h2;go_enter func63, ntmps63;go_upto_region 1 with (first | (refine au rfl (bf rfl rfl) ?_) | (refine au rfl (cz rfl) ?_) | fail);generalize (w.alloc (.cells (aU x).toArray 35)).alloc (.cells (aU bO).toArray 35) = w1 at *;refine af ?_;refine ac6 (aX rfl adh (HT1.out.at0)) ?_;refine ay rfl (aD call66 rfl (evc adh evn)) ?_;refine (g7 w1 HF).mono ?_;rintro e w2 ⟨rfl, hb⟩;have HT2 := ae (HT1.out.call hb);clear hb HT1;refine bI ?_;refine runs 2 ?_;refine ade (aX rfl adh (HT2.out.at0)) ?_;refine runs 1 ?_;refine ay ac1 (aD call87 rfl (evc adh (evc adh evn))) ?_;refine (iK w2 HQ).mono ?_;rintro e w3 ⟨rfl, hb⟩;have HT3 := ae (HT2.out.call hb);clear hb HT2;refine bI ?_;refine aP 2 ?_;go_upto_region 3 with fail;refine bn 1 ?_;refine ac6 (ax rfl adh kU) ?_;refine ac6 (cN rfl adh adh (oG hj)) ?_;refine ac6 (aE rfl adh (pK ((HT3.out.at0).sta hj))) ?_;refine ag ?_;go_upto_region 4 with fail;refine af ?_;refine ac6 (aG false rfl adh evk H1) ?_;refine aP 1 ?_;go_upto_region 6 with fail;refine af ?_;refine ac6 (aG false rfl adh evk H2) ?_;refine aP 1 ?_;go_upto_region 8 with fail;refine bn 1 ?_;refine ac6 (ax rfl adh kU) ?_;refine ac6 (cN rfl adh adh (oG hj)) ?_;refine az rfl (pl rfl (ev rfl) evk (HT3.out.at0.there (by omega))) ?_;simp only [aa];have HT4 := ae (HT3.out.set (nu _ hj));generalize setW w3 w.heap.size (3 + j) (.int .u8 1) = w4 at HT4 ⊢;clear HT3;refine ag ?_;go_upto_region 9 with fail;refine af ?_;refine ac6 (aX rfl adh (HT4.out.at0)) ?_;refine az rfl (dv rfl (ev rfl) (ev rfl) HT4.out.at1) ?_;simp only [aa];have HT5 := ae (HT4.out.put (fo x j 1));generalize fZ w4 (w.heap.size + 1) (fo x j 1) = w5 at HT5 ⊢;clear HT4;refine aP 1 ?_;go_wp2_with fail;exact bodyPost_ret (ja rfl _ _ _ rfl HT5.out.at1) rfl ⟨rfl, HT5.out.bel⟩
theorem z9 (x : Ros) (m : Int) (w : World) : Calls prog 63 #[ros x, .int .i64 m] w fun e w' => e = .returned (.tuple #[ros (dh x m), .bool (iV x m)]) /\ Below w.heap.size w w' := by
 unfold dh;cases hf : a8 x
 ·rw [show iV x m = false from by unfold iV; rw [hf]; rfl]; exact yW hf w
 cases hq : fp x m
 ·rw [show iV x m = false from by unfold iV; rw [hf, hq]; rfl]; exact yd hf hq w
 have hm := oh hq;have hg := ez (du hf).1;obtain ⟨j, rfl⟩ := Int.eq_ofNat_of_zero_le hm.1;have hj : j < 16 := by omega
 have e : iV x (j : Int) = decide (sta x j ≠ 1) := by unfold iV; rw [hf, hq]; rfl
 rw [e];by_cases h1 : sta x j = 1
 ·rw [al (by simpa using h1)]; exact yF hj hf hq (by simpa using h1) w
 rw [am (by simpa using h1), if_pos rfl]
 show Calls _ _ _ _ fun e w' => e = .returned (.tuple #[ros (if sta x j = 2 then fo (ko x 0) j 1 else fo x j 1), .bool true]) /\ Below w.heap.size w w'
 by_cases h2 : sta x j = 2
 ·rw [if_pos h2]; exact zR hj hf hq (by simpa using h1) (by simpa using h2) w
 ·rw [if_neg h2]; exact yq hj hf hq (by simpa using h1) (by simpa using h2) w
theorem acW (w : World) (y : Ros) : (w.alloc (.cells (cU y).toArray 32)).heap[w.heap.size]? = some (.cells (cU y).toArray 32 (0, 0)) := heap_alloc_new w _
structure ku (w0 w : World) (y z : Ros) : Prop where
 bel : Below w0.heap.size w0 w
 at0 : w.rangeAt w0.heap.size 0 (cU y)
 lt0 : w0.heap.size < w.heap.size
 at1 : bF w (w0.heap.size + 1) z
theorem ku.new (w : World) (y : Ros) : ku w ((w.alloc (.cells (cU y).toArray 32)).alloc (.cells (aU bO).toArray 35)) y bO := by
 refine ⟨((Below.refl _ w).alloc ai _).alloc (by simp) _, br (t := 32) (bv (acW w y) _), by simp only [World.size_alloc]; omega, ?_⟩;have := bF.new (w.alloc (.cells (cU y).toArray 32)) bO;rwa [World.size_alloc] at this
section
variable {w0 w w' : World} {y z : Ros}
theorem ku.call (h : ku w0 w y z) (hb : Below w.heap.size w w') : ku w0 w' y z :=
 ⟨h.bel.trans (hb.mono h.bel.size), eK h.at0 h.lt0 hb, aq h.lt0 hb.size, h.at1.below (aW h.at1) hb⟩
theorem ku.put (h : ku w0 w y z) (z' : Ros) : ku w0 (fZ w (w0.heap.size + 1) z') y z' :=
 ⟨gD h.bel (by omega), (fun j v hj => by
  have := World.rangeAt_setCells_apart h.at0 (w0.heap.size + 1) 0 (aU z') (.inl (by omega));exact this j v hj), by rw [nq]; exact h.lt0, iM h.at1⟩
end
section
variable {ρ : Operand -> Value} {o : Oper} {x : Operand} {w : World}
theorem jW {y : Ros} (ho : o.op = .box 32 x) (hx : ρ x = geo y) : (execOp ρ o).run prog w = .ok (.value (.pointer (some ⟨w.heap.size, 0, none⟩))) (w.alloc (.cells (cU y).toArray 32)) := eI ho hx
theorem vr (y : Ros) (w : World) : (Instr.build 35 #[(0, geo y)]).run prog w = .ok (ros (gz y)) w := by
 obtain ⟨m, s, r, st, cur, gone⟩ := y
 kernel_rfl
theorem ng {y : Ros} (ho : o.op = .build 35 #[(0, x)]) (hx : ρ x = geo y) : (execOp ρ o).run prog w = .ok (.value (ros (gz y))) w := by
 unfold execOp;simp only [ho, hx, List.map_toArray, List.map_cons, List.map_nil, Sem.run_bind, vr, Result.andThen_ok, Sem.run_pure]
end
theorem ku.third {w0 w : World} {y z : Ros} (h : ku w0 w y z) {b : Nat} (x : Ros) (hb : w0.heap.size + 1 < b) : ku w0 (fZ w b x) y z :=
 ⟨gD h.bel (by omega), fun j v hj => World.rangeAt_setCells_apart h.at0 b 0 (aU x) (.inl (by omega)) j v hj, by rw [nq]; exact h.lt0, (qk (by omega)).trans h.at1⟩
theorem abh {y : Ros} (hg : a8 (gz y) = false) (w : World) : Calls prog 26 #[geo y] w fun e w' => e = .returned (.tuple #[ros (bO), .int .i64 2]) /\ Below w.heap.size w w' := by
 have HT1 := ae (ku.new w y);have HG := ae hg;clear hg;go_enter func26, ntmps26;go_upto_region 1 with (first | (refine au rfl (jW rfl rfl) ?_) | (refine au rfl (cz rfl) ?_) | fail);generalize (w.alloc (.cells (cU y).toArray 32)).alloc (.cells (aU bO).toArray 35) = w1 at *;refine af ?_;refine ac6 (ct (c := y) rfl adh HT1.out.at0) ?_;refine ac6 (ng (y := y) rfl adh) ?_;refine ac6 (cz rfl) ?_;have HA := ae (bF.new w1 bO);have HT2 := ae (HT1.out.call (w' := w1.alloc (.cells (aU bO).toArray 35)) (aj.alloc ai _));have HB3 : Hid (w.heap.size + 1 < w1.heap.size) := ae (aW HT1.out.at1);clear HT1;generalize w1.alloc (.cells (aU bO).toArray 35) = w2 at *;generalize w1.heap.size = ba at *;refine az rfl (dv rfl (ev rfl) (ev rfl) HA.out) ?_;simp only [aa];have HA2 := ae (iM (x := gz y) HA);have HT3 := ae (HT2.out.third (gz y) HB3);clear HT2 HA;have HA := HA2;clear HA2;generalize fZ w2 ba (gz y) = w3 at *;refine ag ?_;go_upto_region 2 with fail;refine af ?_;refine ac6 (aX rfl adh HA) ?_;refine ay rfl (aD call65 rfl (evc adh evn)) ?_;refine (tj w3 HG).mono ?_;rintro e w4 ⟨rfl, hb⟩;have HT4 := ae (HT3.out.call hb);have HA2 := ae (HA.out.below (aW HA) hb);clear hb HT3 HA;have HA := HA2;clear HA2;refine bI ?_;refine aP 1 ?_;go_upto_region 3 with fail;refine af ?_;refine ac6 (rV rfl) ?_;refine az rfl (dv rfl (ev rfl) (ev rfl) HT4.out.at1) ?_;simp only [aa];have HT5 := ae (HT4.out.put (bO));generalize fZ w4 (w.heap.size + 1) (bO) = w5 at HT5 ⊢;clear HT4;refine aP 1 ?_;go_wp2_with fail;exact bodyPost_ret (ja rfl _ _ _ rfl HT5.out.at1) rfl ⟨rfl, HT5.out.bel⟩
theorem abo {y : Ros} (hg : a8 (gz y) = true) (w : World) : Calls prog 26 #[geo y] w fun e w' => e = .returned (.tuple #[ros (gz y), .int .i64 0]) /\ Below w.heap.size w w' := by
 have HT1 := ae (ku.new w y);have HG := ae hg;clear hg;go_enter func26, ntmps26;go_upto_region 1 with (first | (refine au rfl (jW rfl rfl) ?_) | (refine au rfl (cz rfl) ?_) | fail);generalize (w.alloc (.cells (cU y).toArray 32)).alloc (.cells (aU bO).toArray 35) = w1 at *;refine af ?_;refine ac6 (ct (c := y) rfl adh HT1.out.at0) ?_;refine ac6 (ng (y := y) rfl adh) ?_;refine ac6 (cz rfl) ?_;have HA := ae (bF.new w1 bO);have HT2 := ae (HT1.out.call (w' := w1.alloc (.cells (aU bO).toArray 35)) (aj.alloc ai _));have HB3 : Hid (w.heap.size + 1 < w1.heap.size) := ae (aW HT1.out.at1);clear HT1;generalize w1.alloc (.cells (aU bO).toArray 35) = w2 at *;generalize w1.heap.size = ba at *;refine az rfl (dv rfl (ev rfl) (ev rfl) HA.out) ?_;simp only [aa];have HA2 := ae (iM (x := gz y) HA);have HT3 := ae (HT2.out.third (gz y) HB3);clear HT2 HA;have HA := HA2;clear HA2;generalize fZ w2 ba (gz y) = w3 at *;refine ag ?_;go_upto_region 2 with fail;refine af ?_;refine ac6 (aX rfl adh HA) ?_;refine ay rfl (aD call65 rfl (evc adh evn)) ?_;refine (tj w3 HG).mono ?_;rintro e w4 ⟨rfl, hb⟩;have HT4 := ae (HT3.out.call hb);have HA2 := ae (HA.out.below (aW HA) hb);clear hb HT3 HA;have HA := HA2;clear HA2;refine bI ?_;refine aP 1 ?_;go_upto_region 4 with fail;refine af ?_;refine ac6 (aX rfl adh HA) ?_;refine az rfl (dv rfl (ev rfl) (ev rfl) HT4.out.at1) ?_;simp only [aa];have HT5 := ae (HT4.out.put (gz y));generalize fZ w4 (w.heap.size + 1) (gz y) = w5 at HT5 ⊢;clear HT4;refine aP 1 ?_;go_wp2_with fail;exact bodyPost_ret (ja rfl _ _ _ rfl HT5.out.at1) rfl ⟨rfl, HT5.out.bel⟩
theorem acZ (y : Ros) (w : World) : Calls prog 26 #[geo y] w fun e w' => e = .returned (.tuple #[ros (xq y), .int .i64 (o6 y : Nat)]) /\ Below w.heap.size w w' := by
 unfold xq o6;have h := sy y;cases hg : ei y
 ·exact abh (h.trans hg) w
 ·exact abo (h.trans hg) w
structure Cel where
 b : Nat
 t : TypeId
 cs : List Value
section
variable {ρ : Operand -> Value} {o : Oper} {x y : Operand} {w : World} {b : Nat} {c d : Ros} {t r : TypeId}
theorem aao {fn : Func} {p : Tmp} (h : fn.results = #[.cell p 35]) (tmps : Array Value) (w : World) (b : Nat) (hp : tmps.getD p undef = .pointer (some ⟨b, 0, none⟩)) (hc : bF w b c) :
  (results fn tmps).run prog w = .ok (ros c) w := dY h tmps w b hp hc.range underlying35 rfl (by rw [aY]; exact mW)
end
section
variable {x y : Ros} {g b : Bool} {m : Int} {e : Nat} (w : World)
theorem abd (h : xq x = y) (he : o6 x = e) : Calls prog 26 #[geo x] w fun r w' => r = .returned (.tuple #[ros y, .int .i64 (e : Nat)]) /\ Below w.heap.size w w' := by subst h he; exact acZ x w
theorem yk (h : dh x m = y) (hb : iV x m = b) : Calls prog 63 #[ros x, .int .i64 m] w fun r w' => r = .returned (.tuple #[ros y, .bool b]) /\ Below w.heap.size w w' := by subst h hb; exact z9 x m w
end
def lY : List Value -> Nat -> List Value -> List Value
 |cs, _, [] => cs
 |cs, o, v :: r => lY (cs.set o v) (o + 1) r
theorem lu {c : List Value} : ∀ (vs a b : List Value), vs.length = b.length -> lY (a ++ (b ++ c)) a.length vs = a ++ (vs ++ c)
 |[], a, b, h => by
  obtain rfl := List.eq_nil_of_length_eq_zero (show b.length = 0 from h.symm)
  rfl
 |v :: r, a, [], h => by cases h
 |v :: r, a, u :: b, h => by
  have e : (a ++ (u :: b ++ c)).set a.length v = (a ++ [v]) ++ (b ++ c) := by
   rw [List.set_append_right _ _ ai, Nat.sub_self, List.append_assoc]
   rfl
  rw [lY, e, show a.length + 1 = (a ++ [v]).length by simp, lu r (a ++ [v]) b (by simpa using h), List.append_assoc]
  rfl
theorem kh {b : Nat} {t : TypeId} : ∀ (vs : List Value) (o : Nat) (cs : List Value) (w : World), w.heap[b]? = some (.cells cs.toArray t (0, 0)) -> (w.setCells b o vs).heap[b]? = some (.cells (lY cs o vs).toArray t (0, 0))
 |[], o, cs, w, h => h
 |v :: r, o, cs, w, h => by
  rw [World.setCells, lY];refine kh r (o + 1) (cs.set o v) _ ?_;have := heap_setCell_same w b o _ t v h
  simpa using this
theorem mv {fn : Func} {q u : Tmp} {t : TypeId} {cs : List Value} {d : TypeDesc} (h : fn.results = #[.cell q t, .tmp u]) (tmps : Array Value) (w : World) (b : Nat) (hq : tmps.getD q undef = .pointer (some ⟨b, 0, none⟩)) (hr : w.rangeAt b 0 cs) (hu : prog.underlying t = some d) (hd : d.isRow = true) (hz : (prog.info? t).map (·.size) = some cs.length) :
  (results fn tmps).run prog w = .ok (.tuple #[.agg cs.toArray, tmps.getD u undef]) w := by
 have hl : (loadVar t ⟨b, 0, none⟩).run prog w = .ok (.agg cs.toArray) w := run_loadVar_mid (P := prog) w b 0 t cs d hr hu hd hz;have hq' : tmps[q]?.getD undef = .pointer (some ⟨b, 0, none⟩) := by simpa using hq
 simp [results, h, hq', asAddr, hl]
def de (w : World) (b : Nat) (x : Fnd) : Prop := w.heap[b]? = some (.cells (bP x).toArray 50 (0, 0))
section
variable {w w' : World} {b k : Nat} {x y : Fnd} {R : Ros}
theorem de.ros (h : de w b x) : de (w.setCells b 2 (aU R)) b ⟨x.ev, x.id, R⟩ := by
 have := kh (aU R) 2 (bP x) w h;have e := lu (c := []) (aU R) [.int .u64 x.ev, .int .u64 x.id] (aU x.R) (by rw [aY, aY]);simp only [List.append_nil] at e;have e2 : lY (bP x) 2 (aU R) = bP ⟨x.ev, x.id, R⟩ := e;rw [e2] at this;exact this
theorem de.cells (h : de w b x) : w.cell? ⟨b, 0, none⟩ = some (.int .u64 (x.ev : Int)) /\ w.cell? ⟨b, 1, none⟩ = some (.int .u64 (x.id : Int)) := by
 have r := br h;exact ⟨r 0 _ rfl, r 1 _ rfl⟩
theorem de.i4 (h : de w b x) : w.rangeAt b 2 (aU x.R) := by
 have := dJ (ds := [.int .u64 x.ev, .int .u64 x.id]) (es := aU x.R) (fs := []) (k := 2) (br h) (by simp [bP]) rfl;rwa [Nat.zero_add] at this
theorem rD {o : Nat} (h : w.rangeAt b o (aU R)) : w.rangeAt b o (cU R) := by
 have := dJ (ds := []) (es := cU R) (k := 0) h (by rw [fw]; rfl) rfl;rwa [Nat.add_zero] at this
theorem de.mK (h : de w b x) : w.rangeAt b 2 (cU x.R) := rD h.i4
theorem bS.mK {z : Sup} (h : bS w b z) : w.rangeAt b 2 (cU z.ros) := rD h.i4
theorem ml : (Instr.fieldAt 50 (.pointer (some ⟨b, 0, none⟩)) 0).run prog w = .ok (.pointer (some ⟨b, 0, none⟩)) w := by kernel_rfl
theorem jM : (Instr.fieldAt 50 (.pointer (some ⟨b, 0, none⟩)) 1).run prog w = .ok (.pointer (some ⟨b, 1, none⟩)) w := by kernel_rfl
theorem gU : (Instr.fieldAt 50 (.pointer (some ⟨b, 0, none⟩)) 2).run prog w = .ok (.pointer (some ⟨b, 2, none⟩)) w := by kernel_rfl
theorem zZ : (Instr.fieldAt 37 (.pointer (some ⟨b, 0, none⟩)) 2).run prog w = .ok (.pointer (some ⟨b, 2, none⟩)) w := by kernel_rfl
theorem kE {o : Nat} : (Instr.fieldAt 35 (.pointer (some ⟨b, o, none⟩)) 0).run prog w = .ok (.pointer (some ⟨b, o, none⟩)) w := by kernel_rfl
theorem pF {o : Nat} : (Instr.fieldAt 32 (.pointer (some ⟨b, o, none⟩)) 0).run prog w = .ok (.pointer (some ⟨b, o, none⟩)) w := by kernel_rfl
theorem wU {o : Nat} : (Instr.fieldAt 32 (.pointer (some ⟨b, o, none⟩)) 1).run prog w = .ok (.pointer (some ⟨b, o + 1, none⟩)) w := by kernel_rfl
theorem vm {o : Nat} : (Instr.fieldAt 32 (.pointer (some ⟨b, o, none⟩)) 2).run prog w = .ok (.pointer (some ⟨b, o + 2, none⟩)) w := by kernel_rfl
theorem xg : (prog.info? 32).map (fun i => i.zero) = some (some (.agg #[.int .i64 0, .int .i64 0, .int .i64 0])) := by kernel_rfl
theorem nK (x : Ros) : ∀ v ∈ cU x, v.oneCell' = true := by
 intro v hv;simp only [cU, List.mem_cons, List.not_mem_nil, or_false] at hv;rcases hv with rfl | rfl | rfl <;> rfl
theorem xZ : prog.eqGuardType prog.depth 32 = false := by kernel_rfl
theorem ra (x : Fnd) (w : World) : (Instr.build 50 #[(0, .int .u64 (x.ev : Int)), (1, .int .u64 (x.id : Int)), (2, ros x.R)]).run prog w = .ok (fnd x) w := by
 have hz := fD kQ w;have h0 := cE (place := fun i => (#[(0, 1), (1, 1), (2, 21)] : Array (Nat × Nat))[i]?) (i := 0) (off := 0) (size := 1) (v := .int .u64 (x.ev : Int)) (pre := []) (mid := [.int .u64 0]) (post := .int .u64 0 :: aU bO) (vs := [.int .u64 (x.ev : Int)]) (rest := [(1, .int .u64 (x.id : Int)), (2, ros x.R)]) rfl rfl rfl rfl rfl;have h1 := cE (place := fun i => (#[(0, 1), (1, 1), (2, 21)] : Array (Nat × Nat))[i]?) (i := 1) (off := 1) (size := 1) (v := .int .u64 (x.id : Int)) (pre := [.int .u64 (x.ev : Int)]) (mid := [.int .u64 0]) (post := aU bO) (vs := [.int .u64 (x.id : Int)]) (rest := [(2, ros x.R)]) rfl rfl rfl rfl rfl;have h2 := cE (place := fun i => (#[(0, 1), (1, 1), (2, 21)] : Array (Nat × Nat))[i]?) (i := 2) (off := 2) (size := 21) (v := ros x.R) (pre := [.int .u64 (x.ev : Int), .int .u64 (x.id : Int)]) (mid := aU bO) (post := []) (vs := aU x.R) (rest := []) rfl rfl (aY x.R) rfl (aY bO);simp only [List.nil_append, List.append_nil, List.cons_append] at h0 h1 h2;have h4 := h0.trans (h1.trans h2);have hz' : (zeroValue 50).run prog w = .ok (.agg (.int .u64 0 :: .int .u64 0 :: aU bO).toArray) w := hz;have hc : (Value.agg (.int .u64 0 :: .int .u64 0 :: aU bO).toArray).cells = (.int .u64 0 :: .int .u64 0 :: aU bO).toArray := rfl;simp only [Instr.build, Sem.run_bind, hz', run_underlying underlying50, Result.andThen_ok, hc];refine Eq.trans (congrArg (fun r => Result.andThen r _) (?h : _ = Result.ok #[(0, 1), (1, 1), (2, 21)] w)) ?_
 case h => kernel_rfl
 simp only [Result.andThen_ok];have h5 : Instr.fill (fun i => (#[(0, 1), (1, 1), (2, 21)] : Array (Nat × Nat))[i]?) (bP x).toArray [] = some (bP x).toArray := by rw [Instr.fill]
 rw [h4.trans h5]
 rfl
theorem o7 {ρ : Operand -> Value} {o : Oper} {p q r : Operand} {e i : Nat} {R : Ros} (ho : o.op = .build 50 #[(0, p), (1, q), (2, r)]) (hp : ρ p = .int .u64 (e : Int)) (hq : ρ q = .int .u64 (i : Int)) (hr : ρ r = ros R) : (execOp ρ o).run prog w = .ok (.value (fnd ⟨e, i, R⟩)) w := by
 have h := ra ⟨e, i, R⟩ w;dsimp only at h;unfold execOp;simp only [ho, hp, hq, hr, List.map_toArray, List.map_cons, List.map_nil, Sem.run_bind, h, Result.andThen_ok, Sem.run_pure]
end
def lsK (q : Nat -> Bool) (R : Ros) : Nat -> Ros
 |0 => R
 |k + 1 => if q k = true then dh (lsK q R k) (k : Int) else lsK q R k
theorem wV {x : Ros} {m : Int} (h : sta x m.toNat = 1) : dh x m = x := by
 unfold dh iV;rw [al (by omega), Bool.and_false, Bool.and_false]
 rfl
theorem wE (x : Ros) (m : Int) : (dh x m).m = x.m /\ (dh x m).s = x.s /\ (dh x m).r = x.r := by
 unfold dh
 split
 ·split <;> exact ⟨rfl, rfl, rfl⟩
 ·exact ⟨rfl, rfl, rfl⟩
theorem wq {x : Ros} (hf : a8 x = true) (m : Int) (j : Nat) : sta (dh x m) j = if (0 <= m /\ m < x.m) /\ (j : Int) = m then 1 else sta x j := by
 by_cases hm : 0 <= m /\ m < x.m
 ·by_cases h1 : sta x m.toNat = 1
  ·rw [wV h1]
   split
   ·rename_i e
    rw [show j = m.toNat by omega];exact h1
   ·rfl
  ·obtain ⟨_, l2⟩ := oF (d := m.toNat) hf (by omega) h1;have e := l2 j;rw [show ((m.toNat : Nat) : Int) = m by omega] at e;rw [e];by_cases c : j = m.toNat
   ·rw [if_pos c, if_pos ⟨hm, by omega⟩]
   ·rw [if_neg c, if_neg fun y => c (by omega)]
 ·rw [if_neg fun y => hm y.1];have : iV x m = false := by
   unfold iV;rw [show fp x m = false from al hm, Bool.false_and, Bool.and_false]
  unfold dh;rw [this]
  rfl
theorem nL : ∀ (f : Nat) (h : HuS), a8 h.R = true -> a8 (eP f h).2.R = true /\ ((eP f h).2.R.m = h.R.m /\ (eP f h).2.R.s = h.R.s /\ (eP f h).2.R.r = h.R.r) /\ ∀ j, sta (eP f h).2.R j = sta h.R j \/ sta (eP f h).2.R j = 1
 |0, h, hf => ⟨hf, ⟨rfl, rfl, rfl⟩, fun _ => .inl rfl⟩
 |f + 1, h, hf => by
  rw [eP];obtain ⟨o, e, M', hx⟩ : ∃ o e M', cO h.id (h.ev + 1) h.R h.R.m.toNat 0 h.M = (o, e, M') := ⟨_, _, _, rfl⟩;rw [hx];cases o with
  |none => exact ⟨hf, ⟨rfl, rfl, rfl⟩, fun _ => .inl rfl⟩
  |some m =>
   obtain ⟨g1, g2, g3⟩ := wE h.R (m : Int);obtain ⟨k1, ⟨k2, k3, k4⟩, k5⟩ := nL f ⟨M', h.id, h.ev + 1, dh h.R (m : Int)⟩ (jF _ hf);refine ⟨k1, ⟨k2.trans g1, k3.trans g2, k4.trans g3⟩, fun j => ?_⟩;rcases k5 j with y | y
   ·have z : sta (dh h.R (m : Int)) j = _ := wq hf (m : Int) j
    split at z
    ·exact .inr (y.trans z)
    ·exact .inl (y.trans z)
   ·exact .inr y
section
variable {N ev : Nat} {q1 q2 : Nat -> Bool} {M : aM} {R : Ros}
structure GvA (N ev : Nat) (R : Ros) (q : Nat -> Bool) (M : aM) : Prop where
 bz : M.bz = false
 left : M.left = 0
 len : M.ds.length = N + 1
 evs : 1 <= ev /\ ev <= 2305843009213693952
 fine : a8 R = true
 geo : R.m = (N : Int) /\ R.s = 4 /\ R.r = 40
 sec : ∀ j, j < N -> (M.ds.getD j bJ).S.length = 6
 last : (M.ds.getD N bJ).S.length = 50
 dead : ∀ j, j < N -> q j = true -> (M.ds.getD j bJ).g = true
 now : ∀ j, j < N -> q j = false -> ∃ S, M.ds.getD j bJ = ⟨S, [], false⟩ /\ Now ev ⟨9, (j : Int), R⟩ S
theorem om {j : Nat} (h : j < M.ds.length) : cW M (j : Int) = ((M.ds.getD j bJ).S.length : Int) := by
 unfold cW;rw [if_pos (la h)]
 rfl
theorem GvA.fits (a : GvA N ev R q1 M) : gaF M ev R = true := by
 have hl := a.len;refine aav ⟨a.evs.2, by rw [a.geo.1, hl]; omega, ?_, ?_⟩
 ·rw [a.geo.1, a.geo.2.2, om (by omega), a.last]; decide
 ·rw [jn, a.geo.1, a.geo.2.1];intro j hj;rw [om (by omega), a.sec j (by omega)]
  decide
theorem GvA.tells (a : GvA N ev R q1 M) {j : Nat} (hj : j < N) (hq : q1 j = false) : gaE M (j : Int) = 0 /\ gaN M (j : Int) = ev /\ gaS M (j : Int) = ⟨9, (j : Int), R⟩ := by
 obtain ⟨S, hS, n1, n2, n3⟩ := a.now j hj hq;have hl := a.len;have hw : Wel M j S := ⟨a.bz, a.left, by omega, hS⟩;have h6 : S.length = 6 := by have := a.sec j hj; rw [hS] at this; exact this
 have x0 : gaX M (j : Int) = S.getD 0 aB := hw.rdB (n := 0) (by omega);have x1 : gaY M (j : Int) = S.getD 1 aB := hw.rdB (n := 1) (by omega);have r0 : cf M (j : Int) 0 = 0 := hw.rdE (n := 0) (by omega);have r1 : cf M (j : Int) 1 = 0 := hw.rdE (n := 1) (by omega);have hQ : gaQ M (j : Int) = true := by
  unfold gaQ;rw [x0, x1, n2, n3, n1, r0, r1, a.fits, am (show 0 <= (j : Int) /\ (j : Int) < (M.ds.length : Int) - 1 by omega)]
  rfl
 have hE : gaE M (j : Int) = 0 := by unfold gaE; rw [a.bz, if_neg (by decide), if_pos hQ]
 obtain ⟨g1, g2⟩ := qU hE;rw [x0, x1] at g1 g2;exact ⟨hE, g1.trans n2, g2.trans n3⟩
theorem GvA.mute (a : GvA N ev R q1 M) {j : Nat} (hj : j < N) (hq : q1 j = true) : gaE M (j : Int) = 7 := by
 have hl := a.len;have h6 := a.sec j hj;have r0 : cf M (j : Int) 0 = 9 := sZ a.bz (by omega) (a.dead j hj hq) (by omega);unfold gaE gaQ;rw [a.bz, if_neg (by decide), r0, al (show ¬ (9 : Int) = 0 by decide), Bool.and_false, Bool.false_and, Bool.false_and, Bool.false_and, if_neg (by decide)]
theorem GvA.acy (a : GvA N ev R q1 M) : ∀ {k : Nat}, k <= N -> ((∀ j, j < k -> q1 j = true) /\ gaK M k = none) \/ ((∃ j, j < k /\ q1 j = false) /\ gaK M k = some ⟨ev, 9, R⟩)
 |0, _ => .inl ⟨fun j hj => absurd hj (by omega), rfl⟩
 |k + 1, hk => by
  have ih := a.acy (k := k) (by omega);cases hq : q1 k
  ·obtain ⟨t1, t2, t3⟩ := a.tells (j := k) (by omega) hq;have hp : gaP M (k : Int) = ⟨ev, 9, R⟩ := by unfold gaP; rw [t2, t3]
   refine .inr ⟨⟨k, by omega, hq⟩, ?_⟩;rw [gaK, t2, hp];rcases ih with ⟨_, e⟩ | ⟨_, e⟩
   ·rw [e, if_pos ⟨t1, rfl⟩]
   ·rw [e, if_neg fun y => by have := y.2; unfold gaU at this; simp at this]
  ·have t1 := a.mute (j := k) (by omega) hq;have e1 : gaK M (k + 1) = gaK M k := by rw [gaK, if_neg fun y => by omega]
   rw [e1];rcases ih with ⟨i, e⟩ | ⟨⟨j, i, i2⟩, e⟩
   ·refine .inl ⟨fun j hj => ?_, e⟩;by_cases c : j = k
    ·subst c; exact hq
    ·exact i j (by omega)
   ·exact .inr ⟨⟨j, by omega, i2⟩, e⟩
theorem GvA.abX (a : GvA N ev R q1 M) : ∀ {k : Nat}, k <= N -> gaL M ⟨ev, 9, R⟩ k = lsK q1 R k
 |0, _ => rfl
 |k + 1, hk => by
  rw [gaL, lsK, a.abX (k := k) (by omega)];cases hq : q1 k
  ·obtain ⟨t1, t2, t3⟩ := a.tells (j := k) (by omega) hq;have : gaW M ⟨ev, 9, R⟩ k = true := by
    unfold gaW mx;rw [t1, t3];simp
   rw [if_pos this, if_neg (by decide)]
  ·have t1 := a.mute (j := k) (by omega) hq;have : gaW M ⟨ev, 9, R⟩ k = false := by
    unfold gaW;rw [t1, al (show ¬ (7 : Int) = 0 by decide), Bool.false_and, Bool.false_and, Bool.false_and]
   rw [this, if_neg (by decide), if_pos rfl]
theorem GvA.look (a : GvA N ev R q1 M) : ((∀ j, j < N -> q1 j = true) /\ glE M = 7 /\ glF M = bZ) \/ ((∃ j, j < N /\ q1 j = false) /\ glE M = 0 /\ glF M = ⟨ev, 9, lsK q1 R N⟩) := by
 have hO : gaO M = gaK M N := by unfold gaO; rw [a.len]; rfl
 unfold glE glF;rw [a.bz, hO, if_neg (by decide), if_neg (by decide)];rcases a.acy (Nat.le_refl N) with ⟨i, e⟩ | ⟨i, e⟩
 ·rw [e]; exact .inl ⟨i, rfl, rfl⟩
 ·rw [e];refine .inr ⟨i, rfl, ?_⟩
  show (⟨ev, 9, gaL M ⟨ev, 9, R⟩ R.m.toNat⟩ : Fnd) = _
  rw [a.geo.1, Int.toNat_natCast, a.abX (Nat.le_refl N)]
theorem GvA.fai (a : GvA N ev R q1 M) (q2 : Nat -> Bool) : GvA N ev R (fun j => q1 j || q2 j) (fY q2 M N) := by
 have hl := a.len;have hg := ww (q := q2) (M := M) (k := N) (by omega);refine ⟨hg.bz.trans a.bz, hg.left.trans a.left, hg.len.trans hl, a.evs, a.fine, a.geo, fun j hj => ?_, ?_, fun j hj hq => ?_, fun j hj hq => ?_⟩
 ·rw [hg.at_ j]; split
  ·exact a.sec j hj
  ·exact a.sec j hj
 ·rw [hg.at_ N, if_neg fun y => by omega]; exact a.last
 ·rw [hg.at_ j];by_cases c : j < N /\ q2 j = true
  ·rw [if_pos c]
  ·rw [if_neg c];refine a.dead j hj ?_;cases h3 : q1 j
   ·rw [h3, Bool.false_or] at hq; exact absurd ⟨hj, hq⟩ c
   ·rfl
 ·have h3 : q1 j = false /\ q2 j = false := by simpa using hq
  rw [hg.at_ j, if_neg fun y => by rw [h3.2] at y; exact absurd y.2 (by decide)];exact a.now j hj h3.1
theorem tG (h1 : 3 <= N) (h2 : N <= 6) (q1 : Nat -> Bool) {e0 : Nat} (hev : e0 < 4294967296) :
  ∃ ev' R' M', eP 17 ⟨fY q1 (bW (szK N 4)) N, 9, e0, neR N 4⟩ = (0, ⟨M', 9, ev', R'⟩) /\ (e0 < ev' /\ ev' <= e0 + gJ (ded (neR N 4) (fY q1 (bW (szK N 4)) N)) N + 1) /\ GvA N ev' R' q1 M' /\ (∀ j, j < N -> (sta R' j = 1 ↔ q1 j = true)) /\ (∀ j, j < N -> sta R' j = 0 \/ sta R' j = 1) /\ (gJ (ded (neR N 4) (fY q1 (bW (szK N 4)) N)) N = 0 -> R' = neR N 4) := by
 have hk := yw h1 (by omega) (show (1 : Int) <= 4 by decide) (by decide) q1 e0;have hp := sI (ded (neR N 4) (fY q1 (bW (szK N 4)) N)) N;obtain ⟨ev', R', M', e, k1, k2, k3, k4, k5, _, k7, k8, k9⟩ := mX 17 e0 _ _ hk (by rw [kP]; omega) (by omega);obtain ⟨r1, ⟨r2, r3, r4⟩, r5⟩ := nL 17 ⟨fY q1 (bW (szK N 4)) N, 9, e0, neR N 4⟩ hk.fine;rw [e] at r1 r2 r3 r4 r5;dsimp only at r1 r2 r3 r4 r5;rw [kP] at k3 k5 k7 k8 k9;have hf := ww (q := q1) (M := bW (szK N 4)) (k := N) (by rw [dS]; omega);have hl : M'.ds.length = N + 1 := by rw [k5.len, hf.len, dS]
 have s0 : ∀ j, j < N -> sta R' j = 0 \/ sta R' j = 1 := fun j hj => by
  rcases r5 j with y | y
  ·exact .inl (y.trans (tf (by omega)))
  ·exact .inr y
 have s1 : ∀ j, j < N -> (sta R' j = 1 ↔ q1 j = true) := fun j hj => by
  rw [k7 j hj, pj hj, tf (by omega)];simp
 have hsl : ∀ j, j < N -> (M'.ds.getD j bJ).S.length = 6 := fun j hj => by
  rw [k5.sl j, hf.at_ j, gB hj]
  split <;> simp
 have hN : (M'.ds.getD N bJ).S.length = 50 := by
  rw [k5.hi N ai, hf.at_ N, if_neg fun y => by omega, fk];have : (szK N 4).getD N 0 = 50 := by
   unfold szK;simp [List.getD]
  simp only [List.getD, List.getElem?_map];rw [List.getD, List.getElem?_eq_getElem (by rw [fO]; omega)] at this;rw [List.getElem?_eq_getElem (by rw [fO]; omega)];simp only [Option.getD_some] at this;simp only [Option.map_some, Option.getD_some, this]
  rfl
 refine ⟨ev', R', M', e, ⟨k2, k3⟩, ⟨k1.bz, k1.left, hl, ⟨by omega, by omega⟩, r1, ⟨k4.trans rfl, r3, r4⟩, hsl, hN, fun j hj hq => ?_, fun j hj hq => ?_⟩, s1, s0, k9⟩
 ·rw [k5.gs j, pj hj]; exact hq
 ·rcases k8 j hj with y | y
  ·have := (s1 j hj).1 y;rw [hq] at this;cases this
  ·exact y
theorem vR (N : Nat) (d : Int) : gaE (bW (szK N 4)) d = 7 /\ glE (bW (szK N 4)) = 7 /\ glF (bW (szK N 4)) = bZ := by
 have hz : ∀ e n, dK (bW (szK N 4)) e n = aB := fun e n => by
  unfold dK
  split
  ·have hL : ((bW (szK N 4)).dev e).L = [] /\ ∀ j, ((bW (szK N 4)).dev e).S.getD j aB = aB := by
    unfold aM.dev bW;simp only [List.getD, List.getElem?_map];cases ((szK N 4)[e.toNat]?) with
    |none => exact ⟨rfl, fun j => rfl⟩
    |some x =>
     refine ⟨rfl, fun j => ?_⟩;simp only [Option.map_some, Option.getD_some, List.getElem?_replicate]
     split <;> rfl
   unfold eu
   split
   ·rw [hL.1];exact hL.2 _
   ·rfl
  ·rfl
 have g : gsN aB = 0 := lU.2 (by rw [tq]; decide);have hd : ∀ e, gaE (bW (szK N 4)) e = 7 := fun e => by
  have hq : gaQ (bW (szK N 4)) e = false := by
   unfold gaQ gaX gaY nwE;rw [hz, hz, g, if_pos ⟨rfl, rfl⟩, al (show ¬ ((7 : Nat) = 0) by decide), Bool.and_false, Bool.false_and]
  unfold gaE;rw [hq, if_neg (show ¬ ((bW (szK N 4)).bz = true) from fun x => by cases x), if_neg (by decide)]
 have hk : ∀ k, gaK (bW (szK N 4)) k = none := fun k => by
  induction k with
  |zero => rfl
  |succ k ih => rw [gaK, hd, if_neg fun x => by omega, ih]
 refine ⟨hd d, ?_, ?_⟩
 ·unfold glE gaO;rw [hk, if_neg (show ¬ ((bW (szK N 4)).bz = true) from fun x => by cases x)]
 ·unfold glF gaO;rw [hk, if_neg (show ¬ ((bW (szK N 4)).bz = true) from fun x => by cases x)]
theorem zG : ∃ M', jb ⟨bW (szK 3 4), 9, 0, neR 3 4⟩ = 0 /\ hU ⟨bW (szK 3 4), 9, 0, neR 3 4⟩ = ⟨M', 9, 1, neR 3 4⟩ /\ glE M' = 0 /\ glF M' = ⟨1, 9, neR 3 4⟩ /\ glE (gq M' 0) = 0 /\ ∃ R2, glF (gq M' 0) = ⟨1, 9, R2⟩ /\ stN R2 = 2 := by
 obtain ⟨ev', R', M', e, k1, B, s1, s0, k9⟩ := tG (N := 3) (by omega) (by omega) (fun _ => false) (e0 := 0) (by omega);have e0 : fY (fun _ => false) (bW (szK 3 4)) 3 = bW (szK 3 4) := rfl;have hp : gJ (ded (neR 3 4) (fY (fun _ => false) (bW (szK 3 4)) 3)) 3 = 0 := by rw [e0]; decide +kernel
 rw [hp] at k1;have hR := k9 hp;have hev : ev' = 1 := by omega
 subst hev hR;rw [e0] at e;refine ⟨M', by unfold jb; rw [e], by unfold hU; rw [e], ?_⟩;have h1 := B.look;have B2 := B.fai fun j => decide (j = 0)
 have e2 : fY (fun j => decide (j = 0)) M' 3 = gq M' 0 := rfl;rw [e2] at B2;have h2 := B2.look;rcases h1 with ⟨a, _⟩ | ⟨_, a1, a2⟩
 ·have := a 0 (by omega); cases this
 ·rcases h2 with ⟨b, _⟩ | ⟨_, b1, b2⟩
  ·have := b 1 (by omega); cases this
  ·exact ⟨a1, a2, b1, _, b2, by decide +kernel⟩
end
theorem qW (a b : Int) (w : World) : (Instr.build 32 #[(0, .int .i64 a), (1, .int .i64 b), (2, .int .i64 40)]).run prog w = .ok (.agg #[.int .i64 a, .int .i64 b, .int .i64 40]) w := by kernel_rfl
theorem oL {ρ : Operand -> Value} {o : Oper} {x y z : Operand} {w : World} {a b : Int} (ho : o.op = .build 32 #[(0, x), (1, y), (2, z)]) (hx : ρ x = .int .i64 a) (hy : ρ y = .int .i64 b) (hz : ρ z = .int .i64 40) : (execOp ρ o).run prog w = .ok (.value (.agg #[.int .i64 a, .int .i64 b, .int .i64 40])) w := by
 unfold execOp;simp only [ho, hx, hy, hz, List.map_toArray, List.map_cons, List.map_nil, Sem.run_bind, qW, Result.andThen_ok, Sem.run_pure]
section
variable {ρ : Operand -> Value} {o : Oper} {x y : Operand} {w : World} {t r : TypeId} {v : Value} {a1 a2 : Addr}
theorem pH (op : BinOp) (t : TypeId) (x y : Operand) (a b : Option Addr) : (eqGuard op t x y (.pointer a) (.pointer b)).run prog w = .ok () w := by
 cases op <;> simp [eqGuard]
theorem nj {op : BinOp} {m n : Option Addr} (ho : o.op = .binOp op t x y r) (hx : ρ x = .pointer m) (hy : ρ y = .pointer n) (h : (binOp op t (.pointer m) (.pointer n)).run prog w = .ok v w) : (execOp ρ o).run prog w = .ok (.value v) w := by
 unfold execOp;simp only [ho, hx, hy, Sem.run_bind, pH, h, Result.andThen_ok, Sem.run_pure]
theorem kM {te : TypeId} (hp : prog.underlying t = some (.pointer te)) (m : Option Addr) (d : Nat) : (Op.equalIn (d + 1) t (.pointer m) (.pointer none)).run prog w = .ok (decide (m = none)) w := by
 cases m <;> simp [Op.equalIn, run_underlying hp]
theorem i7 {te : TypeId} {m : Option Addr} (c : Bool) (hp : prog.underlying t = some (.pointer te)) (ho : o.op = .binOp .eql t x y r) (hx : ρ x = .pointer m) (hy : ρ y = .pointer none) (h : decide (m = none) = c) : (execOp ρ o).run prog w = .ok (.value (.bool c)) w := by
 subst h;refine nj ho hx hy ?_;simp only [binOp];simp [Op.equal, Op.maxDepth, kM hp m 9999]
theorem fH {te : TypeId} {m : Option Addr} (c : Bool) (hp : prog.underlying t = some (.pointer te)) (ho : o.op = .binOp .neq t x y r) (hx : ρ x = .pointer m) (hy : ρ y = .pointer none) (h : (!decide (m = none)) = c) : (execOp ρ o).run prog w = .ok (.value (.bool c)) w := by
 subst h;refine nj ho hx hy ?_;simp only [binOp];simp [Op.equal, Op.maxDepth, kM hp m 9999]
end
theorem aan {N : Nat} {s : Int} (hN : N <= 16) (hs : 1 <= s /\ s <= 64) : gh (szK N s) := by
 refine ⟨by rw [fO]; omega, by rw [fO]; omega, fun k hk => ?_⟩;unfold szK at hk;rcases List.mem_append.1 hk with h | h
 ·have := (List.mem_replicate.1 h).2; omega
 ·simp at h; omega
theorem yB {N : Nat} {s : Int} (h1 : 3 <= N) (h2 : N <= 16) (h3 : 1 <= s /\ s <= 64) {ev : Nat} (hev : ev <= 2305843009213693952) : kx (bW (szK N s)) 9 ev (neR N s) = true := by
 have hsec : ∀ k, k <= N -> kT (bW (szK N s)) (neR N s) k = true := fun k hk => by
  induction k with
  |zero => rfl
  |succ k ih =>
   refine m0 (ih (by omega)) ?_;have e : cW (bW (szK N s)) (k : Int) = ((2 + s).toNat : Int) := by
    unfold cW;rw [if_pos (la (by rw [dS]; omega))]
    show (((bW (szK N s)).ds.getD k bJ).S.length : Int) = _
    rw [gB (by omega)]
    show ((List.replicate (2 + s).toNat aB).length : Int) = _
    rw [List.length_replicate]
   rw [e]
   show ¬ (((2 + s).toNat : Nat) : Int) < 2 + s
   omega
 unfold kx;rw [lI h1 h2 h3.1 h3.2, dS, show (neR N s).m.toNat = N from kP N s, hsec N ai, al (show ¬ (9 : Nat) = 0 by decide), al (show ¬ 2305843009213693952 < ev by omega), am (show ((N + 1 : Nat) : Int) = (neR N s).m + 1 from rfl)]
 rfl
theorem aaw {N : Nat} {s : Int} (h1 : 3 <= N) (h2 : N <= 16) (h3 : 1 <= s /\ s <= 64) : xq (neR N s) = neR N s /\ o6 (neR N s) = 0 := by
 have hg : ei (neR N s) = true := am ⟨by show 3 <= (N : Int); omega, by show (N : Int) <= 16; omega, h3.1, h3.2, by show (40 : Int) <= 40; omega, by show (40 : Int) <= 256; omega⟩
 constructor
 ·unfold xq; rw [hg]; rfl
 ·unfold o6; rw [hg]; rfl
section
variable {id ev : Nat} {R : Ros} {M : aM} {k m : Nat} {h : HuS} {d : Int}
theorem dt {n : Nat} (h : Room M n) (hm : m <= n) : Room M m := ⟨by have := h.1; omega, h.2.1, fun d hd => by have := h.2.2 d hd; omega⟩
theorem aaR (h : Room M (k + 1)) (s : Stp) : Room (oy d M s) k := by
 cases s with
 |wr n b => exact ot h d n b
 |fl => exact zI h d
theorem abY (l : List Stp) : ∀ {M : aM}, Room M (k + l.length) -> Room (goB d M l) k := by
 induction l with
 |nil => intro M h; exact h
 |cons s l ih =>
  intro M h;rw [List.length_cons] at h;have h1 := aaR (d := d) (k := k + l.length) h s;rw [goB]
  split
  ·exact ih h1
  ·exact dt h1 (by omega)
theorem xd (h : Room M (k + 2)) : Room (dc id ev R M m) k := by
 unfold dc
 split
 ·exact abY _ h
 ·exact dt h (by omega)
theorem nS : ∀ (n m : Nat) (M : aM), Room M (k + 2 * n) -> Room (cO id ev R n m M).2.2 k
 |0, m, M, h => h
 |n + 1, m, M, h => by
  have h1 : Room (dc id ev R M m) (k + 2 * n) := xd (dt h (by omega));rw [cO]
  split
  ·exact nS n (m + 1) M (dt h (by omega))
  ·split
   ·exact dt h1 (by omega)
   ·split
    ·exact nS n (m + 1) _ h1
    ·exact dt h1 (by omega)
theorem sq (hf : a8 R = true) : R.m.toNat <= 16 := by
 unfold a8 at hf;simp only [Bool.and_eq_true] at hf;have := ez hf.1.1.1;omega
end
def oz (R : Ros) (j : Nat) : Bool := decide (sta R j ≠ 1)
structure OnS (h0 : HuS) (f : Nat) (h : HuS) : Prop where
 same : eP f h = eP 17 h0
 pot : gJ (oz h.R) h.R.m.toNat < f
 fine : a8 h.R = true
 id : h.id = h0.id
 m : h.R.m = h0.R.m
 ev : h.ev + f <= h0.ev + 17
 rm : Room h.M (34 * f)
theorem OnS.start {h : HuS} (hf : a8 h.R = true) (hr : Room h.M 600) : OnS h 17 h :=
 ⟨rfl, by have := sI (oz h.R) h.R.m.toNat; have := sq hf; omega, hf, rfl, rfl, ai, dt hr (by omega)⟩
section
variable {h0 h : HuS} {f m : Nat} {e : Int} {M' : aM}
theorem OnS.pos (k : OnS h0 f h) : ∃ f', f = f' + 1 := ⟨f - 1, by have := k.pot; omega⟩
theorem OnS.fin (k : OnS h0 f h) (ho : cO h.id (h.ev + 1) h.R h.R.m.toNat 0 h.M = (none, e, M')) : jb h0 = e /\ hU h0 = ⟨M', h.id, h.ev + 1, h.R⟩ := by
 obtain ⟨f', rfl⟩ := k.pos;have := k.same;rw [eP] at this;simp only [ho] at this;unfold jb hU;rw [<- this];exact ⟨rfl, rfl⟩
theorem jc {id ev : Nat} {R : Ros} : ∀ (k m : Nat) (M : aM) {d : Nat} {e : Int} {M' : aM}, cO id ev R k m M = (some d, e, M') -> m <= d /\ d < m + k /\ sta R d ≠ 1
 |0, m, M, d, e, M', h => by rw [cO] at h; cases h
 |k + 1, m, M, d, e, M', h => by
  rw [cO] at h
  split at h
  ·obtain ⟨h1, h2, h3⟩ := jc k (m + 1) M h;exact ⟨by omega, by omega, h3⟩
  ·rename_i hs
   split at h
   ·cases h;exact ⟨ai, by omega, hs⟩
   ·split at h
    ·obtain ⟨h1, h2, h3⟩ := jc k (m + 1) _ h;exact ⟨by omega, by omega, h3⟩
    ·cases h
theorem OnS.go (k : OnS h0 f h) {d : Nat} (ho : cO h.id (h.ev + 1) h.R h.R.m.toNat 0 h.M = (some d, e, M')) : ∃ f', f = f' + 1 /\ OnS h0 f' ⟨M', h.id, h.ev + 1, dh h.R d⟩ := by
 obtain ⟨f', rfl⟩ := k.pos;obtain ⟨_, hd, hs⟩ := jc _ _ _ ho;have hl := oF k.fine (d := d) (by omega) hs;refine ⟨f', rfl, ?_⟩;have hq : oz h.R d = true := am hs;have hq' : oz (dh h.R d) d = false := by unfold oz; rw [hl.2 d, if_pos rfl]; rfl
 have hsub : ∀ j, oz (dh h.R d) j = true -> oz h.R j = true := fun j hj => by
  unfold oz at hj ⊢;rw [hl.2 j] at hj;by_cases e : j = d
  ·rw [if_pos e] at hj; simp at hj
  ·rwa [if_neg e] at hj
 have hlt := oC hsub hq hq' (n := h.R.m.toNat) (by omega);have hr : Room M' (34 * f') := by
  have hm := sq k.fine;have h1 := nS (k := 34 * f' + 2) (id := h.id) (ev := h.ev + 1) (R := h.R) h.R.m.toNat 0 h.M (dt k.rm (by omega));rw [ho] at h1;exact dt h1 (by omega)
 refine ⟨?_, ?_, jF _ k.fine, k.id, hl.1.trans k.m, by have := k.ev; show h.ev + 1 + f' <= _; omega, hr⟩
 ·have := k.same;rw [eP] at this;simp only [ho] at this;exact this
 ·show gJ (oz (dh h.R d)) (dh h.R d).m.toNat < f'
  rw [hl.1];have := k.pot;omega
theorem qL {id ev : Nat} {R : Ros} {k m : Nat} {M : aM} (hs : sta R m ≠ 1) (he : dq id ev R M m = 0) : cO id ev R (k + 1) m M = cO id ev R k (m + 1) (dc id ev R M m) := by
 rw [cO, if_neg hs, if_neg (by rw [he]; decide), if_pos he]
theorem rF {id ev : Nat} {R : Ros} {k m : Nat} {M : aM} (hs : sta R m = 1) : cO id ev R (k + 1) m M = cO id ev R k (m + 1) M := by rw [cO, if_pos hs]
theorem rG {id ev : Nat} {R : Ros} {k m : Nat} {M : aM} (hs : sta R m ≠ 1) (he : dq id ev R M m = 9) : cO id ev R (k + 1) m M = (some m, 0, dc id ev R M m) := by rw [cO, if_neg hs, if_pos he]
theorem uv {id ev : Nat} {R : Ros} {k m : Nat} {M : aM} (hs : sta R m ≠ 1) (h0 : dq id ev R M m ≠ 0) (h9 : dq id ev R M m ≠ 9) : cO id ev R (k + 1) m M = (none, dq id ev R M m, dc id ev R M m) := by rw [cO, if_neg hs, if_neg h9, if_neg h0]
end
structure acD (R : Ros) (M : aM) : Prop where
 bz : M.bz = false
 left : M.left = 0
 len : R.m.toNat < M.ds.length
 two : ∀ m, m < R.m.toNat -> 2 <= (M.ds.getD m bJ).S.length
structure iW (M M' : aM) : Prop where
 bz : M'.bz = M.bz
 left : M.left = 0 -> M'.left = 0
 len : M'.ds.length = M.ds.length
 sl : ∀ j, (M'.ds.getD j bJ).S.length = (M.ds.getD j bJ).S.length
section
variable {R R' : Ros} {M M' M3 : aM} {m n id ev : Nat} {h : HuS} {b : Blk} {k : Nat}
theorem iW.refl (M : aM) : iW M M := ⟨rfl, fun e => e, rfl, fun _ => rfl⟩
theorem iW.trans (h : iW M M') (g : iW M' M3) : iW M M3 := ⟨g.bz.trans h.bz, fun e => g.left (h.left e), g.len.trans h.len, fun j => (g.sl j).trans (h.sl j)⟩
theorem vX {d : gG} (hk : m < M.ds.length) (hS : d.S.length = (M.ds.getD m bJ).S.length) {M' : aM} (hM : M' = M.done.put m d) : iW M M' := by
 subst hM;refine ⟨rfl, fun e => by show M.left - 1 = 0; omega, List.length_set, fun j => ?_⟩
 show ((M.ds.set m d).getD j bJ).S.length = _
 rw [qw _ _ _ _ _ hk]
 split
 ·rename_i e; subst e; exact hS
 ·rfl
theorem ye (hl : M.left = 0) (hd : M.bz = false) (hm : m < M.ds.length) (n : Int) (b : Blk) : iW M (dr M m n b) := by
 unfold dr
 split
 ·rw [if_neg (by omega)];exact vX (d := ⟨(M.dev (m : Int)).S, wrL (M.dev (m : Int)).S (M.dev (m : Int)).L (M.dev (m : Int)).g n b, (M.dev (m : Int)).g⟩) hm rfl rfl
 ·exact iW.refl M
end
def HRm (h : HuS) : Prop := Room h.M 600 /\ h.ev <= 4611686018427387000
section
variable {id ev : Nat} {R : Ros} {M : aM} {k m : Nat} {h : HuS} {d : Int}
structure HR (k : Nat) (h : HuS) : Prop where
 rm : Room h.M (600 * k)
 ev : h.ev + 17 * k <= 4611686018427387000
 fine : a8 h.R = true
 lit : acD h.R h.M
theorem HR.hrm (h' : HR (k + 1) h) : HRm h := ⟨dt h'.rm (by omega), by have := h'.ev; omega⟩
theorem HR.new {N : Nat} {s : Int} (h1 : 3 <= N) (h2 : N <= 16) (h3 : 1 <= s) (h4 : s <= 64) {n : Nat} (hn : n <= 1600) (id : Nat) : HR n ⟨bW (szK N s), id, 0, neR N s⟩ := ⟨pG (by omega), by show 0 + _ <= _; omega, lI h1 h2 h3 h4, rfl, rfl, by show (neR N s).m.toNat < _; rw [kP, dS]; omega, fun m hm => by
 have hm' : m < (neR N s).m.toNat := hm;rw [kP] at hm';rw [gB hm']
 show 2 <= (List.replicate _ _).length
 rw [List.length_replicate];omega⟩
end
open Go.RowKit Go.ChangeShapes Go.WideShapes Go.ChangeAt Go.Deep
theorem l9 : prog.cellsOf 3 = 1 := by kernel_rfl
theorem aaY : prog.cellsOf 30 = 1 := by kernel_rfl
theorem zw : prog.cellsOf 4 = 1 := by kernel_rfl
section
variable {H : Type} {enc : TypeId × Value -> H} {W : World} {base : Nat} {v : Value} {d : DataW H} {p : List MemPlace}
theorem ab8 {m : Nat} {x : Value} {y : DataW H × List MemPlace} (h : DataW.trod enc prog W 0 (fun _ => true) true m 5 [x] = some y) : ∃ u : UInt8, x = .int .u8 (u.toNat : Int) := by
 obtain ⟨k, e, _, hw⟩ := DataW.trod_int underlying5 h;have hr : 0 <= k /\ k <= 255 := bounds_u8 hw;injection e with e;refine ⟨UInt8.ofNat k.toNat, ?_⟩;rw [e, UInt8.toNat_ofNat']
 congr 1
 omega
theorem mG {m : Nat} {x : Value} {y : DataW H × List MemPlace} (h : DataW.trod enc prog W 0 (fun _ => true) true m 3 [x] = some y) : ∃ k : Int, x = .int .i64 k := by
 obtain ⟨k, e, _, hw⟩ := DataW.trod_int underlying3 h;injection e with e;exact ⟨k, e⟩
theorem abb {m : Nat} {x : Value} {y : DataW H × List MemPlace} (h : DataW.trod enc prog W 0 (fun _ => true) true m 30 [x] = some y) : ∃ k : Nat, x = .int .u64 (k : Int) /\ k < 18446744073709551616 := by
 obtain ⟨k, e, _, hw⟩ := DataW.trod_int underlying30 h;have hr := bounds_u64 hw;injection e with e;obtain ⟨n, rfl⟩ := Int.eq_ofNat_of_zero_le hr.1;exact ⟨n, e, by omega⟩
theorem yV {m : Nat} {x : Value} {y : DataW H × List MemPlace} (h : DataW.trod enc prog W 0 (fun _ => true) true m 4 [x] = some y) : ∃ k : Bool, x = .bool k := by
 obtain ⟨k, e, _⟩ := DataW.trod_bool underlying4 h;injection e with e;exact ⟨k, e⟩
end
theorem sU : prog.cellsOf 35 = 21 := by kernel_rfl
theorem sG : prog.cellsOf 32 = 3 := by kernel_rfl
theorem sC : prog.cellsOf 33 = 16 := by kernel_rfl
section
variable {H : Type} {enc : TypeId × Value -> H} {W : World} {base : Nat} {v : Value} {d : DataW H} {p : List MemPlace}
theorem acv {fuel : Nat} {cs : List Value} {x : DataW H × List MemPlace} (h : DataW.trod enc prog W 0 (fun _ => true) true fuel 33 cs = some x) : ∃ v : Vector UInt8 16, cs = vals v.toList := by
 obtain ⟨xs, m, _, _, hlen, hn, hel⟩ := DataW.trod_array underlying33 h;rw [sC] at hlen;rw [ti] at hel;have hu : ∀ i : Fin 16, ∃ u : UInt8, cs[i.val]? = some (.int .u8 (u.toNat : Int)) := fun i => by
  have h1 := hel i.val i.isLt;have hi : i.val < cs.length := by have := i.isLt; omega
  have hd : (cs.drop (i.val * 1)).take 1 = [cs[i.val]] := by
   rw [Nat.mul_one, List.drop_eq_getElem_cons hi]
   rfl
  have hx : i.val < xs.length := by have := i.isLt; omega
  rw [hd, List.getElem?_eq_getElem hx] at h1;obtain ⟨u, hu⟩ := ab8 h1;exact ⟨u, by rw [List.getElem?_eq_getElem hi, hu]⟩
 obtain ⟨f, hf⟩ := Classical.axiomOfChoice hu;refine ⟨Vector.ofFn f, ?_⟩;apply List.ext_getElem?;intro i;by_cases hi : i < 16
 ·rw [hf ⟨i, hi⟩];simp [vals, hi]
 ·rw [List.getElem?_eq_none (by omega), List.getElem?_eq_none (by rw [bi]; simp; omega)]
theorem abq {fuel : Nat} {cs : List Value} {x : DataW H × List MemPlace} (h : DataW.trod enc prog W 0 (fun _ => true) true fuel 32 cs = some x) : ∃ m s r : Int, cs = [.int .i64 m, .int .i64 s, .int .i64 r] := by
 obtain ⟨xs, k, _, _, hlen, hn, hel⟩ := DataW.trod_struct underlying32 h;rw [sG] at hlen;have hn' : xs.length = 3 := hn
 match cs, hlen, xs, hn' with
 |[a, b, c], _, [y0, y1, y2], _ =>
  have e0 : DataW.trod enc prog W 0 (fun _ => true) true k 3 ((List.drop 0 [a, b, c]).take (prog.cellsOf 3)) = some y0 := hel 0 _ rfl;rw [l9] at e0;have e1 : DataW.trod enc prog W 0 (fun _ => true) true k 3 ((List.drop 1 [a, b, c]).take (prog.cellsOf 3)) = some y1 := hel 1 _ rfl;rw [l9] at e1;have e2 : DataW.trod enc prog W 0 (fun _ => true) true k 3 ((List.drop 2 [a, b, c]).take (prog.cellsOf 3)) = some y2 := hel 2 _ rfl;rw [l9] at e2;obtain ⟨m, rfl⟩ := mG (show DataW.trod enc prog W 0 (fun _ => true) true k 3 [a] = some y0 from e0);obtain ⟨s, rfl⟩ := mG (show DataW.trod enc prog W 0 (fun _ => true) true k 3 [b] = some y1 from e1);obtain ⟨r, rfl⟩ := mG (show DataW.trod enc prog W 0 (fun _ => true) true k 3 [c] = some y2 from e2);exact ⟨m, s, r, rfl⟩
theorem abf {fuel : Nat} {cs : List Value} {x : DataW H × List MemPlace} (h : DataW.trod enc prog W 0 (fun _ => true) true fuel 35 cs = some x) : ∃ r : Ros, cs = aU r := by
 obtain ⟨xs, k, _, _, hlen, hn, hel⟩ := DataW.trod_struct underlying35 h;rw [sU] at hlen;have hn' : xs.length = 4 := hn
 match xs, hn' with
 |[y0, y1, y2, y3], _ =>
  have e0 : DataW.trod enc prog W 0 (fun _ => true) true k 32 ((List.drop 0 cs).take (prog.cellsOf 32)) = some y0 := hel 0 _ rfl;rw [sG] at e0;have e1 : DataW.trod enc prog W 0 (fun _ => true) true k 33 ((List.drop 3 cs).take (prog.cellsOf 33)) = some y1 := hel 1 _ rfl;rw [sC] at e1;have e2 : DataW.trod enc prog W 0 (fun _ => true) true k 3 ((List.drop 19 cs).take (prog.cellsOf 3)) = some y2 := hel 2 _ rfl;rw [l9] at e2;have e3 : DataW.trod enc prog W 0 (fun _ => true) true k 4 ((List.drop 20 cs).take (prog.cellsOf 4)) = some y3 := hel 3 _ rfl;rw [zw] at e3;obtain ⟨m, s, r, hg⟩ := abq (show DataW.trod enc prog W 0 (fun _ => true) true k 32 ((cs.drop 0).take 3) = some y0 from e0);obtain ⟨st, hst⟩ := acv (show DataW.trod enc prog W 0 (fun _ => true) true k 33 ((cs.drop 3).take 16) = some y1 from e1);have d2 : (cs.drop 19).take 1 = [cs[19]'(by omega)] := by rw [List.drop_eq_getElem_cons (by omega)]; rfl
  have d3 : (cs.drop 20).take 1 = [cs[20]'(by omega)] := by rw [List.drop_eq_getElem_cons (by omega)]; rfl
  obtain ⟨cur, hcur⟩ := mG (show DataW.trod enc prog W 0 (fun _ => true) true k 3 [cs[19]'(by omega)] = some y2 from by rw [<- d2]; exact e2);obtain ⟨gone, hgone⟩ := yV (show DataW.trod enc prog W 0 (fun _ => true) true k 4 [cs[20]'(by omega)] = some y3 from by rw [<- d3]; exact e3);refine ⟨⟨m, s, r, st, cur, gone⟩, ?_⟩;have hsplit : cs = (cs.drop 0).take 3 ++ ((cs.drop 3).take 16 ++ [cs[19]'(by omega), cs[20]'(by omega)]) := by
   have h3 : cs.drop 19 = [cs[19]'(by omega), cs[20]'(by omega)] := by
    rw [List.drop_eq_getElem_cons (by omega), List.drop_eq_getElem_cons (by omega), List.drop_of_length_le (by omega)]
   rw [<- h3, List.drop_zero];have h4 : (cs.drop 3).take 16 ++ cs.drop 19 = cs.drop 3 := by
    have := List.take_append_drop 16 (cs.drop 3);rwa [List.drop_drop] at this
   rw [h4, List.take_append_drop]
  rw [hsplit, hg, hst, hcur, hgone]
  rfl
end
theorem y5 : prog.cellsOf 37 = 23 := by kernel_rfl
section
variable {H : Type} {enc : TypeId × Value -> H} {W : World} {base : Nat} {v : Value} {d : DataW H} {p : List MemPlace}
theorem aaT {fuel : Nat} {cs : List Value} {x : DataW H × List MemPlace} (h : DataW.trod enc prog W 0 (fun _ => true) true fuel 37 cs = some x) : ∃ s : Sup, cs = aV s /\ s.id < 18446744073709551616 := by
 obtain ⟨xs, k, _, _, hlen, hn, hel⟩ := DataW.trod_struct underlying37 h;rw [y5] at hlen;have hn' : xs.length = 3 := hn
 match cs, hlen, xs, hn' with
 |a :: b :: r, hlen, [y0, y1, y2], _ =>
  have e0 : DataW.trod enc prog W 0 (fun _ => true) true k 30 ((List.drop 0 (a :: b :: r)).take (prog.cellsOf 30)) = some y0 := hel 0 _ rfl;rw [aaY] at e0;have e1 : DataW.trod enc prog W 0 (fun _ => true) true k 3 ((List.drop 1 (a :: b :: r)).take (prog.cellsOf 3)) = some y1 := hel 1 _ rfl;rw [l9] at e1;have e2 : DataW.trod enc prog W 0 (fun _ => true) true k 35 ((List.drop 2 (a :: b :: r)).take (prog.cellsOf 35)) = some y2 := hel 2 _ rfl;rw [sU] at e2;obtain ⟨id, rfl, hid⟩ := abb (show DataW.trod enc prog W 0 (fun _ => true) true k 30 [a] = some y0 from e0);obtain ⟨self, rfl⟩ := mG (show DataW.trod enc prog W 0 (fun _ => true) true k 3 [b] = some y1 from e1);have hr : r.take 21 = r := List.take_of_length_le (by simp at hlen; omega);obtain ⟨ro, hro⟩ := abf (show DataW.trod enc prog W 0 (fun _ => true) true k 35 (r.take 21) = some y2 from e2);exact ⟨⟨id, self, ro⟩, by rw [<- hr, hro]; rfl, hid⟩
end
theorem aaJ : prog.cellsOf 29 = 64 := by kernel_rfl
section
variable {H : Type} {enc : TypeId × Value -> H} {W : World} {base : Nat} {v : Value} {d : DataW H} {p : List MemPlace}
theorem aax {m : Nat} {x : Value} {y : DataW H × List MemPlace} (h : DataW.trod enc prog W 0 (fun _ => true) true m 5 [x] = some y) : ∃ u : UInt8, x = .int .u8 (u.toNat : Int) := by
 obtain ⟨k, e, _, hw⟩ := DataW.trod_int underlying5 h;have hr : 0 <= k /\ k <= 255 := bounds_u8 hw;injection e with e;refine ⟨UInt8.ofNat k.toNat, ?_⟩;rw [e, UInt8.toNat_ofNat']
 congr 1
 omega
theorem oT {fuel : Nat} {cs : List Value} {x : DataW H × List MemPlace} (h : DataW.trod enc prog W 0 (fun _ => true) true fuel 29 cs = some x) : ∃ b : Blk, cs = cel b := by
 obtain ⟨xs, m, _, _, hlen, hn, hel⟩ := DataW.trod_array qY h;rw [aaJ] at hlen;rw [ti] at hel;have hu : ∀ i : Fin 64, ∃ u : UInt8, cs[i.val]? = some (.int .u8 (u.toNat : Int)) := fun i => by
  have h1 := hel i.val i.isLt;have hi : i.val < cs.length := by have := i.isLt; omega
  have hd : (cs.drop (i.val * 1)).take 1 = [cs[i.val]] := by
   rw [Nat.mul_one, List.drop_eq_getElem_cons hi]
   rfl
  have hx : i.val < xs.length := by have := i.isLt; omega
  rw [hd, List.getElem?_eq_getElem hx] at h1;obtain ⟨u, hu⟩ := aax h1;exact ⟨u, by rw [List.getElem?_eq_getElem hi, hu]⟩
 obtain ⟨f, hf⟩ := Classical.axiomOfChoice hu;refine ⟨Vector.ofFn f, ?_⟩;apply List.ext_getElem?;intro i;by_cases hi : i < 64
 ·rw [hf ⟨i, hi⟩, kj _ hi, ju _ hi];simp
 ·rw [List.getElem?_eq_none (by omega), List.getElem?_eq_none (by rw [aF]; omega)]
end
section
variable {H : Type} {enc : TypeId × Value -> H} {W : World} {base : Nat} {v : Value} {d : DataW H} {p : List MemPlace}
theorem nY {α : Type} (E : Elt α) (Good : α -> Prop) (hc : prog.cellsOf E.t = E.n) {fuel : Nat} {cs : List Value} {x : DataW H × List MemPlace} (hf : DataW.trod enc prog W 0 (fun _ => true) true fuel E.s cs = some x)
  (hE : ∀ (fuel : Nat) (cs : List Value) (x : DataW H × List MemPlace), DataW.trod enc prog W 0 (fun _ => true) true fuel E.t cs = some x -> ∃ a, cs = E.cel a /\ Good a) :
  ∃ (A : Option Addr) (n c : Nat) (l : List α), cs = [.slice A n c] /\ RdE E W W.heap.size A n l /\ n <= c /\ c <= maxLen /\ ∀ k, k < n -> Good (l.getD k E.d) := by
 rcases open_slice E.und hf with ⟨hcs, hx⟩ | ⟨a, len0, cap, m, n, D, Pl, hcs, hb, hl, hm, hmm, hx, hel⟩
 ·exact ⟨none, 0, 0, [], hcs, RdE.nil _ _ _, by omega, by unfold maxLen; omega, fun k hk => absurd hk (by omega)⟩
 ·simp only [if_true] at hmm;subst hmm
  haveI : Inhabited α := ⟨E.d⟩
  obtain ⟨f, hf2⟩ := choose_lt (α := α) (p := fun i b => W.cells? 0 (a.add (i * E.n)) E.n = some (E.cel b) /\ Good b) (n := m) (fun i hi => by
   obtain ⟨cs', h1, h2⟩ := hel i hi;rw [hc] at h1;obtain ⟨b, rfl, hg⟩ := hE _ _ _ h2;exact ⟨b, h1, hg⟩)
  have hp := E.pos;refine ⟨some a, len0, m, (List.range len0).map f, hcs, ⟨by simp, fun k hk => ?_⟩, hl, hm, fun k hk => ?_⟩
  ·obtain ⟨b, off, spot⟩ := a;have hzero : ∀ i, ∃ u, (E.cel (f i))[0]? = some u := fun i => ⟨_, List.getElem?_eq_getElem (by rw [E.len]; exact hp)⟩
   have hspot : spot = none := by
    obtain ⟨u, hu⟩ := hzero 0;have h0 := (World.cells?_some (hf2 0 (by omega)).1).2.2 0 hp;rw [hu] at h0;have := World.cell?_spot h0
    simpa [Addr.add] using this
   subst hspot;have hcc := World.cells?_some (hf2 k (by omega)).1;refine ⟨b, off, rfl, ?_, fun j u hj => ?_⟩
   ·obtain ⟨u, hu⟩ := hzero k;have h0 := hcc.2.2 0 hp;rw [hu, add_mid, add_mid] at h0;exact World.block_lt_of_cell? W _ h0
   ·have hlt : j < E.n := by have := (List.getElem?_eq_some_iff.1 hj).1; rwa [E.len] at this
    have h1 := hcc.2.2 j hlt;rw [add_mid, add_mid] at h1;rw [h1, <- hj];simp [List.getD, hk]
  ·simpa [List.getD, hk] using (hf2 k (by omega)).2
theorem uh {α : Type} (E : Elt α) (Good : α -> Prop) (hc : prog.cellsOf E.t = E.n) (hv : Value.okWide prog W .any base E.s v) (h : DataW.Trod enc prog W 0 (fun _ => true) true E.s v d p)
  (hE : ∀ (fuel : Nat) (cs : List Value) (x : DataW H × List MemPlace), DataW.trod enc prog W 0 (fun _ => true) true fuel E.t cs = some x -> ∃ a, cs = E.cel a /\ Good a) :
  ∃ (A : Option Addr) (n c : Nat) (l : List α), v = .slice A n c /\ RdE E W W.heap.size A n l /\ n <= c /\ c <= maxLen /\ ∀ k, k < n -> Good (l.getD k E.d) := by
 obtain ⟨a0, len0, cap0, rfl⟩ := okWide_slice E.und hv;obtain ⟨fuel, hf⟩ := h;obtain ⟨A, n, c, l, hcs, rest⟩ := nY E Good hc hf hE;simp [Value.cells] at hcs;obtain ⟨rfl, rfl, rfl⟩ := hcs;exact ⟨_, _, _, l, rfl, rest⟩
theorem kO (fuel : Nat) (cs : List Value) (x : DataW H × List MemPlace) (h : DataW.trod enc prog W 0 (fun _ => true) true fuel 3 cs = some x) : ∃ a : Int, cs = [.int .i64 a] /\ (Lit.int .i64 a).wf = true := by
 obtain ⟨k, e, _, hw⟩ := DataW.trod_int underlying3 h;exact ⟨k, e, hw⟩
end
end Go.Proofs.YtehefifamaofkaaGreatDoor
