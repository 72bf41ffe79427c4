import Derived.Test.YtehefifamaofkaaGreatDoorGnaf
import Derived.LaidEqlPtr
import Derived.Deep.Slices
namespace Go.Proofs.YtehefifamaofkaaGreatDoor
set_option maxHeartbeats 8000000
open Go.Proofs.Tryz
open Go.RowKit
set_option linter.unusedVariables false
set_option maxRecDepth 100000
structure Fnd where
 ev : Nat
 id : Nat
 R : Ros
deriving DecidableEq
def bP : Fnd := ⟨0, 0, bI⟩
def m9 (M : aJ) (s : Int) : Nat -> Bool
 |0 => true
 |k + 1 => m9 M s k && !decide (dv M (k : Int) < 2 + s)
def gaF (M : aJ) (n : Nat) (R : Ros) : Bool := decide (n <= 2305843009213693952) && decide ((M.ds.length : Int) = R.m + 1) && !decide (dv M R.m < 10 + R.r) && m9 M R.s R.m.toNat
def gaX (M : aJ) (d : Int) : Blk := dx M d 0
def gaY (M : aJ) (d : Int) : Blk := dx M d 1
def gaQ (M : aJ) (d : Int) : Bool := decide (0 <= d /\ d < (M.ds.length : Int) - 1) && decide (ce M d 0 = 0) && decide (ce M d 1 = 0) && decide (nwE (gaX M d) (gaY M d) = 0) && gaF M (nwN (gaX M d) (gaY M d)) (nwS (gaX M d) (gaY M d)).ros
def gaE (M : aJ) (d : Int) : Int := if M.bH = true then 8 else if gaQ M d = true then 0 else 7
def gaN (M : aJ) (d : Int) : Nat := if gaE M d = 0 then nwN (gaX M d) (gaY M d) else 0
def gaS (M : aJ) (d : Int) : Sup := if gaE M d = 0 then nwS (gaX M d) (gaY M d) else bg
def gaU (o : Option Fnd) (n : Nat) : Bool := match o with
 |none => true
 |some f => decide (f.ev < n)
def gaP (M : aJ) (d : Int) : Fnd := ⟨gaN M d, (gaS M d).id, (gaS M d).ros⟩
def gaK (M : aJ) : Nat -> Option Fnd
 |0 => none
 |k + 1 => if gaE M (k : Int) = 0 /\ gaU (gaK M k) (gaN M (k : Int)) = true then some (gaP M (k : Int)) else gaK M k
def lI (x y : Ros) : Bool := decide (x.m = y.m /\ x.s = y.s /\ x.r = y.r)
def gaW (M : aJ) (f : Fnd) (j : Nat) : Bool := decide (gaE M (j : Int) = 0) && decide ((gaS M (j : Int)).self = (j : Int)) && decide ((gaS M (j : Int)).id = f.id) && lI (gaS M (j : Int)).ros f.R
def gaL (M : aJ) (f : Fnd) : Nat -> Ros
 |0 => f.R
 |k + 1 => if gaW M f k = true then gaL M f k else cQ (gaL M f k) (k : Int)
def gaO (M : aJ) : Option Fnd := gaK M (M.ds.length - 1)
def glE (M : aJ) : Int := if M.bH = true then 8 else match gaO M with
 |none => 7
 |some _ => 0
def glF (M : aJ) : Fnd := if M.bH = true then bP else match gaO M with
 |none => bP
 |some f => ⟨f.ev, f.id, gaL M f f.R.m.toNat⟩
section
variable {M : aJ} {d : Int} {f : Fnd} {a b : Blk}
theorem vP (M : aJ) (d : Int) : (gaE M d = 8 /\ M.bH = true) \/ (gaE M d = 0 /\ M.bH = false /\ gaQ M d = true) \/ (gaE M d = 7 /\ M.bH = false /\ gaQ M d = false) := by
 unfold gaE;cases h : M.bH
 ·rw [if_neg (by decide)];cases h2 : gaQ M d
  ·exact .inr (.inr ⟨rfl, rfl, rfl⟩)
  ·exact .inr (.inl ⟨rfl, rfl, rfl⟩)
 ·exact .inl ⟨rfl, rfl⟩
theorem iS (h : gaQ M d = true) : (0 <= d /\ d < (M.ds.length : Int) - 1) /\ ce M d 0 = 0 /\ ce M d 1 = 0 /\ nwE (gaX M d) (gaY M d) = 0 /\ gaF M (nwN (gaX M d) (gaY M d)) (nwS (gaX M d) (gaY M d)).ros = true := by
 unfold gaQ at h;simp only [Bool.and_eq_true, decide_eq_true_eq] at h;exact ⟨h.1.1.1.1, h.1.1.1.2, h.1.1.2, h.1.2, h.2⟩
theorem vz (h : gaE M d = 0) : M.bH = false /\ gaQ M d = true := by
 rcases vP M d with ⟨e, _⟩ | ⟨_, e⟩ | ⟨e, _⟩
 ·omega
 ·exact e
 ·omega
theorem pD (h : gaE M d = 0) : gaN M d = nwN (gaX M d) (gaY M d) /\ gaS M d = nwS (gaX M d) (gaY M d) := ⟨if_pos h, if_pos h⟩
theorem lR (h : gaE M d ≠ 0) : gaN M d = 0 /\ gaS M d = bg := ⟨if_neg h, if_neg h⟩
theorem mO {n : Nat} {R : Ros} (h : gaF M n R = true) : n <= 2305843009213693952 /\ (M.ds.length : Int) = R.m + 1 /\ 10 + R.r <= dv M R.m /\ m9 M R.s R.m.toNat = true := by
 unfold gaF at h;simp only [Bool.and_eq_true, decide_eq_true_eq, Bool.not_eq_true', decide_eq_false_iff_not] at h;exact ⟨h.1.1.1, h.1.1.2, by omega, h.2⟩
theorem yw {n : Nat} {R : Ros} (h : n <= 2305843009213693952 /\ (M.ds.length : Int) = R.m + 1 /\ 10 + R.r <= dv M R.m /\ m9 M R.s R.m.toNat = true) : gaF M n R = true := by
 unfold gaF;simp only [Bool.and_eq_true, decide_eq_true_eq, Bool.not_eq_true', decide_eq_false_iff_not];exact ⟨⟨⟨h.1, h.2.1⟩, by omega⟩, h.2.2.2⟩
theorem i7 {s : Int} : ∀ {k : Nat}, m9 M s k = true ↔ ∀ j, j < k -> 2 + s <= dv M (j : Int)
 |0 => ⟨fun _ j hj => absurd hj (by omega), fun _ => rfl⟩
 |k + 1 => by
  rw [m9, Bool.and_eq_true, Bool.not_eq_true', decide_eq_false_iff_not, i7 (k := k)]
  constructor
  ·rintro ⟨h1, h2⟩ j hj;by_cases e : j = k
   ·subst e; omega
   ·exact h1 j (by omega)
  ·exact fun h => ⟨fun j hj => h j (by omega), by have := h k (by omega); omega⟩
theorem tN (h : nwE a b = 0) : 1 <= nwN a b /\ ef (nwS a b) = true /\ (nwS a b).id < 18446744073709551616 := by
 unfold nwE at h;have h' : ¬ (gsN a = 0 /\ gsN b = 0) := fun e => by rw [if_pos e] at h; cases h
 unfold nwN nwS;by_cases e : gsN a < gsN b
 ·rw [if_pos e, if_pos e];have h0 : gsE b = 0 := Decidable.byContradiction fun x => by have := iW x; omega
  have := o8 h0;exact ⟨by omega, this.2.2.1, this.2.2.2⟩
 ·rw [if_neg e, if_neg e];have h0 : gsE a = 0 := Decidable.byContradiction fun x => by have := iW x; omega
  have := o8 h0;exact ⟨by omega, this.2.2.1, this.2.2.2⟩
theorem qA (h : gaE M d = 0) : (1 <= gaN M d /\ gaN M d <= 2305843009213693952) /\ (gaS M d).id ≠ 0 /\ aW (gaS M d).ros = true /\ (0 <= (gaS M d).self /\ (gaS M d).self < (gaS M d).ros.m) /\ (M.ds.length : Int) = (gaS M d).ros.m + 1 /\ 10 + (gaS M d).ros.r <= dv M (gaS M d).ros.m /\ ∀ j, j < (gaS M d).ros.m.toNat -> 2 + (gaS M d).ros.s <= dv M (j : Int) := by
 obtain ⟨e1, e2⟩ := pD h;obtain ⟨_, _, _, q4, q5⟩ := iS (vz h).2;obtain ⟨f1, f2, f3, f4⟩ := mO q5;obtain ⟨n1, n2, n3⟩ := tN q4;obtain ⟨s1, s2, s3⟩ := kj n2;rw [e1, e2];exact ⟨⟨n1, f1⟩, s1, s2, s3, f2, f3, i7.1 f4⟩
theorem nJ {f : Fnd} (hf : aW f.R = true) : ∀ k, aW (gaL M f k) = true /\ (gaL M f k).m = f.R.m /\ (gaL M f k).s = f.R.s /\ (gaL M f k).r = f.R.r
 |0 => ⟨hf, rfl, rfl, rfl⟩
 |k + 1 => by
  obtain ⟨h1, h2, h3, h4⟩ := nJ hf k;rw [gaL]
  split
  ·exact ⟨h1, h2, h3, h4⟩
  ·have hx : ∀ (x : Ros) (m : Int), (cQ x m).m = x.m /\ (cQ x m).s = x.s /\ (cQ x m).r = x.r := fun x m => by
    unfold cQ
    split
    ·split <;> exact ⟨rfl, rfl, rfl⟩
    ·exact ⟨rfl, rfl, rfl⟩
   obtain ⟨x1, x2, x3⟩ := hx (gaL M f k) (k : Int);exact ⟨je _ h1, x1.trans h2, x2.trans h3, x3.trans h4⟩
end
def bN (x : Fnd) : List Value := .int .u64 x.ev :: .int .u64 x.id :: aQ x.R
def fnd (x : Fnd) : Value := .agg (bN x).toArray
theorem bp (x : Fnd) : (bN x).length = 23 := by simp [bN, aU]
theorem mf (x : Fnd) : ∀ v ∈ bN x, v.oneCell' = true := by
 intro v hv;simp only [bN, List.mem_cons] at hv;rcases hv with rfl | rfl | hv
 ·rfl
 ·rfl
 ·exact fW _ v hv
theorem iN : (prog.info? 50).map (·.size) = some 23 := by kernel_rfl
theorem j5 : (prog.info? 50).map (fun i => i.zero) = some (some (fnd bP)) := by kernel_rfl
section
variable {ρ : Operand -> Value} {o : Oper} {x y : Operand} {w : World} {b off : Nat}
theorem gR {c : Fnd} (ho : o.op = .load 50 x) (hx : ρ x = .pointer (some ⟨b, off, none⟩)) (hc : w.rangeAt b off (bN c)) : (execOp ρ o).run prog w = .ok (.value (fnd c)) w :=
 ec underlying50 rfl (by rw [bp]; exact iN) ho hx hc
theorem q9 {c : Fnd} (ho : o.op = .box 50 x) (hx : ρ x = fnd c) : (execOp ρ o).run prog w = .ok (.value (.pointer (some ⟨w.heap.size, 0, none⟩))) (w.alloc (.cells (bN c).toArray 50)) := et ho hx
theorem cU (ho : o.op = .alloc 50) : (execOp ρ o).run prog w = .ok (.value (.pointer (some ⟨w.heap.size, 0, none⟩))) (w.alloc (.cells (bN bP).toArray 50)) := dl j5 ho
theorem eh {c d : Fnd} (ho : o.op = .store 50 x y) (hx : ρ x = .pointer (some ⟨w.heap.size, 0, none⟩)) (hy : ρ y = fnd c) : (execOp ρ o).run prog (w.alloc (.cells (bN d).toArray 50)) = .ok .skip (w.alloc (.cells (bN c).toArray 50)) :=
 fP (by rw [bp]; exact iN) (by rw [bp, bp]) (mf c) ho hx hy
theorem gn {c : Fnd} (ho : o.op = .store 50 x y) (hx : ρ x = .pointer (some ⟨b, off, none⟩)) (hy : ρ y = fnd c) (ht : w.there b off 23) : (execOp ρ o).run prog w = .ok .skip (w.setCells b off (bN c)) :=
 el (by rw [bp]; exact iN) (mf c) ho hx hy (by rw [bp]; exact ht)
theorem ti (w : World) : (Instr.build 50 #[]).run prog w = .ok (fnd bP) w := by kernel_rfl
theorem i4 (ho : o.op = .build 50 #[]) : (execOp ρ o).run prog w = .ok (.value (fnd bP)) w := fN ho (ti w)
end
structure sm (P : oN) : Prop where
 super : ∀ {w F q M} (d : Int), P.Bn w F q M -> Tab w -> Calls prog 18 #[.pointer (some ⟨q, 0, none⟩), .int .i64 d] w fun e w' => e = .returned (.tuple #[.int .u64 (gaN M d : Nat), sup (gaS M d), .int .i64 (gaE M d)]) /\ Below w.heap.size w w'
 look : ∀ {w F q M}, P.Bn w F q M -> Tab w -> Calls prog 20 #[.pointer (some ⟨q, 0, none⟩)] w fun e w' => e = .returned (.tuple #[fnd (glF M), .int .i64 (glE M)]) /\ Below w.heap.size w w'
set_option linter.unusedSimpArgs false
theorem xQ {x : Ros} (hf : aW x = false) (w : World) : Calls prog 31 #[ros x] w fun e w' => e = .returned (.int .i64 0) /\ Below w.heap.size w w' := by
 have HT1 := ae (fd.new w x);have HF := ae hf;clear hf;go_enter func31, ntmps31;go_wp2_with (first | (refine au rfl (bc rfl rfl) ?_) | fail);generalize w.alloc (.cells (aQ x).toArray 35) = w1 at *;have ht1 := HT1.out;clear HT1
 go_loopw [3, 4] (fun n i wr => ∃ j : Nat, j <= 16 /\ i = .int .i64 j /\ n = .int .i64 (0 : Nat) /\ fd w wr x) (fun _ i _ => 16 - (intOf i).toNat)
 case atStart => exact ⟨0, Nat.zero_le _, rfl, rfl, ht1⟩
 case round =>
  clear ht1;obtain ⟨j, hj, rfl, rfl, ht⟩ := hrel;have HT := ae ht;clear ht;by_cases hlt : j < 16
  ·have H16 : Hid (decide ((j : Int) < 16) = true) := ae (am (by omega));go_upto_region 3 with fail;refine bj 1 ?_;refine aa3 (bF true rfl abd evk H16) ?_;refine runs 1 ?_;refine aba (aR rfl abd (HT.out.at0)) ?_;refine ay aaY (aB call24 rfl (evc abd evn)) ?_;refine (ed wr HF).mono ?_;rintro e w2 ⟨rfl, hb⟩;have HT2 := ae (HT.out.call hb);clear hb HT;refine br ?_;refine aK 1 ?_;go_wp2_with fail;go_ret;exact ⟨rfl, HT2.out.bel⟩
  ·have e : j = 16 := by omega
   subst e;go_wp2;go_ret;exact ⟨rfl, HT.out.bel⟩
theorem xH {x : Ros} (hf : aW x = true) (w : World) : Calls prog 31 #[ros x] w fun e w' => e = .returned (.int .i64 (outs x : Nat)) /\ Below w.heap.size w w' := by
 have HT1 := ae (fd.new w x);have HF := ae hf;clear hf;go_enter func31, ntmps31;go_wp2_with (first | (refine au rfl (bc rfl rfl) ?_) | fail);generalize w.alloc (.cells (aQ x).toArray 35) = w1 at *;have ht1 := HT1.out;clear HT1;have HS : Hid (∀ j, sta x j = bt x.st.toList j) := ae fun _ => rfl
 go_loopw [3, 4] (fun n i wr => ∃ j : Nat, j <= 16 /\ i = .int .i64 j /\ n = .int .i64 (oI x.st.toList j : Nat) /\ fd w wr x) (fun _ i _ => 16 - (intOf i).toNat)
 case atStart => exact ⟨0, Nat.zero_le _, rfl, rfl, ht1⟩
 case round =>
  clear ht1;obtain ⟨j, hj, rfl, rfl, ht⟩ := hrel;have HT := ae ht;clear ht;by_cases hlt : j < 16
  ·have H16 : Hid (decide ((j : Int) < 16) = true) := ae (am (by omega));go_upto_region 3 with fail;refine bj 1 ?_;refine aa3 (bF true rfl abd evk H16) ?_;refine runs 1 ?_;refine aba (aR rfl abd (HT.out.at0)) ?_;refine ay aaY (aB call24 rfl (evc abd evn)) ?_;refine (ed wr HF).mono ?_;rintro e w2 ⟨rfl, hb⟩;have HT2 := ae (HT.out.call hb);clear hb HT;refine br ?_;refine aK 1 ?_;have HK := ae (jw x.st.toList j);have hle := wT x.st.toList j;generalize oI x.st.toList j = n at *;go_upto_region 5 with fail;refine bj 1 ?_;refine aa3 (ax rfl abd lX) ?_;refine aa3 (cY rfl abd abd (nt hlt)) ?_;refine aa3 (aF rfl abd (oy ((HT2.out.at0).sta hlt))) ?_;by_cases h0 : sta x j = 0
   ·rw [if_pos (by rw [<- HS.out]; exact h0)] at HK;have H0 : Hid ((sta x j != 0) = false) := ae (by simpa using h0);clear h0;refine aa3 (aT false rfl abd evk H0) ?_;refine ag ?_;go_wp2_with fail;go_roundw
    case rel => exact ⟨j + 1, by omega, by go_num, by rw [HK.out]; rfl, HT2⟩
    case measure => simp [intOf]; omega
   ·rw [if_neg (by rw [<- HS.out]; exact h0)] at HK;have H0 : Hid ((sta x j != 0) = true) := ae (by simpa using h0);clear h0;refine aa3 (aT true rfl abd evk H0) ?_;refine ag ?_;go_wp2_with fail;go_roundw
    case rel => exact ⟨j + 1, by omega, by go_num, by rw [HK.out]; go_num, HT2⟩
    case measure => simp [intOf]; omega
  ·have e : j = 16 := by omega
   subst e;go_wp2;go_ret;exact ⟨rfl, HT.out.bel⟩
theorem aaf (x : Ros) (w : World) : Calls prog 31 #[ros x] w fun e w' => e = .returned (.int .i64 (fk x : Nat)) /\ Below w.heap.size w w' := by
 unfold fk;cases hf : aW x
 ·exact xQ hf w
 ·exact xH hf w
theorem eK {x : Ros} {n : Nat} (w : World) (h : fk x = n) : Calls prog 31 #[ros x] w fun e w' => e = .returned (.int .i64 (n : Nat)) /\ Below w.heap.size w w' := by subst h; exact aaf x w
theorem uJ {x : Ros} (hf : aW x = false) (w : World) : Calls prog 88 #[ros x] w fun e w' => e = .returned (.tuple #[.int .i64 0, .bool false]) /\ Below w.heap.size w w' := by
 have HT1 := ae (fd.new w x);have HF := ae hf;clear hf;go_enter func88, ntmps88;go_wp2_with (first | (refine au rfl (bc rfl rfl) ?_) | fail);generalize w.alloc (.cells (aQ x).toArray 35) = w1 at *;have ht1 := HT1.out;clear HT1
 go_loopw [4] (fun i wr => ∃ j : Nat, j <= 16 /\ i = .int .i64 j /\ fd w wr x) (fun i _ => 16 - (intOf i).toNat)
 case atStart => exact ⟨0, Nat.zero_le _, rfl, ht1⟩
 case round =>
  clear ht1;obtain ⟨j, hj, rfl, ht⟩ := hrel;have HT := ae ht;clear ht;by_cases hlt : j < 16
  ·have H16 : Hid (decide ((j : Int) < 16) = true) := ae (am (by omega));go_upto_region 2 with fail;refine bj 1 ?_;refine aa3 (bF true rfl abd evk H16) ?_;refine runs 1 ?_;refine aba (aR rfl abd (HT.out.at0)) ?_;refine ay aaY (aB call24 rfl (evc abd evn)) ?_;refine (ed wr HF).mono ?_;rintro e w2 ⟨rfl, hb⟩;have HT2 := ae (HT.out.call hb);clear hb HT;refine br ?_;refine aK 1 ?_;go_wp2_with fail;go_ret2;exact ⟨rfl, HT2.out.bel⟩
  ·have e : j = 16 := by omega
   subst e;go_wp2;go_ret2;exact ⟨rfl, HT.out.bel⟩
theorem ur {x : Ros} (hf : aW x = true) (w : World) : Calls prog 88 #[ros x] w fun e w' => e = .returned (.tuple #[.int .i64 ((jm x).getD 0 : Nat), .bool (jm x).isSome]) /\ Below w.heap.size w w' := by
 have HT1 := ae (fd.new w x);have HF := ae hf;clear hf;go_enter func88, ntmps88;go_wp2_with (first | (refine au rfl (bc rfl rfl) ?_) | fail);generalize w.alloc (.cells (aQ x).toArray 35) = w1 at *;have ht1 := HT1.out;clear HT1;have HJ := ae (sp x);have HS : Hid (∀ j, sta x j = bt x.st.toList j) := ae fun _ => rfl
 go_loopw [4] (fun i wr => ∃ j : Nat, j <= 16 /\ i = .int .i64 j /\ fd w wr x /\ jl x.st.toList j = none) (fun i _ => 16 - (intOf i).toNat)
 case atStart => exact ⟨0, Nat.zero_le _, rfl, ht1, rfl⟩
 case round =>
  clear ht1;obtain ⟨j, hj, rfl, ht, h0⟩ := hrel;have HT := ae ht;clear ht;have H0 := ae h0;clear h0;by_cases hlt : j < 16
  ·have H16 : Hid (decide ((j : Int) < 16) = true) := ae (am (by omega));go_upto_region 2 with fail;refine bj 1 ?_;refine aa3 (bF true rfl abd evk H16) ?_;refine runs 1 ?_;refine aba (aR rfl abd (HT.out.at0)) ?_;refine ay aaY (aB call24 rfl (evc abd evn)) ?_;refine (ed wr HF).mono ?_;rintro e w2 ⟨rfl, hb⟩;have HT2 := ae (HT.out.call hb);clear hb HT;refine br ?_;refine aK 1 ?_;go_upto_region 4 with fail;refine bj 1 ?_;refine aa3 (ax rfl abd lX) ?_;refine aa3 (cY rfl abd abd (nt hlt)) ?_;refine aa3 (aF rfl abd (oy ((HT2.out.at0).sta hlt))) ?_;by_cases h2 : sta x j = 2
   ·have HE : Hid (jm x = some j) := ae (HJ.out.trans (xY H0 ((HS.out j).symm.trans h2) hlt));have H2 : Hid ((sta x j == 2) = true) := ae (by simpa using h2);clear h2;refine aa3 (aE true rfl abd evk H2) ?_;refine ag ?_;go_wp2_with fail;go_ret2;exact ⟨by rw [HE.out]; rfl, HT2.out.bel⟩
   ·have HE := ae (sL H0 (fun e => h2 ((HS.out j).trans e)));have H2 : Hid ((sta x j == 2) = false) := ae (by simpa using h2);clear h2;refine aa3 (aE false rfl abd evk H2) ?_;refine ag ?_;go_wp2_with fail;go_roundw
    case rel => exact ⟨j + 1, by omega, by go_num, HT2, HE⟩
    case measure => simp [intOf]; omega
  ·have e : j = 16 := by omega
   subst e;have HE : Hid (jm x = none) := ae (HJ.out.trans H0);go_wp2;go_ret2;exact ⟨by rw [HE.out]; rfl, HT.out.bel⟩
theorem zn (x : Ros) (w : World) : Calls prog 88 #[ros x] w fun e w' => e = .returned (.tuple #[.int .i64 (jz x : Nat), .bool (gH x)]) /\ Below w.heap.size w w' := by
 unfold jz gH;cases hf : aW x
 ·exact uJ hf w
 ·exact ur hf w
theorem dP {x : Ros} {m : Nat} {b : Bool} (w : World) (hm : jz x = m) (hb : gH x = b) : Calls prog 88 #[ros x] w fun e w' => e = .returned (.tuple #[.int .i64 (m : Nat), .bool b]) /\ Below w.heap.size w w' := by subst hm hb; exact zn x w
theorem uZ {x : Ros} (hf : aW x = false) (w : World) : Calls prog 64 #[ros x] w fun e w' => e = .returned (.int .i64 0) /\ Below w.heap.size w w' := by
 have HT1 := ae (fd.new w x);have HF := ae hf;clear hf;go_enter func64, ntmps64;go_upto_region 1 with (first | (refine au rfl (bc rfl rfl) ?_) | fail);generalize w.alloc (.cells (aQ x).toArray 35) = w1 at *;refine af ?_;refine aa3 (aR rfl abd (HT1.out.at0)) ?_;refine ay rfl (aB call24 rfl (evc abd evn)) ?_;refine (ed w1 HF).mono ?_;rintro e w2 ⟨rfl, hb⟩;have HT2 := ae (HT1.out.call hb);clear hb HT1;refine br ?_;refine aK 1 ?_;go_upto_region 2 with fail;refine cq 1 ?_;go_wp2_with fail;go_ret;exact ⟨rfl, HT2.out.bel⟩
theorem qi {x : Ros} {n k : Nat} (hf : aW x = true) (hn : fk x = n) (hm : jz x = k) (hb : gH x = true) (hg : decide ((2 : Int) <= (n : Int)) = true) (w : World) : Calls prog 64 #[ros x] w fun e w' => e = .returned (.int .i64 5) /\ Below w.heap.size w w' := by
 have HT1 := ae (fd.new w x);have HF := ae hf;have HN := ae hn;have HM := ae hm;have HB := ae hb;have HG := ae hg;clear hf hn hm hb hg;go_enter func64, ntmps64;go_upto_region 1 with (first | (refine au rfl (bc rfl rfl) ?_) | fail);generalize w.alloc (.cells (aQ x).toArray 35) = w1 at *;refine af ?_;refine aa3 (aR rfl abd (HT1.out.at0)) ?_;refine ay rfl (aB call24 rfl (evc abd evn)) ?_;refine (ed w1 HF).mono ?_;rintro e w2 ⟨rfl, hb⟩;have HT2 := ae (HT1.out.call hb);clear hb HT1;refine br ?_;refine aK 1 ?_;go_upto_region 3 with fail;refine af ?_;refine aa3 (aR rfl abd (HT2.out.at0)) ?_;refine ay rfl (aB call31 rfl (evc abd evn)) ?_;refine (eK w2 HN).mono ?_;rintro e w3 ⟨rfl, hb⟩;have HT3 := ae (HT2.out.call hb);clear hb HT2;refine br ?_;refine aK 1 ?_;go_upto_region 4 with fail;refine af ?_;refine aa3 (aR rfl abd (HT3.out.at0)) ?_;refine ay rfl (aB call88 rfl (evc abd evn)) ?_;refine (dP w3 HM HB).mono ?_;rintro e w4 ⟨rfl, hb⟩;have HT4 := ae (HT3.out.call hb);clear hb HT3;refine br ?_;refine runs 3 ?_;refine aK 2 ?_;go_upto_region 5 with fail;refine bj 1 ?_;refine aa3 (cl true rfl abd evk HG) ?_;refine aN 6 rfl (aO rfl abd) (by kernel_rfl) ?_;simp only [bu, ac, aa];refine aK 1 ?_;go_upto_region 6 with fail;refine cq 1 ?_;go_wp2_with fail;go_ret;exact ⟨rfl, HT4.out.bel⟩
theorem qR {x : Ros} {n k : Nat} (hf : aW x = true) (hn : fk x = n) (hm : jz x = k) (hb : gH x = true) (hg : decide ((2 : Int) <= (n : Int)) = false) (h1 : ((n : Int) == 1) = true) (ho : x.gone = true) (w : World) : Calls prog 64 #[ros x] w fun e w' => e = .returned (.int .i64 5) /\ Below w.heap.size w w' := by
 have HT1 := ae (fd.new w x);have HF := ae hf;have HN := ae hn;have HM := ae hm;have HB := ae hb;have HG := ae hg;have H1 := ae h1;have HO := ae ho;clear hf hn hm hb hg h1 ho;go_enter func64, ntmps64;go_upto_region 1 with (first | (refine au rfl (bc rfl rfl) ?_) | fail);generalize w.alloc (.cells (aQ x).toArray 35) = w1 at *;refine af ?_;refine aa3 (aR rfl abd (HT1.out.at0)) ?_;refine ay rfl (aB call24 rfl (evc abd evn)) ?_;refine (ed w1 HF).mono ?_;rintro e w2 ⟨rfl, hb⟩;have HT2 := ae (HT1.out.call hb);clear hb HT1;refine br ?_;refine aK 1 ?_;go_upto_region 3 with fail;refine af ?_;refine aa3 (aR rfl abd (HT2.out.at0)) ?_;refine ay rfl (aB call31 rfl (evc abd evn)) ?_;refine (eK w2 HN).mono ?_;rintro e w3 ⟨rfl, hb⟩;have HT3 := ae (HT2.out.call hb);clear hb HT2;refine br ?_;refine aK 1 ?_;go_upto_region 4 with fail;refine af ?_;refine aa3 (aR rfl abd (HT3.out.at0)) ?_;refine ay rfl (aB call88 rfl (evc abd evn)) ?_;refine (dP w3 HM HB).mono ?_;rintro e w4 ⟨rfl, hb⟩;have HT4 := ae (HT3.out.call hb);clear hb HT3;refine br ?_;refine runs 3 ?_;refine aK 2 ?_;go_upto_region 5 with fail;refine bj 1 ?_;refine aa3 (cl false rfl abd evk HG) ?_;refine runs 2 ?_;refine aba (aE true rfl abd evk H1) ?_;refine runs 1 ?_;refine aba (ax rfl abd lT) ?_;refine aba (aF rfl abd (lS (HO.out ▸ HT4.out.at0.cells.2.2.2.2))) ?_;refine aK 2 ?_;go_upto_region 6 with fail;refine cq 1 ?_;go_wp2_with fail;go_ret;exact ⟨rfl, HT4.out.bel⟩
theorem sc {x : Ros} {n k : Nat} (hf : aW x = true) (hn : fk x = n) (hm : jz x = k) (hb : gH x = true) (hg : decide ((2 : Int) <= (n : Int)) = false) (h1 : ((n : Int) == 1) = false) (ho : x.gone = true) (w : World) : Calls prog 64 #[ros x] w fun e w' => e = .returned (.int .i64 4) /\ Below w.heap.size w w' := by
 have HT1 := ae (fd.new w x);have HF := ae hf;have HN := ae hn;have HM := ae hm;have HB := ae hb;have HG := ae hg;have H1 := ae h1;have HO := ae ho;clear hf hn hm hb hg h1 ho;go_enter func64, ntmps64;go_upto_region 1 with (first | (refine au rfl (bc rfl rfl) ?_) | fail);generalize w.alloc (.cells (aQ x).toArray 35) = w1 at *;refine af ?_;refine aa3 (aR rfl abd (HT1.out.at0)) ?_;refine ay rfl (aB call24 rfl (evc abd evn)) ?_;refine (ed w1 HF).mono ?_;rintro e w2 ⟨rfl, hb⟩;have HT2 := ae (HT1.out.call hb);clear hb HT1;refine br ?_;refine aK 1 ?_;go_upto_region 3 with fail;refine af ?_;refine aa3 (aR rfl abd (HT2.out.at0)) ?_;refine ay rfl (aB call31 rfl (evc abd evn)) ?_;refine (eK w2 HN).mono ?_;rintro e w3 ⟨rfl, hb⟩;have HT3 := ae (HT2.out.call hb);clear hb HT2;refine br ?_;refine aK 1 ?_;go_upto_region 4 with fail;refine af ?_;refine aa3 (aR rfl abd (HT3.out.at0)) ?_;refine ay rfl (aB call88 rfl (evc abd evn)) ?_;refine (dP w3 HM HB).mono ?_;rintro e w4 ⟨rfl, hb⟩;have HT4 := ae (HT3.out.call hb);clear hb HT3;refine br ?_;refine runs 3 ?_;refine aK 2 ?_;go_upto_region 5 with fail;refine bj 1 ?_;refine aa3 (cl false rfl abd evk HG) ?_;refine runs 2 ?_;refine aba (aE false rfl abd evk H1) ?_;refine aN 2 aaY (aO rfl abd) (by kernel_rfl) ?_;simp only [bu, ac, aa];refine aK 2 ?_;go_upto_region 7 with fail;refine af ?_;refine aa3 (ax rfl abd lT) ?_;refine aa3 (aF rfl abd (lS (HO.out ▸ HT4.out.at0.cells.2.2.2.2))) ?_;refine ag ?_;go_upto_region 8 with fail;refine cq 1 ?_;go_wp2_with fail;go_ret;exact ⟨rfl, HT4.out.bel⟩
theorem q8 {x : Ros} {n k : Nat} (hf : aW x = true) (hn : fk x = n) (hm : jz x = k) (hb : gH x = false) (hg : decide ((2 : Int) <= (n : Int)) = true) (w : World) : Calls prog 64 #[ros x] w fun e w' => e = .returned (.int .i64 5) /\ Below w.heap.size w w' := by
 have HT1 := ae (fd.new w x);have HF := ae hf;have HN := ae hn;have HM := ae hm;have HB := ae hb;have HG := ae hg;clear hf hn hm hb hg;go_enter func64, ntmps64;go_upto_region 1 with (first | (refine au rfl (bc rfl rfl) ?_) | fail);generalize w.alloc (.cells (aQ x).toArray 35) = w1 at *;refine af ?_;refine aa3 (aR rfl abd (HT1.out.at0)) ?_;refine ay rfl (aB call24 rfl (evc abd evn)) ?_;refine (ed w1 HF).mono ?_;rintro e w2 ⟨rfl, hb⟩;have HT2 := ae (HT1.out.call hb);clear hb HT1;refine br ?_;refine aK 1 ?_;go_upto_region 3 with fail;refine af ?_;refine aa3 (aR rfl abd (HT2.out.at0)) ?_;refine ay rfl (aB call31 rfl (evc abd evn)) ?_;refine (eK w2 HN).mono ?_;rintro e w3 ⟨rfl, hb⟩;have HT3 := ae (HT2.out.call hb);clear hb HT2;refine br ?_;refine aK 1 ?_;go_upto_region 4 with fail;refine af ?_;refine aa3 (aR rfl abd (HT3.out.at0)) ?_;refine ay rfl (aB call88 rfl (evc abd evn)) ?_;refine (dP w3 HM HB).mono ?_;rintro e w4 ⟨rfl, hb⟩;have HT4 := ae (HT3.out.call hb);clear hb HT3;refine br ?_;refine runs 3 ?_;refine aK 2 ?_;go_upto_region 5 with fail;refine bj 1 ?_;refine aa3 (cl true rfl abd evk HG) ?_;refine aN 6 rfl (aO rfl abd) (by kernel_rfl) ?_;simp only [bu, ac, aa];refine aK 1 ?_;go_upto_region 6 with fail;refine cq 1 ?_;go_wp2_with fail;go_ret;exact ⟨rfl, HT4.out.bel⟩
theorem pi {x : Ros} {n k : Nat} (hf : aW x = true) (hn : fk x = n) (hm : jz x = k) (hb : gH x = false) (hg : decide ((2 : Int) <= (n : Int)) = false) (h1 : ((n : Int) == 1) = true) (ho : x.gone = true) (w : World) : Calls prog 64 #[ros x] w fun e w' => e = .returned (.int .i64 5) /\ Below w.heap.size w w' := by
 have HT1 := ae (fd.new w x);have HF := ae hf;have HN := ae hn;have HM := ae hm;have HB := ae hb;have HG := ae hg;have H1 := ae h1;have HO := ae ho;clear hf hn hm hb hg h1 ho;go_enter func64, ntmps64;go_upto_region 1 with (first | (refine au rfl (bc rfl rfl) ?_) | fail);generalize w.alloc (.cells (aQ x).toArray 35) = w1 at *;refine af ?_;refine aa3 (aR rfl abd (HT1.out.at0)) ?_;refine ay rfl (aB call24 rfl (evc abd evn)) ?_;refine (ed w1 HF).mono ?_;rintro e w2 ⟨rfl, hb⟩;have HT2 := ae (HT1.out.call hb);clear hb HT1;refine br ?_;refine aK 1 ?_;go_upto_region 3 with fail;refine af ?_;refine aa3 (aR rfl abd (HT2.out.at0)) ?_;refine ay rfl (aB call31 rfl (evc abd evn)) ?_;refine (eK w2 HN).mono ?_;rintro e w3 ⟨rfl, hb⟩;have HT3 := ae (HT2.out.call hb);clear hb HT2;refine br ?_;refine aK 1 ?_;go_upto_region 4 with fail;refine af ?_;refine aa3 (aR rfl abd (HT3.out.at0)) ?_;refine ay rfl (aB call88 rfl (evc abd evn)) ?_;refine (dP w3 HM HB).mono ?_;rintro e w4 ⟨rfl, hb⟩;have HT4 := ae (HT3.out.call hb);clear hb HT3;refine br ?_;refine runs 3 ?_;refine aK 2 ?_;go_upto_region 5 with fail;refine bj 1 ?_;refine aa3 (cl false rfl abd evk HG) ?_;refine runs 2 ?_;refine aba (aE true rfl abd evk H1) ?_;refine runs 1 ?_;refine aba (ax rfl abd lT) ?_;refine aba (aF rfl abd (lS (HO.out ▸ HT4.out.at0.cells.2.2.2.2))) ?_;refine aK 2 ?_;go_upto_region 6 with fail;refine cq 1 ?_;go_wp2_with fail;go_ret;exact ⟨rfl, HT4.out.bel⟩
theorem sH {x : Ros} {n k : Nat} (hf : aW x = true) (hn : fk x = n) (hm : jz x = k) (hb : gH x = false) (hg : decide ((2 : Int) <= (n : Int)) = false) (h1 : ((n : Int) == 1) = false) (ho : x.gone = true) (w : World) : Calls prog 64 #[ros x] w fun e w' => e = .returned (.int .i64 4) /\ Below w.heap.size w w' := by
 have HT1 := ae (fd.new w x);have HF := ae hf;have HN := ae hn;have HM := ae hm;have HB := ae hb;have HG := ae hg;have H1 := ae h1;have HO := ae ho;clear hf hn hm hb hg h1 ho;go_enter func64, ntmps64;go_upto_region 1 with (first | (refine au rfl (bc rfl rfl) ?_) | fail);generalize w.alloc (.cells (aQ x).toArray 35) = w1 at *;refine af ?_;refine aa3 (aR rfl abd (HT1.out.at0)) ?_;refine ay rfl (aB call24 rfl (evc abd evn)) ?_;refine (ed w1 HF).mono ?_;rintro e w2 ⟨rfl, hb⟩;have HT2 := ae (HT1.out.call hb);clear hb HT1;refine br ?_;refine aK 1 ?_;go_upto_region 3 with fail;refine af ?_;refine aa3 (aR rfl abd (HT2.out.at0)) ?_;refine ay rfl (aB call31 rfl (evc abd evn)) ?_;refine (eK w2 HN).mono ?_;rintro e w3 ⟨rfl, hb⟩;have HT3 := ae (HT2.out.call hb);clear hb HT2;refine br ?_;refine aK 1 ?_;go_upto_region 4 with fail;refine af ?_;refine aa3 (aR rfl abd (HT3.out.at0)) ?_;refine ay rfl (aB call88 rfl (evc abd evn)) ?_;refine (dP w3 HM HB).mono ?_;rintro e w4 ⟨rfl, hb⟩;have HT4 := ae (HT3.out.call hb);clear hb HT3;refine br ?_;refine runs 3 ?_;refine aK 2 ?_;go_upto_region 5 with fail;refine bj 1 ?_;refine aa3 (cl false rfl abd evk HG) ?_;refine runs 2 ?_;refine aba (aE false rfl abd evk H1) ?_;refine aN 2 aaY (aO rfl abd) (by kernel_rfl) ?_;simp only [bu, ac, aa];refine aK 2 ?_;go_upto_region 7 with fail;refine af ?_;refine aa3 (ax rfl abd lT) ?_;refine aa3 (aF rfl abd (lS (HO.out ▸ HT4.out.at0.cells.2.2.2.2))) ?_;refine ag ?_;go_upto_region 8 with fail;refine cq 1 ?_;go_wp2_with fail;go_ret;exact ⟨rfl, HT4.out.bel⟩
theorem sw {x : Ros} {n k : Nat} (hf : aW x = true) (hn : fk x = n) (hm : jz x = k) (hb : gH x = true) (hg : decide ((2 : Int) <= (n : Int)) = false) (h1 : ((n : Int) == 1) = true) (ho : x.gone = false) (w : World) : Calls prog 64 #[ros x] w fun e w' => e = .returned (.int .i64 3) /\ Below w.heap.size w w' := by
 have HT1 := ae (fd.new w x);have HF := ae hf;have HN := ae hn;have HM := ae hm;have HB := ae hb;have HG := ae hg;have H1 := ae h1;have HO := ae ho;clear hf hn hm hb hg h1 ho;go_enter func64, ntmps64;go_upto_region 1 with (first | (refine au rfl (bc rfl rfl) ?_) | fail);generalize w.alloc (.cells (aQ x).toArray 35) = w1 at *;refine af ?_;refine aa3 (aR rfl abd (HT1.out.at0)) ?_;refine ay rfl (aB call24 rfl (evc abd evn)) ?_;refine (ed w1 HF).mono ?_;rintro e w2 ⟨rfl, hb⟩;have HT2 := ae (HT1.out.call hb);clear hb HT1;refine br ?_;refine aK 1 ?_;go_upto_region 3 with fail;refine af ?_;refine aa3 (aR rfl abd (HT2.out.at0)) ?_;refine ay rfl (aB call31 rfl (evc abd evn)) ?_;refine (eK w2 HN).mono ?_;rintro e w3 ⟨rfl, hb⟩;have HT3 := ae (HT2.out.call hb);clear hb HT2;refine br ?_;refine aK 1 ?_;go_upto_region 4 with fail;refine af ?_;refine aa3 (aR rfl abd (HT3.out.at0)) ?_;refine ay rfl (aB call88 rfl (evc abd evn)) ?_;refine (dP w3 HM HB).mono ?_;rintro e w4 ⟨rfl, hb⟩;have HT4 := ae (HT3.out.call hb);clear hb HT3;refine br ?_;refine runs 3 ?_;refine aK 2 ?_;go_upto_region 5 with fail;refine bj 1 ?_;refine aa3 (cl false rfl abd evk HG) ?_;refine runs 2 ?_;refine aba (aE true rfl abd evk H1) ?_;refine runs 1 ?_;refine aba (ax rfl abd lT) ?_;refine aba (aF rfl abd (lS (HO.out ▸ HT4.out.at0.cells.2.2.2.2))) ?_;refine aK 2 ?_;go_upto_region 7 with fail;refine af ?_;refine aa3 (ax rfl abd lT) ?_;refine aa3 (aF rfl abd (lS (HO.out ▸ HT4.out.at0.cells.2.2.2.2))) ?_;refine ag ?_;go_upto_region 9 with fail;refine cq 1 ?_;go_upto_region 10 with fail;refine cq 1 ?_;go_wp2_with fail;go_ret;exact ⟨rfl, HT4.out.bel⟩
theorem tB {x : Ros} {n k : Nat} (hf : aW x = true) (hn : fk x = n) (hm : jz x = k) (hb : gH x = true) (hg : decide ((2 : Int) <= (n : Int)) = false) (h1 : ((n : Int) == 1) = false) (ho : x.gone = false) (w : World) : Calls prog 64 #[ros x] w fun e w' => e = .returned (.int .i64 3) /\ Below w.heap.size w w' := by
 have HT1 := ae (fd.new w x);have HF := ae hf;have HN := ae hn;have HM := ae hm;have HB := ae hb;have HG := ae hg;have H1 := ae h1;have HO := ae ho;clear hf hn hm hb hg h1 ho;go_enter func64, ntmps64;go_upto_region 1 with (first | (refine au rfl (bc rfl rfl) ?_) | fail);generalize w.alloc (.cells (aQ x).toArray 35) = w1 at *;refine af ?_;refine aa3 (aR rfl abd (HT1.out.at0)) ?_;refine ay rfl (aB call24 rfl (evc abd evn)) ?_;refine (ed w1 HF).mono ?_;rintro e w2 ⟨rfl, hb⟩;have HT2 := ae (HT1.out.call hb);clear hb HT1;refine br ?_;refine aK 1 ?_;go_upto_region 3 with fail;refine af ?_;refine aa3 (aR rfl abd (HT2.out.at0)) ?_;refine ay rfl (aB call31 rfl (evc abd evn)) ?_;refine (eK w2 HN).mono ?_;rintro e w3 ⟨rfl, hb⟩;have HT3 := ae (HT2.out.call hb);clear hb HT2;refine br ?_;refine aK 1 ?_;go_upto_region 4 with fail;refine af ?_;refine aa3 (aR rfl abd (HT3.out.at0)) ?_;refine ay rfl (aB call88 rfl (evc abd evn)) ?_;refine (dP w3 HM HB).mono ?_;rintro e w4 ⟨rfl, hb⟩;have HT4 := ae (HT3.out.call hb);clear hb HT3;refine br ?_;refine runs 3 ?_;refine aK 2 ?_;go_upto_region 5 with fail;refine bj 1 ?_;refine aa3 (cl false rfl abd evk HG) ?_;refine runs 2 ?_;refine aba (aE false rfl abd evk H1) ?_;refine aN 2 aaY (aO rfl abd) (by kernel_rfl) ?_;simp only [bu, ac, aa];refine aK 2 ?_;go_upto_region 7 with fail;refine af ?_;refine aa3 (ax rfl abd lT) ?_;refine aa3 (aF rfl abd (lS (HO.out ▸ HT4.out.at0.cells.2.2.2.2))) ?_;refine ag ?_;go_upto_region 9 with fail;refine cq 1 ?_;go_upto_region 10 with fail;refine cq 1 ?_;go_wp2_with fail;go_ret;exact ⟨rfl, HT4.out.bel⟩
theorem tX {x : Ros} {n k : Nat} (hf : aW x = true) (hn : fk x = n) (hm : jz x = k) (hb : gH x = false) (hg : decide ((2 : Int) <= (n : Int)) = false) (h1 : ((n : Int) == 1) = true) (ho : x.gone = false) (w : World) : Calls prog 64 #[ros x] w fun e w' => e = .returned (.int .i64 2) /\ Below w.heap.size w w' := by
 have HT1 := ae (fd.new w x);have HF := ae hf;have HN := ae hn;have HM := ae hm;have HB := ae hb;have HG := ae hg;have H1 := ae h1;have HO := ae ho;clear hf hn hm hb hg h1 ho;go_enter func64, ntmps64;go_upto_region 1 with (first | (refine au rfl (bc rfl rfl) ?_) | fail);generalize w.alloc (.cells (aQ x).toArray 35) = w1 at *;refine af ?_;refine aa3 (aR rfl abd (HT1.out.at0)) ?_;refine ay rfl (aB call24 rfl (evc abd evn)) ?_;refine (ed w1 HF).mono ?_;rintro e w2 ⟨rfl, hb⟩;have HT2 := ae (HT1.out.call hb);clear hb HT1;refine br ?_;refine aK 1 ?_;go_upto_region 3 with fail;refine af ?_;refine aa3 (aR rfl abd (HT2.out.at0)) ?_;refine ay rfl (aB call31 rfl (evc abd evn)) ?_;refine (eK w2 HN).mono ?_;rintro e w3 ⟨rfl, hb⟩;have HT3 := ae (HT2.out.call hb);clear hb HT2;refine br ?_;refine aK 1 ?_;go_upto_region 4 with fail;refine af ?_;refine aa3 (aR rfl abd (HT3.out.at0)) ?_;refine ay rfl (aB call88 rfl (evc abd evn)) ?_;refine (dP w3 HM HB).mono ?_;rintro e w4 ⟨rfl, hb⟩;have HT4 := ae (HT3.out.call hb);clear hb HT3;refine br ?_;refine runs 3 ?_;refine aK 2 ?_;go_upto_region 5 with fail;refine bj 1 ?_;refine aa3 (cl false rfl abd evk HG) ?_;refine runs 2 ?_;refine aba (aE true rfl abd evk H1) ?_;refine runs 1 ?_;refine aba (ax rfl abd lT) ?_;refine aba (aF rfl abd (lS (HO.out ▸ HT4.out.at0.cells.2.2.2.2))) ?_;refine aK 2 ?_;go_upto_region 7 with fail;refine af ?_;refine aa3 (ax rfl abd lT) ?_;refine aa3 (aF rfl abd (lS (HO.out ▸ HT4.out.at0.cells.2.2.2.2))) ?_;refine ag ?_;go_upto_region 9 with fail;refine cq 1 ?_;go_upto_region 11 with fail;refine bj 1 ?_;refine aa3 (aE true rfl abd evk H1) ?_;refine ag ?_;go_upto_region 12 with fail;refine cq 1 ?_;go_wp2_with fail;go_ret;exact ⟨rfl, HT4.out.bel⟩
theorem vd {x : Ros} {n k : Nat} (hf : aW x = true) (hn : fk x = n) (hm : jz x = k) (hb : gH x = false) (hg : decide ((2 : Int) <= (n : Int)) = false) (h1 : ((n : Int) == 1) = false) (ho : x.gone = false) (w : World) : Calls prog 64 #[ros x] w fun e w' => e = .returned (.int .i64 1) /\ Below w.heap.size w w' := by
 have HT1 := ae (fd.new w x);have HF := ae hf;have HN := ae hn;have HM := ae hm;have HB := ae hb;have HG := ae hg;have H1 := ae h1;have HO := ae ho;clear hf hn hm hb hg h1 ho;go_enter func64, ntmps64;go_upto_region 1 with (first | (refine au rfl (bc rfl rfl) ?_) | fail);generalize w.alloc (.cells (aQ x).toArray 35) = w1 at *;refine af ?_;refine aa3 (aR rfl abd (HT1.out.at0)) ?_;refine ay rfl (aB call24 rfl (evc abd evn)) ?_;refine (ed w1 HF).mono ?_;rintro e w2 ⟨rfl, hb⟩;have HT2 := ae (HT1.out.call hb);clear hb HT1;refine br ?_;refine aK 1 ?_;go_upto_region 3 with fail;refine af ?_;refine aa3 (aR rfl abd (HT2.out.at0)) ?_;refine ay rfl (aB call31 rfl (evc abd evn)) ?_;refine (eK w2 HN).mono ?_;rintro e w3 ⟨rfl, hb⟩;have HT3 := ae (HT2.out.call hb);clear hb HT2;refine br ?_;refine aK 1 ?_;go_upto_region 4 with fail;refine af ?_;refine aa3 (aR rfl abd (HT3.out.at0)) ?_;refine ay rfl (aB call88 rfl (evc abd evn)) ?_;refine (dP w3 HM HB).mono ?_;rintro e w4 ⟨rfl, hb⟩;have HT4 := ae (HT3.out.call hb);clear hb HT3;refine br ?_;refine runs 3 ?_;refine aK 2 ?_;go_upto_region 5 with fail;refine bj 1 ?_;refine aa3 (cl false rfl abd evk HG) ?_;refine runs 2 ?_;refine aba (aE false rfl abd evk H1) ?_;refine aN 2 aaY (aO rfl abd) (by kernel_rfl) ?_;simp only [bu, ac, aa];refine aK 2 ?_;go_upto_region 7 with fail;refine af ?_;refine aa3 (ax rfl abd lT) ?_;refine aa3 (aF rfl abd (lS (HO.out ▸ HT4.out.at0.cells.2.2.2.2))) ?_;refine ag ?_;go_upto_region 9 with fail;refine cq 1 ?_;go_upto_region 11 with fail;refine bj 1 ?_;refine aa3 (aE false rfl abd evk H1) ?_;refine ag ?_;go_upto_region 13 with fail;refine cq 1 ?_;go_wp2_with fail;go_ret;exact ⟨rfl, HT4.out.bel⟩
theorem t5 {x : Ros} (hf : aW x = true) : stN x = if 2 <= outs x \/ (outs x = 1 /\ x.gone = true) then 5 else if x.gone = true then 4 else if cu x = 1 then 3 else if outs x = 1 then 2 else 1 := by unfold stN; rw [if_pos hf]
theorem xP {x : Ros} (hf : aW x = true) : gH x = decide (cu x = 1) := by
 have h1 := (dQ hf).2.2.1;have h2 := qM x;unfold gH;rw [hf, Bool.true_and];cases hj : jm x with
 |none => have := h2.1 hj; rw [al (by omega)]; rfl
 |some j =>
  have : cu x ≠ 0 := fun e => by rw [h2.2 e] at hj; cases hj
  rw [am (by omega)]; rfl
theorem uh (x : Ros) (w : World) : Calls prog 64 #[ros x] w fun e w' => e = .returned (.int .i64 (stN x : Nat)) /\ Below w.heap.size w w' := by
 cases hf : aW x
 ·rw [show stN x = 0 from by unfold stN; rw [hf]; rfl]; exact uZ hf w
 have hm : fk x = outs x := by unfold fk; rw [if_pos hf]
 have hb := xP hf;have ho := pP (dQ hf).2.1;rw [t5 hf];by_cases c1 : 2 <= outs x
 ·rw [if_pos (.inl c1)];cases hq : gH x
  ·exact q8 hf hm rfl hq (am (by omega)) w
  ·exact qi hf hm rfl hq (am (by omega)) w
 have hg : decide ((2 : Int) <= (outs x : Int)) = false := al (by omega);cases hgo : x.gone
 ·rw [if_neg (by rintro (h | ⟨_, h⟩); exact c1 h; cases h), if_neg (by decide)];by_cases k1 : cu x = 1
  ·rw [if_pos k1];rw [am k1] at hb;by_cases n1 : outs x = 1
   ·exact sw hf hm rfl hb hg (by rw [n1]; rfl) hgo w
   ·exact tB hf hm rfl hb hg (by simp; omega) hgo w
  ·rw [if_neg k1];rw [al k1] at hb;by_cases n1 : outs x = 1
   ·rw [if_pos n1]; exact tX hf hm rfl hb hg (by rw [n1]; rfl) hgo w
   ·rw [if_neg n1]; exact vd hf hm rfl hb hg (by simp; omega) hgo w
 ·by_cases n1 : outs x = 1
  ·rw [if_pos (.inr ⟨n1, rfl⟩)];cases hq : gH x
   ·exact pi hf hm rfl hq hg (by rw [n1]; rfl) hgo w
   ·exact qR hf hm rfl hq hg (by rw [n1]; rfl) hgo w
  ·rw [if_neg (by omega), if_pos rfl];cases hq : gH x
   ·exact sH hf hm rfl hq hg (by simp; omega) hgo w
   ·exact sc hf hm rfl hq hg (by simp; omega) hgo w
section
variable (x : Ros) {j : Nat} (hj : j < 16)
include hj
theorem mx : (aQ x).set (3 + j) (.int .u8 1) = aQ (eW x j 1) := vQ x hj 1
end
theorem rN {y : Ros} {b : Bool} (w : World) (h : aW y = b) : Calls prog 65 #[ros y] w fun e w' => e = .returned (.bool b) /\ Below w.heap.size w w' := by subst h; exact ye y w
theorem xh {x : Ros} {m : Int} (hf : aW x = false) (w : World) : Calls prog 63 #[ros x, .int .i64 m] w fun e w' => e = .returned (.tuple #[ros (x), .bool false]) /\ Below w.heap.size w w' := by
 have HT1 := ae (iE.new w x);have HF := ae hf;clear hf;go_enter func63, ntmps63;go_upto_region 1 with (first | (refine au rfl (bc rfl rfl) ?_) | (refine au rfl (cr rfl) ?_) | fail);generalize (w.alloc (.cells (aQ x).toArray 35)).alloc (.cells (aQ bI).toArray 35) = w1 at *;refine af ?_;refine aa3 (aR rfl abd (HT1.out.at0)) ?_;refine ay rfl (aB call66 rfl (evc abd evn)) ?_;refine (gL w1 HF).mono ?_;rintro e w2 ⟨rfl, hb⟩;have HT2 := ae (HT1.out.call hb);clear hb HT1;refine br ?_;refine runs 1 ?_;refine aN 4 rfl (aO rfl abd) (by kernel_rfl) ?_;simp only [bu, ac, aa];refine aK 1 ?_;go_upto_region 2 with fail;refine af ?_;refine aa3 (aR rfl abd (HT2.out.at0)) ?_;refine az rfl (de rfl (ev rfl) (ev rfl) HT2.out.at1) ?_;simp only [aa];have HT3 := ae (HT2.out.put (x));generalize fI w2 (w.heap.size + 1) (x) = w3 at HT3 ⊢;clear HT2;refine aK 1 ?_;go_wp2_with fail;exact bodyPost_ret (iT rfl _ _ _ rfl HT3.out.at1) rfl ⟨rfl, HT3.out.bel⟩
theorem wi {x : Ros} {m : Int} (hf : aW x = true) (hq : eX x m = false) (w : World) : Calls prog 63 #[ros x, .int .i64 m] w fun e w' => e = .returned (.tuple #[ros (x), .bool false]) /\ Below w.heap.size w w' := by
 have HT1 := ae (iE.new w x);have HF := ae hf;have HQ := ae hq;clear hf hq;go_enter func63, ntmps63;go_upto_region 1 with (first | (refine au rfl (bc rfl rfl) ?_) | (refine au rfl (cr rfl) ?_) | fail);generalize (w.alloc (.cells (aQ x).toArray 35)).alloc (.cells (aQ bI).toArray 35) = w1 at *;refine af ?_;refine aa3 (aR rfl abd (HT1.out.at0)) ?_;refine ay rfl (aB call66 rfl (evc abd evn)) ?_;refine (gL w1 HF).mono ?_;rintro e w2 ⟨rfl, hb⟩;have HT2 := ae (HT1.out.call hb);clear hb HT1;refine br ?_;refine runs 2 ?_;refine aba (aR rfl abd (HT2.out.at0)) ?_;refine runs 1 ?_;refine ay aaY (aB call87 rfl (evc abd (evc abd evn))) ?_;refine (iv w2 HQ).mono ?_;rintro e w3 ⟨rfl, hb⟩;have HT3 := ae (HT2.out.call hb);clear hb HT2;refine br ?_;refine aK 2 ?_;go_upto_region 2 with fail;refine af ?_;refine aa3 (aR rfl abd (HT3.out.at0)) ?_;refine az rfl (de rfl (ev rfl) (ev rfl) HT3.out.at1) ?_;simp only [aa];have HT4 := ae (HT3.out.put (x));generalize fI w3 (w.heap.size + 1) (x) = w4 at HT4 ⊢;clear HT3;refine aK 1 ?_;go_wp2_with fail;exact bodyPost_ret (iT rfl _ _ _ rfl HT4.out.at1) rfl ⟨rfl, HT4.out.bel⟩
theorem wP {x : Ros} {j : Nat} (hj : j < 16) (hf : aW x = true) (hq : eX x (j : Int) = true) (h1 : (sta x j == 1) = true) (w : World) : Calls prog 63 #[ros x, .int .i64 (j : Int)] w fun e w' => e = .returned (.tuple #[ros (x), .bool false]) /\ Below w.heap.size w w' := by
 have HT1 := ae (iE.new w x);have HF := ae hf;have HQ := ae hq;have H1 := ae h1;clear hf hq h1;go_enter func63, ntmps63;go_upto_region 1 with (first | (refine au rfl (bc rfl rfl) ?_) | (refine au rfl (cr rfl) ?_) | fail);generalize (w.alloc (.cells (aQ x).toArray 35)).alloc (.cells (aQ bI).toArray 35) = w1 at *;refine af ?_;refine aa3 (aR rfl abd (HT1.out.at0)) ?_;refine ay rfl (aB call66 rfl (evc abd evn)) ?_;refine (gL w1 HF).mono ?_;rintro e w2 ⟨rfl, hb⟩;have HT2 := ae (HT1.out.call hb);clear hb HT1;refine br ?_;refine runs 2 ?_;refine aba (aR rfl abd (HT2.out.at0)) ?_;refine runs 1 ?_;refine ay aaY (aB call87 rfl (evc abd (evc abd evn))) ?_;refine (iv w2 HQ).mono ?_;rintro e w3 ⟨rfl, hb⟩;have HT3 := ae (HT2.out.call hb);clear hb HT2;refine br ?_;refine aK 2 ?_;go_upto_region 3 with fail;refine bj 1 ?_;refine aa3 (ax rfl abd lX) ?_;refine aa3 (cY rfl abd abd (nt hj)) ?_;refine aa3 (aF rfl abd (oy ((HT3.out.at0).sta hj))) ?_;refine ag ?_;go_upto_region 4 with fail;refine af ?_;refine aa3 (aE true rfl abd evk H1) ?_;refine aK 1 ?_;go_upto_region 5 with fail;refine af ?_;refine aa3 (aR rfl abd (HT3.out.at0)) ?_;refine az rfl (de rfl (ev rfl) (ev rfl) HT3.out.at1) ?_;simp only [aa];have HT4 := ae (HT3.out.put (x));generalize fI w3 (w.heap.size + 1) (x) = w4 at HT4 ⊢;clear HT3;refine aK 1 ?_;go_wp2_with fail;exact bodyPost_ret (iT rfl _ _ _ rfl HT4.out.at1) rfl ⟨rfl, HT4.out.bel⟩
theorem xU {x : Ros} {j : Nat} (hj : j < 16) (hf : aW x = true) (hq : eX x (j : Int) = true) (h1 : (sta x j == 1) = false) (h2 : (sta x j == 2) = true) (w : World) : Calls prog 63 #[ros x, .int .i64 (j : Int)] w fun e w' => e = .returned (.tuple #[ros (eW (jE x 0) j 1), .bool true]) /\ Below w.heap.size w w' := by
 have HT1 := ae (iE.new w x);have HF := ae hf;have HQ := ae hq;have H1 := ae h1;have H2 := ae h2;clear hf hq h1 h2;go_enter func63, ntmps63;go_upto_region 1 with (first | (refine au rfl (bc rfl rfl) ?_) | (refine au rfl (cr rfl) ?_) | fail);generalize (w.alloc (.cells (aQ x).toArray 35)).alloc (.cells (aQ bI).toArray 35) = w1 at *;refine af ?_;refine aa3 (aR rfl abd (HT1.out.at0)) ?_;refine ay rfl (aB call66 rfl (evc abd evn)) ?_;refine (gL w1 HF).mono ?_;rintro e w2 ⟨rfl, hb⟩;have HT2 := ae (HT1.out.call hb);clear hb HT1;refine br ?_;refine runs 2 ?_;refine aba (aR rfl abd (HT2.out.at0)) ?_;refine runs 1 ?_;refine ay aaY (aB call87 rfl (evc abd (evc abd evn))) ?_;refine (iv w2 HQ).mono ?_;rintro e w3 ⟨rfl, hb⟩;have HT3 := ae (HT2.out.call hb);clear hb HT2;refine br ?_;refine aK 2 ?_;go_upto_region 3 with fail;refine bj 1 ?_;refine aa3 (ax rfl abd lX) ?_;refine aa3 (cY rfl abd abd (nt hj)) ?_;refine aa3 (aF rfl abd (oy ((HT3.out.at0).sta hj))) ?_;refine ag ?_;go_upto_region 4 with fail;refine af ?_;refine aa3 (aE false rfl abd evk H1) ?_;refine aK 1 ?_;go_upto_region 6 with fail;refine af ?_;refine aa3 (aE true rfl abd evk H2) ?_;refine aK 1 ?_;go_upto_region 7 with fail;refine af ?_;refine aa3 (ax rfl abd xD) ?_;refine az rfl (uo rfl (ev rfl) evk (HT3.out.at0.there (by omega))) ?_;simp only [aa];have HT4 := ae (HT3.out.set (uT _ (0)));generalize setW w3 w.heap.size (19) (.int .i64 (0)) = w4 at HT4 ⊢;clear HT3;refine ag ?_;go_upto_region 8 with fail;refine bj 1 ?_;refine aa3 (ax rfl abd lX) ?_;refine aa3 (cY rfl abd abd (nt hj)) ?_;refine az rfl (n8 rfl (ev rfl) evk (HT4.out.at0.there (by omega))) ?_;simp only [aa];have HT5 := ae (HT4.out.set (mx _ hj));generalize setW w4 w.heap.size (3 + j) (.int .u8 1) = w5 at HT5 ⊢;clear HT4;refine ag ?_;go_upto_region 9 with fail;refine af ?_;refine aa3 (aR rfl abd (HT5.out.at0)) ?_;refine az rfl (de rfl (ev rfl) (ev rfl) HT5.out.at1) ?_;simp only [aa];have HT6 := ae (HT5.out.put (eW (jE x 0) j 1));generalize fI w5 (w.heap.size + 1) (eW (jE x 0) j 1) = w6 at HT6 ⊢;clear HT5;refine aK 1 ?_;go_wp2_with fail;exact bodyPost_ret (iT rfl _ _ _ rfl HT6.out.at1) rfl ⟨rfl, HT6.out.bel⟩
theorem wB {x : Ros} {j : Nat} (hj : j < 16) (hf : aW x = true) (hq : eX x (j : Int) = true) (h1 : (sta x j == 1) = false) (h2 : (sta x j == 2) = false) (w : World) : Calls prog 63 #[ros x, .int .i64 (j : Int)] w fun e w' => e = .returned (.tuple #[ros (eW x j 1), .bool true]) /\ Below w.heap.size w w' := by
 have HT1 := ae (iE.new w x);have HF := ae hf;have HQ := ae hq;have H1 := ae h1;have H2 := ae h2;clear hf hq h1 h2;go_enter func63, ntmps63;go_upto_region 1 with (first | (refine au rfl (bc rfl rfl) ?_) | (refine au rfl (cr rfl) ?_) | fail);generalize (w.alloc (.cells (aQ x).toArray 35)).alloc (.cells (aQ bI).toArray 35) = w1 at *;refine af ?_;refine aa3 (aR rfl abd (HT1.out.at0)) ?_;refine ay rfl (aB call66 rfl (evc abd evn)) ?_;refine (gL w1 HF).mono ?_;rintro e w2 ⟨rfl, hb⟩;have HT2 := ae (HT1.out.call hb);clear hb HT1;refine br ?_;refine runs 2 ?_;refine aba (aR rfl abd (HT2.out.at0)) ?_;refine runs 1 ?_;refine ay aaY (aB call87 rfl (evc abd (evc abd evn))) ?_;refine (iv w2 HQ).mono ?_;rintro e w3 ⟨rfl, hb⟩;have HT3 := ae (HT2.out.call hb);clear hb HT2;refine br ?_;refine aK 2 ?_;go_upto_region 3 with fail;refine bj 1 ?_;refine aa3 (ax rfl abd lX) ?_;refine aa3 (cY rfl abd abd (nt hj)) ?_;refine aa3 (aF rfl abd (oy ((HT3.out.at0).sta hj))) ?_;refine ag ?_;go_upto_region 4 with fail;refine af ?_;refine aa3 (aE false rfl abd evk H1) ?_;refine aK 1 ?_;go_upto_region 6 with fail;refine af ?_;refine aa3 (aE false rfl abd evk H2) ?_;refine aK 1 ?_;go_upto_region 8 with fail;refine bj 1 ?_;refine aa3 (ax rfl abd lX) ?_;refine aa3 (cY rfl abd abd (nt hj)) ?_;refine az rfl (n8 rfl (ev rfl) evk (HT3.out.at0.there (by omega))) ?_;simp only [aa];have HT4 := ae (HT3.out.set (mx _ hj));generalize setW w3 w.heap.size (3 + j) (.int .u8 1) = w4 at HT4 ⊢;clear HT3;refine ag ?_;go_upto_region 9 with fail;refine af ?_;refine aa3 (aR rfl abd (HT4.out.at0)) ?_;refine az rfl (de rfl (ev rfl) (ev rfl) HT4.out.at1) ?_;simp only [aa];have HT5 := ae (HT4.out.put (eW x j 1));generalize fI w4 (w.heap.size + 1) (eW x j 1) = w5 at HT5 ⊢;clear HT4;refine aK 1 ?_;go_wp2_with fail;exact bodyPost_ret (iT rfl _ _ _ rfl HT5.out.at1) rfl ⟨rfl, HT5.out.bel⟩
theorem yc (x : Ros) (m : Int) (w : World) : Calls prog 63 #[ros x, .int .i64 m] w fun e w' => e = .returned (.tuple #[ros (cQ x m), .bool (iG x m)]) /\ Below w.heap.size w w' := by
 unfold cQ;cases hf : aW x
 ·rw [show iG x m = false from by unfold iG; rw [hf]; rfl]; exact xh hf w
 cases hq : eX x m
 ·rw [show iG x m = false from by unfold iG; rw [hf, hq]; rfl]; exact wi hf hq w
 have hm := nd hq;have hg := fa (dQ hf).1;obtain ⟨j, rfl⟩ := Int.eq_ofNat_of_zero_le hm.1;have hj : j < 16 := by omega
 have e : iG x (j : Int) = decide (sta x j ≠ 1) := by unfold iG; rw [hf, hq]; rfl
 rw [e];by_cases h1 : sta x j = 1
 ·rw [al (by simpa using h1)]; exact wP hj hf hq (by simpa using h1) w
 rw [am (by simpa using h1), if_pos rfl]
 show Calls _ _ _ _ fun e w' => e = .returned (.tuple #[ros (if sta x j = 2 then eW (jE x 0) j 1 else eW x j 1), .bool true]) /\ Below w.heap.size w w'
 by_cases h2 : sta x j = 2
 ·rw [if_pos h2]; exact xU hj hf hq (by simpa using h1) (by simpa using h2) w
 ·rw [if_neg h2]; exact wB hj hf hq (by simpa using h1) (by simpa using h2) w
theorem aaR (w : World) (y : Ros) : (w.alloc (.cells (dn y).toArray 32)).heap[w.heap.size]? = some (.cells (dn y).toArray 32 (0, 0)) := heap_alloc_new w _
structure jG (w0 w : World) (y z : Ros) : Prop where
 bel : Below w0.heap.size w0 w
 at0 : w.rangeAt w0.heap.size 0 (dn y)
 lt0 : w0.heap.size < w.heap.size
 at1 : bw w (w0.heap.size + 1) z
theorem jG.new (w : World) (y : Ros) : jG w ((w.alloc (.cells (dn y).toArray 32)).alloc (.cells (aQ bI).toArray 35)) y bI := by
 refine ⟨((Below.refl _ w).alloc ai _).alloc (by simp) _, bK (t := 32) (bq (aaR w y) _), by simp only [World.size_alloc]; omega, ?_⟩;have := bw.new (w.alloc (.cells (dn y).toArray 32)) bI;rwa [World.size_alloc] at this
section
variable {w0 w w' : World} {y z : Ros}
theorem jG.call (h : jG w0 w y z) (hb : Below w.heap.size w w') : jG w0 w' y z :=
 ⟨h.bel.trans (hb.mono h.bel.size), eU h.at0 h.lt0 hb, aq h.lt0 hb.size, h.at1.below (aX h.at1) hb⟩
theorem jG.put (h : jG w0 w y z) (z' : Ros) : jG w0 (fI w (w0.heap.size + 1) z') y z' :=
 ⟨gq h.bel (by omega), (fun j v hj => by
  have := World.rangeAt_setCells_apart h.at0 (w0.heap.size + 1) 0 (aQ z') (.inl (by omega));exact this j v hj), by rw [mu]; exact h.lt0, ix h.at1⟩
end
section
variable {ρ : Operand -> Value} {o : Oper} {x : Operand} {w : World}
theorem ju {y : Ros} (ho : o.op = .box 32 x) (hx : ρ x = geo y) : (execOp ρ o).run prog w = .ok (.value (.pointer (some ⟨w.heap.size, 0, none⟩))) (w.alloc (.cells (dn y).toArray 32)) := et ho hx
theorem tT (y : Ros) (w : World) : (Instr.build 35 #[(0, geo y)]).run prog w = .ok (ros (gz y)) w := by
 obtain ⟨m, s, r, st, cur, gone⟩ := y
 kernel_rfl
theorem ml {y : Ros} (ho : o.op = .build 35 #[(0, x)]) (hx : ρ x = geo y) : (execOp ρ o).run prog w = .ok (.value (ros (gz y))) w := by
 unfold execOp;simp only [ho, hx, List.map_toArray, List.map_cons, List.map_nil, Sem.run_bind, tT, Result.andThen_ok, Sem.run_pure]
end
theorem jG.third {w0 w : World} {y z : Ros} (h : jG w0 w y z) {b : Nat} (x : Ros) (hb : w0.heap.size + 1 < b) : jG w0 (fI w b x) y z :=
 ⟨gq h.bel (by omega), fun j v hj => World.rangeAt_setCells_apart h.at0 b 0 (aQ x) (.inl (by omega)) j v hj, by rw [mu]; exact h.lt0, (oU (by omega)).trans h.at1⟩
theorem zj {y : Ros} (hg : aW (gz y) = false) (w : World) : Calls prog 26 #[geo y] w fun e w' => e = .returned (.tuple #[ros (bI), .int .i64 2]) /\ Below w.heap.size w w' := by
 have HT1 := ae (jG.new w y);have HG := ae hg;clear hg;go_enter func26, ntmps26;go_upto_region 1 with (first | (refine au rfl (ju rfl rfl) ?_) | (refine au rfl (cr rfl) ?_) | fail);generalize (w.alloc (.cells (dn y).toArray 32)).alloc (.cells (aQ bI).toArray 35) = w1 at *;refine af ?_;refine aa3 (cv (c := y) rfl abd HT1.out.at0) ?_;refine aa3 (ml (y := y) rfl abd) ?_;refine aa3 (cr rfl) ?_;have HA := ae (bw.new w1 bI);have HT2 := ae (HT1.out.call (w' := w1.alloc (.cells (aQ bI).toArray 35)) (aj.alloc ai _));have HB3 : Hid (w.heap.size + 1 < w1.heap.size) := ae (aX HT1.out.at1);clear HT1;generalize w1.alloc (.cells (aQ bI).toArray 35) = w2 at *;generalize w1.heap.size = ba at *;refine az rfl (de rfl (ev rfl) (ev rfl) HA.out) ?_;simp only [aa];have HA2 := ae (ix (x := gz y) HA);have HT3 := ae (HT2.out.third (gz y) HB3);clear HT2 HA;have HA := HA2;clear HA2;generalize fI w2 ba (gz y) = w3 at *;refine ag ?_;go_upto_region 2 with fail;refine af ?_;refine aa3 (aR rfl abd HA) ?_;refine ay rfl (aB call65 rfl (evc abd evn)) ?_;refine (rN w3 HG).mono ?_;rintro e w4 ⟨rfl, hb⟩;have HT4 := ae (HT3.out.call hb);have HA2 := ae (HA.out.below (aX HA) hb);clear hb HT3 HA;have HA := HA2;clear HA2;refine br ?_;refine aK 1 ?_;go_upto_region 3 with fail;refine af ?_;refine aa3 (qF rfl) ?_;refine az rfl (de rfl (ev rfl) (ev rfl) HT4.out.at1) ?_;simp only [aa];have HT5 := ae (HT4.out.put (bI));generalize fI w4 (w.heap.size + 1) (bI) = w5 at HT5 ⊢;clear HT4;refine aK 1 ?_;go_wp2_with fail;exact bodyPost_ret (iT rfl _ _ _ rfl HT5.out.at1) rfl ⟨rfl, HT5.out.bel⟩
theorem zo {y : Ros} (hg : aW (gz y) = true) (w : World) : Calls prog 26 #[geo y] w fun e w' => e = .returned (.tuple #[ros (gz y), .int .i64 0]) /\ Below w.heap.size w w' := by
 have HT1 := ae (jG.new w y);have HG := ae hg;clear hg;go_enter func26, ntmps26;go_upto_region 1 with (first | (refine au rfl (ju rfl rfl) ?_) | (refine au rfl (cr rfl) ?_) | fail);generalize (w.alloc (.cells (dn y).toArray 32)).alloc (.cells (aQ bI).toArray 35) = w1 at *;refine af ?_;refine aa3 (cv (c := y) rfl abd HT1.out.at0) ?_;refine aa3 (ml (y := y) rfl abd) ?_;refine aa3 (cr rfl) ?_;have HA := ae (bw.new w1 bI);have HT2 := ae (HT1.out.call (w' := w1.alloc (.cells (aQ bI).toArray 35)) (aj.alloc ai _));have HB3 : Hid (w.heap.size + 1 < w1.heap.size) := ae (aX HT1.out.at1);clear HT1;generalize w1.alloc (.cells (aQ bI).toArray 35) = w2 at *;generalize w1.heap.size = ba at *;refine az rfl (de rfl (ev rfl) (ev rfl) HA.out) ?_;simp only [aa];have HA2 := ae (ix (x := gz y) HA);have HT3 := ae (HT2.out.third (gz y) HB3);clear HT2 HA;have HA := HA2;clear HA2;generalize fI w2 ba (gz y) = w3 at *;refine ag ?_;go_upto_region 2 with fail;refine af ?_;refine aa3 (aR rfl abd HA) ?_;refine ay rfl (aB call65 rfl (evc abd evn)) ?_;refine (rN w3 HG).mono ?_;rintro e w4 ⟨rfl, hb⟩;have HT4 := ae (HT3.out.call hb);have HA2 := ae (HA.out.below (aX HA) hb);clear hb HT3 HA;have HA := HA2;clear HA2;refine br ?_;refine aK 1 ?_;go_upto_region 4 with fail;refine af ?_;refine aa3 (aR rfl abd HA) ?_;refine az rfl (de rfl (ev rfl) (ev rfl) HT4.out.at1) ?_;simp only [aa];have HT5 := ae (HT4.out.put (gz y));generalize fI w4 (w.heap.size + 1) (gz y) = w5 at HT5 ⊢;clear HT4;refine aK 1 ?_;go_wp2_with fail;exact bodyPost_ret (iT rfl _ _ _ rfl HT5.out.at1) rfl ⟨rfl, HT5.out.bel⟩
theorem aaU (y : Ros) (w : World) : Calls prog 26 #[geo y] w fun e w' => e = .returned (.tuple #[ros (vq y), .int .i64 (nR y : Nat)]) /\ Below w.heap.size w w' := by
 unfold vq nR;have h := ri y;cases hg : dM y
 ·exact zj (h.trans hg) w
 ·exact zo (h.trans hg) w
structure Cel where
 b : Nat
 t : TypeId
 cs : List Value
section
variable {ρ : Operand -> Value} {o : Oper} {x y : Operand} {w : World} {b : Nat} {c d : Ros} {t r : TypeId}
theorem yp {fn : Func} {p : Tmp} (h : fn.results = #[.cell p 35]) (tmps : Array Value) (w : World) (b : Nat) (hp : tmps.getD p undef = .pointer (some ⟨b, 0, none⟩)) (hc : bw w b c) :
  (results fn tmps).run prog w = .ok (ros c) w := dF h tmps w b hp hc.range underlying35 rfl (by rw [aU]; exact l7)
end
section
variable {x y : Ros} {g b : Bool} {m : Int} {e : Nat} (w : World)
theorem zg (h : vq x = y) (he : nR x = e) : Calls prog 26 #[geo x] w fun r w' => r = .returned (.tuple #[ros y, .int .i64 (e : Nat)]) /\ Below w.heap.size w w' := by subst h he; exact aaU x w
theorem wq (h : cQ x m = y) (hb : iG x m = b) : Calls prog 63 #[ros x, .int .i64 m] w fun r w' => r = .returned (.tuple #[ros y, .bool b]) /\ Below w.heap.size w w' := by subst h hb; exact yc x m w
end
def li : List Value -> Nat -> List Value -> List Value
 |cs, _, [] => cs
 |cs, o, v :: r => li (cs.set o v) (o + 1) r
theorem nu {c : List Value} : ∀ (vs a b : List Value), vs.length = b.length -> li (a ++ (b ++ c)) a.length vs = a ++ (vs ++ c)
 |[], a, b, h => by
  obtain rfl := List.eq_nil_of_length_eq_zero (show b.length = 0 from h.symm)
  rfl
 |v :: r, a, [], h => by cases h
 |v :: r, a, u :: b, h => by
  have e : (a ++ (u :: b ++ c)).set a.length v = (a ++ [v]) ++ (b ++ c) := by
   rw [List.set_append_right _ _ ai, Nat.sub_self, List.append_assoc]
   rfl
  rw [li, e, show a.length + 1 = (a ++ [v]).length by simp, nu r (a ++ [v]) b (by simpa using h), List.append_assoc]
  rfl
theorem mq {b : Nat} {t : TypeId} : ∀ (vs : List Value) (o : Nat) (cs : List Value) (w : World), w.heap[b]? = some (.cells cs.toArray t (0, 0)) -> (w.setCells b o vs).heap[b]? = some (.cells (li cs o vs).toArray t (0, 0))
 |[], o, cs, w, h => h
 |v :: r, o, cs, w, h => by
  rw [World.setCells, li];refine mq r (o + 1) (cs.set o v) _ ?_;have := heap_setCell_same w b o _ t v h
  simpa using this
theorem jj {fn : Func} {q u : Tmp} {t : TypeId} {cs : List Value} {d : TypeDesc} (h : fn.results = #[.cell q t, .tmp u]) (tmps : Array Value) (w : World) (b : Nat) (hq : tmps.getD q undef = .pointer (some ⟨b, 0, none⟩)) (hr : w.rangeAt b 0 cs) (hu : prog.underlying t = some d) (hd : d.isRow = true) (hz : (prog.info? t).map (·.size) = some cs.length) :
  (results fn tmps).run prog w = .ok (.tuple #[.agg cs.toArray, tmps.getD u undef]) w := by
 have hl : (loadVar t ⟨b, 0, none⟩).run prog w = .ok (.agg cs.toArray) w := run_loadVar_mid (P := prog) w b 0 t cs d hr hu hd hz;have hq' : tmps[q]?.getD undef = .pointer (some ⟨b, 0, none⟩) := by simpa using hq
 simp [results, h, hq', asAddr, hl]
def dS (w : World) (b : Nat) (x : Fnd) : Prop := w.heap[b]? = some (.cells (bN x).toArray 50 (0, 0))
section
variable {w w' : World} {b k : Nat} {x y : Fnd} {R : Ros}
theorem dS.ros (h : dS w b x) : dS (w.setCells b 2 (aQ R)) b ⟨x.ev, x.id, R⟩ := by
 have := mq (aQ R) 2 (bN x) w h;have e := nu (c := []) (aQ R) [.int .u64 x.ev, .int .u64 x.id] (aQ x.R) (by rw [aU, aU]);simp only [List.append_nil] at e;have e2 : li (bN x) 2 (aQ R) = bN ⟨x.ev, x.id, R⟩ := e;rw [e2] at this;exact this
theorem dS.cells (h : dS w b x) : w.cell? ⟨b, 0, none⟩ = some (.int .u64 (x.ev : Int)) /\ w.cell? ⟨b, 1, none⟩ = some (.int .u64 (x.id : Int)) := by
 have r := bK h;exact ⟨r 0 _ rfl, r 1 _ rfl⟩
theorem dS.mM (h : dS w b x) : w.rangeAt b 2 (aQ x.R) := by
 have := dJ (ds := [.int .u64 x.ev, .int .u64 x.id]) (es := aQ x.R) (fs := []) (k := 2) (bK h) (by simp [bN]) rfl;rwa [Nat.zero_add] at this
theorem qh {o : Nat} (h : w.rangeAt b o (aQ R)) : w.rangeAt b o (dn R) := by
 have := dJ (ds := []) (es := dn R) (k := 0) h (by rw [fC]; rfl) rfl;rwa [Nat.add_zero] at this
theorem dS.nC (h : dS w b x) : w.rangeAt b 2 (dn x.R) := qh h.mM
theorem bU.nC {z : Sup} (h : bU w b z) : w.rangeAt b 2 (dn z.ros) := qh h.mM
theorem aag : (Instr.fieldAt 50 (.pointer (some ⟨b, 0, none⟩)) 0).run prog w = .ok (.pointer (some ⟨b, 0, none⟩)) w := by kernel_rfl
theorem o7 : (Instr.fieldAt 50 (.pointer (some ⟨b, 0, none⟩)) 1).run prog w = .ok (.pointer (some ⟨b, 1, none⟩)) w := by kernel_rfl
theorem mg : (Instr.fieldAt 50 (.pointer (some ⟨b, 0, none⟩)) 2).run prog w = .ok (.pointer (some ⟨b, 2, none⟩)) w := by kernel_rfl
theorem x6 : (Instr.fieldAt 37 (.pointer (some ⟨b, 0, none⟩)) 2).run prog w = .ok (.pointer (some ⟨b, 2, none⟩)) w := by kernel_rfl
theorem l8 {o : Nat} : (Instr.fieldAt 35 (.pointer (some ⟨b, o, none⟩)) 0).run prog w = .ok (.pointer (some ⟨b, o, none⟩)) w := by kernel_rfl
theorem uB {o : Nat} : (Instr.fieldAt 32 (.pointer (some ⟨b, o, none⟩)) 0).run prog w = .ok (.pointer (some ⟨b, o, none⟩)) w := by kernel_rfl
theorem aam {o : Nat} : (Instr.fieldAt 32 (.pointer (some ⟨b, o, none⟩)) 1).run prog w = .ok (.pointer (some ⟨b, o + 1, none⟩)) w := by kernel_rfl
theorem zI {o : Nat} : (Instr.fieldAt 32 (.pointer (some ⟨b, o, none⟩)) 2).run prog w = .ok (.pointer (some ⟨b, o + 2, none⟩)) w := by kernel_rfl
theorem vY : prog.eqGuardType prog.depth 32 = false := by kernel_rfl
theorem pJ (x : Fnd) (w : World) : (Instr.build 50 #[(0, .int .u64 (x.ev : Int)), (1, .int .u64 (x.id : Int)), (2, ros x.R)]).run prog w = .ok (fnd x) w := by
 have hz := fh j5 w;have h0 := ct (place := fun i => (#[(0, 1), (1, 1), (2, 21)] : Array (Nat × Nat))[i]?) (i := 0) (off := 0) (size := 1) (v := .int .u64 (x.ev : Int)) (pre := []) (mid := [.int .u64 0]) (post := .int .u64 0 :: aQ bI) (vs := [.int .u64 (x.ev : Int)]) (rest := [(1, .int .u64 (x.id : Int)), (2, ros x.R)]) rfl rfl rfl rfl rfl;have h1 := ct (place := fun i => (#[(0, 1), (1, 1), (2, 21)] : Array (Nat × Nat))[i]?) (i := 1) (off := 1) (size := 1) (v := .int .u64 (x.id : Int)) (pre := [.int .u64 (x.ev : Int)]) (mid := [.int .u64 0]) (post := aQ bI) (vs := [.int .u64 (x.id : Int)]) (rest := [(2, ros x.R)]) rfl rfl rfl rfl rfl;have h2 := ct (place := fun i => (#[(0, 1), (1, 1), (2, 21)] : Array (Nat × Nat))[i]?) (i := 2) (off := 2) (size := 21) (v := ros x.R) (pre := [.int .u64 (x.ev : Int), .int .u64 (x.id : Int)]) (mid := aQ bI) (post := []) (vs := aQ x.R) (rest := []) rfl rfl (aU x.R) rfl (aU bI);simp only [List.nil_append, List.append_nil, List.cons_append] at h0 h1 h2;have h4 := h0.trans (h1.trans h2);have hz' : (zeroValue 50).run prog w = .ok (.agg (.int .u64 0 :: .int .u64 0 :: aQ bI).toArray) w := hz;have hc : (Value.agg (.int .u64 0 :: .int .u64 0 :: aQ bI).toArray).cells = (.int .u64 0 :: .int .u64 0 :: aQ bI).toArray := rfl;simp only [Instr.build, Sem.run_bind, hz', run_underlying underlying50, Result.andThen_ok, hc];refine Eq.trans (congrArg (fun r => Result.andThen r _) (?h : _ = Result.ok #[(0, 1), (1, 1), (2, 21)] w)) ?_
 case h => kernel_rfl
 simp only [Result.andThen_ok];have h5 : Instr.fill (fun i => (#[(0, 1), (1, 1), (2, 21)] : Array (Nat × Nat))[i]?) (bN x).toArray [] = some (bN x).toArray := by rw [Instr.fill]
 rw [h4.trans h5]
 rfl
theorem nS {ρ : Operand -> Value} {o : Oper} {p q r : Operand} {e i : Nat} {R : Ros} (ho : o.op = .build 50 #[(0, p), (1, q), (2, r)]) (hp : ρ p = .int .u64 (e : Int)) (hq : ρ q = .int .u64 (i : Int)) (hr : ρ r = ros R) : (execOp ρ o).run prog w = .ok (.value (fnd ⟨e, i, R⟩)) w := by
 have h := pJ ⟨e, i, R⟩ w;dsimp only at h;unfold execOp;simp only [ho, hp, hq, hr, List.map_toArray, List.map_cons, List.map_nil, Sem.run_bind, h, Result.andThen_ok, Sem.run_pure]
end
def lsK (q : Nat -> Bool) (R : Ros) : Nat -> Ros
 |0 => R
 |k + 1 => if q k = true then cQ (lsK q R k) (k : Int) else lsK q R k
theorem va {x : Ros} {m : Int} (h : sta x m.toNat = 1) : cQ x m = x := by
 unfold cQ iG;rw [al (by omega), Bool.and_false, Bool.and_false]
 rfl
theorem uM (x : Ros) (m : Int) : (cQ x m).m = x.m /\ (cQ x m).s = x.s /\ (cQ x m).r = x.r := by
 unfold cQ
 split
 ·split <;> exact ⟨rfl, rfl, rfl⟩
 ·exact ⟨rfl, rfl, rfl⟩
theorem uA {x : Ros} (hf : aW x = true) (m : Int) (j : Nat) : sta (cQ x m) j = if (0 <= m /\ m < x.m) /\ (j : Int) = m then 1 else sta x j := by
 by_cases hm : 0 <= m /\ m < x.m
 ·by_cases h1 : sta x m.toNat = 1
  ·rw [va h1]
   split
   ·rename_i e
    rw [show j = m.toNat by omega];exact h1
   ·rfl
  ·obtain ⟨_, l2⟩ := nr (d := m.toNat) hf (by omega) h1;have e := l2 j;rw [show ((m.toNat : Nat) : Int) = m by omega] at e;rw [e];by_cases c : j = m.toNat
   ·rw [if_pos c, if_pos ⟨hm, by omega⟩]
   ·rw [if_neg c, if_neg fun y => c (by omega)]
 ·rw [if_neg fun y => hm y.1];have : iG x m = false := by
   unfold iG;rw [show eX x m = false from al hm, Bool.false_and, Bool.and_false]
  unfold cQ;rw [this]
  rfl
theorem mI : ∀ (f : Nat) (h : HuS), aW h.R = true -> aW (eB f h).2.R = true /\ ((eB f h).2.R.m = h.R.m /\ (eB f h).2.R.s = h.R.s /\ (eB f h).2.R.r = h.R.r) /\ ∀ j, sta (eB f h).2.R j = sta h.R j \/ sta (eB f h).2.R j = 1
 |0, h, hf => ⟨hf, ⟨rfl, rfl, rfl⟩, fun _ => .inl rfl⟩
 |f + 1, h, hf => by
  rw [eB];obtain ⟨o, e, M', hx⟩ : ∃ o e M', cC h.id (h.ev + 1) h.R h.R.m.toNat 0 h.M = (o, e, M') := ⟨_, _, _, rfl⟩;rw [hx];cases o with
  |none => exact ⟨hf, ⟨rfl, rfl, rfl⟩, fun _ => .inl rfl⟩
  |some m =>
   obtain ⟨g1, g2, g3⟩ := uM h.R (m : Int);obtain ⟨k1, ⟨k2, k3, k4⟩, k5⟩ := mI f ⟨M', h.id, h.ev + 1, cQ h.R (m : Int)⟩ (je _ hf);refine ⟨k1, ⟨k2.trans g1, k3.trans g2, k4.trans g3⟩, fun j => ?_⟩;rcases k5 j with y | y
   ·have z : sta (cQ h.R (m : Int)) j = _ := uA hf (m : Int) j
    split at z
    ·exact .inr (y.trans z)
    ·exact .inl (y.trans z)
   ·exact .inr y
section
variable {N ev : Nat} {q1 q2 : Nat -> Bool} {M : aJ} {R : Ros}
structure GvA (N ev : Nat) (R : Ros) (q : Nat -> Bool) (M : aJ) : Prop where
 bH : M.bH = false
 left : M.left = 0
 len : M.ds.length = N + 1
 evs : 1 <= ev /\ ev <= 2305843009213693952
 fine : aW R = true
 geo : R.m = (N : Int) /\ R.s = 4 /\ R.r = 40
 sec : ∀ j, j < N -> (M.ds.getD j bD).S.length = 6
 last : (M.ds.getD N bD).S.length = 50
 dead : ∀ j, j < N -> q j = true -> (M.ds.getD j bD).g = true
 now : ∀ j, j < N -> q j = false -> ∃ S, M.ds.getD j bD = ⟨S, [], false⟩ /\ Now ev ⟨9, (j : Int), R⟩ S
theorem uH {j : Nat} (h : j < M.ds.length) : dv M (j : Int) = ((M.ds.getD j bD).S.length : Int) := by
 unfold dv;rw [if_pos (kn h)]
 rfl
theorem GvA.fits (a : GvA N ev R q1 M) : gaF M ev R = true := by
 have hl := a.len;refine yw ⟨a.evs.2, by rw [a.geo.1, hl]; omega, ?_, ?_⟩
 ·rw [a.geo.1, a.geo.2.2, uH (by omega), a.last]; decide
 ·rw [i7, a.geo.1, a.geo.2.1];intro j hj;rw [uH (by omega), a.sec j (by omega)]
  decide
theorem GvA.tells (a : GvA N ev R q1 M) {j : Nat} (hj : j < N) (hq : q1 j = false) : gaE M (j : Int) = 0 /\ gaN M (j : Int) = ev /\ gaS M (j : Int) = ⟨9, (j : Int), R⟩ := by
 obtain ⟨S, hS, n1, n2, n3⟩ := a.now j hj hq;have hl := a.len;have hw : Wel M j S := ⟨a.bH, a.left, by omega, hS⟩;have h6 : S.length = 6 := by have := a.sec j hj; rw [hS] at this; exact this
 have x0 : gaX M (j : Int) = S.getD 0 aA := hw.rdB (n := 0) (by omega);have x1 : gaY M (j : Int) = S.getD 1 aA := hw.rdB (n := 1) (by omega);have r0 : ce M (j : Int) 0 = 0 := hw.rdE (n := 0) (by omega);have r1 : ce M (j : Int) 1 = 0 := hw.rdE (n := 1) (by omega);have hQ : gaQ M (j : Int) = true := by
  unfold gaQ;rw [x0, x1, n2, n3, n1, r0, r1, a.fits, am (show 0 <= (j : Int) /\ (j : Int) < (M.ds.length : Int) - 1 by omega)]
  rfl
 have hE : gaE M (j : Int) = 0 := by unfold gaE; rw [a.bH, if_neg (by decide), if_pos hQ]
 obtain ⟨g1, g2⟩ := pD hE;rw [x0, x1] at g1 g2;exact ⟨hE, g1.trans n2, g2.trans n3⟩
theorem GvA.mute (a : GvA N ev R q1 M) {j : Nat} (hj : j < N) (hq : q1 j = true) : gaE M (j : Int) = 7 := by
 have hl := a.len;have h6 := a.sec j hj;have r0 : ce M (j : Int) 0 = 9 := rJ a.bH (by omega) (a.dead j hj hq) (by omega);unfold gaE gaQ;rw [a.bH, if_neg (by decide), r0, al (show ¬ (9 : Int) = 0 by decide), Bool.and_false, Bool.false_and, Bool.false_and, Bool.false_and, if_neg (by decide)]
theorem GvA.aar (a : GvA N ev R q1 M) : ∀ {k : Nat}, k <= N -> ((∀ j, j < k -> q1 j = true) /\ gaK M k = none) \/ ((∃ j, j < k /\ q1 j = false) /\ gaK M k = some ⟨ev, 9, R⟩)
 |0, _ => .inl ⟨fun j hj => absurd hj (by omega), rfl⟩
 |k + 1, hk => by
  have ih := a.aar (k := k) (by omega);cases hq : q1 k
  ·obtain ⟨t1, t2, t3⟩ := a.tells (j := k) (by omega) hq;have hp : gaP M (k : Int) = ⟨ev, 9, R⟩ := by unfold gaP; rw [t2, t3]
   refine .inr ⟨⟨k, by omega, hq⟩, ?_⟩;rw [gaK, t2, hp];rcases ih with ⟨_, e⟩ | ⟨_, e⟩
   ·rw [e, if_pos ⟨t1, rfl⟩]
   ·rw [e, if_neg fun y => by have := y.2; unfold gaU at this; simp at this]
  ·have t1 := a.mute (j := k) (by omega) hq;have e1 : gaK M (k + 1) = gaK M k := by rw [gaK, if_neg fun y => by omega]
   rw [e1];rcases ih with ⟨i, e⟩ | ⟨⟨j, i, i2⟩, e⟩
   ·refine .inl ⟨fun j hj => ?_, e⟩;by_cases c : j = k
    ·subst c; exact hq
    ·exact i j (by omega)
   ·exact .inr ⟨⟨j, by omega, i2⟩, e⟩
theorem GvA.zV (a : GvA N ev R q1 M) : ∀ {k : Nat}, k <= N -> gaL M ⟨ev, 9, R⟩ k = lsK q1 R k
 |0, _ => rfl
 |k + 1, hk => by
  rw [gaL, lsK, a.zV (k := k) (by omega)];cases hq : q1 k
  ·obtain ⟨t1, t2, t3⟩ := a.tells (j := k) (by omega) hq;have : gaW M ⟨ev, 9, R⟩ k = true := by
    unfold gaW lI;rw [t1, t3];simp
   rw [if_pos this, if_neg (by decide)]
  ·have t1 := a.mute (j := k) (by omega) hq;have : gaW M ⟨ev, 9, R⟩ k = false := by
    unfold gaW;rw [t1, al (show ¬ (7 : Int) = 0 by decide), Bool.false_and, Bool.false_and, Bool.false_and]
   rw [this, if_neg (by decide), if_pos rfl]
theorem GvA.look (a : GvA N ev R q1 M) : ((∀ j, j < N -> q1 j = true) /\ glE M = 7 /\ glF M = bP) \/ ((∃ j, j < N /\ q1 j = false) /\ glE M = 0 /\ glF M = ⟨ev, 9, lsK q1 R N⟩) := by
 have hO : gaO M = gaK M N := by unfold gaO; rw [a.len]; rfl
 unfold glE glF;rw [a.bH, hO, if_neg (by decide), if_neg (by decide)];rcases a.aar (Nat.le_refl N) with ⟨i, e⟩ | ⟨i, e⟩
 ·rw [e]; exact .inl ⟨i, rfl, rfl⟩
 ·rw [e];refine .inr ⟨i, rfl, ?_⟩
  show (⟨ev, 9, gaL M ⟨ev, 9, R⟩ R.m.toNat⟩ : Fnd) = _
  rw [a.geo.1, Int.toNat_natCast, a.zV (Nat.le_refl N)]
theorem GvA.fai (a : GvA N ev R q1 M) (q2 : Nat -> Bool) : GvA N ev R (fun j => q1 j || q2 j) (fH q2 M N) := by
 have hl := a.len;have hg := uG (q := q2) (M := M) (k := N) (by omega);refine ⟨hg.bH.trans a.bH, hg.left.trans a.left, hg.len.trans hl, a.evs, a.fine, a.geo, fun j hj => ?_, ?_, fun j hj hq => ?_, fun j hj hq => ?_⟩
 ·rw [hg.at_ j]; split
  ·exact a.sec j hj
  ·exact a.sec j hj
 ·rw [hg.at_ N, if_neg fun y => by omega]; exact a.last
 ·rw [hg.at_ j];by_cases c : j < N /\ q2 j = true
  ·rw [if_pos c]
  ·rw [if_neg c];refine a.dead j hj ?_;cases h3 : q1 j
   ·rw [h3, Bool.false_or] at hq; exact absurd ⟨hj, hq⟩ c
   ·rfl
 ·have h3 : q1 j = false /\ q2 j = false := by simpa using hq
  rw [hg.at_ j, if_neg fun y => by rw [h3.2] at y; exact absurd y.2 (by decide)];exact a.now j hj h3.1
theorem sd (h1 : 3 <= N) (h2 : N <= 6) (q1 : Nat -> Bool) {e0 : Nat} (hev : e0 < 4294967296) :
  ∃ ev' R' M', eB 17 ⟨fH q1 (b9 (szK N 4)) N, 9, e0, neR N 4⟩ = (0, ⟨M', 9, ev', R'⟩) /\ (e0 < ev' /\ ev' <= e0 + gw (ded (neR N 4) (fH q1 (b9 (szK N 4)) N)) N + 1) /\ GvA N ev' R' q1 M' /\ (∀ j, j < N -> (sta R' j = 1 ↔ q1 j = true)) /\ (∀ j, j < N -> sta R' j = 0 \/ sta R' j = 1) /\ (gw (ded (neR N 4) (fH q1 (b9 (szK N 4)) N)) N = 0 -> R' = neR N 4) := by
 have hk := wG h1 (by omega) (show (1 : Int) <= 4 by decide) (by decide) q1 e0;have hp := rq (ded (neR N 4) (fH q1 (b9 (szK N 4)) N)) N;obtain ⟨ev', R', M', e, k1, k2, k3, k4, k5, _, k7, k8, k9⟩ := l9 17 e0 _ _ hk (by rw [j0]; omega) (by omega);obtain ⟨r1, ⟨r2, r3, r4⟩, r5⟩ := mI 17 ⟨fH q1 (b9 (szK N 4)) N, 9, e0, neR N 4⟩ hk.fine;rw [e] at r1 r2 r3 r4 r5;dsimp only at r1 r2 r3 r4 r5;rw [j0] at k3 k5 k7 k8 k9;have hf := uG (q := q1) (M := b9 (szK N 4)) (k := N) (by rw [eN]; omega);have hl : M'.ds.length = N + 1 := by rw [k5.len, hf.len, eN]
 have s0 : ∀ j, j < N -> sta R' j = 0 \/ sta R' j = 1 := fun j hj => by
  rcases r5 j with y | y
  ·exact .inl (y.trans (rM (by omega)))
  ·exact .inr y
 have s1 : ∀ j, j < N -> (sta R' j = 1 ↔ q1 j = true) := fun j hj => by
  rw [k7 j hj, n7 hj, rM (by omega)];simp
 have hsl : ∀ j, j < N -> (M'.ds.getD j bD).S.length = 6 := fun j hj => by
  rw [k5.sl j, hf.at_ j, ip hj]
  split <;> simp
 have hN : (M'.ds.getD N bD).S.length = 50 := by
  rw [k5.hi N ai, hf.at_ N, if_neg fun y => by omega, ft];have : (szK N 4).getD N 0 = 50 := by
   unfold szK;simp [List.getD]
  simp only [List.getD, List.getElem?_map];rw [List.getD, List.getElem?_eq_getElem (by rw [ik]; omega)] at this;rw [List.getElem?_eq_getElem (by rw [ik]; omega)];simp only [Option.getD_some] at this;simp only [Option.map_some, Option.getD_some, this]
  rfl
 refine ⟨ev', R', M', e, ⟨k2, k3⟩, ⟨k1.bH, k1.left, hl, ⟨by omega, by omega⟩, r1, ⟨k4.trans rfl, r3, r4⟩, hsl, hN, fun j hj hq => ?_, fun j hj hq => ?_⟩, s1, s0, k9⟩
 ·rw [k5.gs j, n7 hj]; exact hq
 ·rcases k8 j hj with y | y
  ·have := (s1 j hj).1 y;rw [hq] at this;cases this
  ·exact y
theorem ui (N : Nat) (d : Int) : gaE (b9 (szK N 4)) d = 7 /\ glE (b9 (szK N 4)) = 7 /\ glF (b9 (szK N 4)) = bP := by
 have hz : ∀ e n, dx (b9 (szK N 4)) e n = aA := fun e n => by
  unfold dx
  split
  ·have hL : ((b9 (szK N 4)).dev e).L = [] /\ ∀ j, ((b9 (szK N 4)).dev e).S.getD j aA = aA := by
    unfold aJ.dev b9;simp only [List.getD, List.getElem?_map];cases ((szK N 4)[e.toNat]?) with
    |none => exact ⟨rfl, fun j => rfl⟩
    |some x =>
     refine ⟨rfl, fun j => ?_⟩;simp only [Option.map_some, Option.getD_some, List.getElem?_replicate]
     split <;> rfl
   unfold dR
   split
   ·rw [hL.1];exact hL.2 _
   ·rfl
  ·rfl
 have g : gsN aA = 0 := lf.2 (by rw [rR]; decide);have hd : ∀ e, gaE (b9 (szK N 4)) e = 7 := fun e => by
  have hq : gaQ (b9 (szK N 4)) e = false := by
   unfold gaQ gaX gaY nwE;rw [hz, hz, g, if_pos ⟨rfl, rfl⟩, al (show ¬ ((7 : Nat) = 0) by decide), Bool.and_false, Bool.false_and]
  unfold gaE;rw [hq, if_neg (show ¬ ((b9 (szK N 4)).bH = true) from fun x => by cases x), if_neg (by decide)]
 have hk : ∀ k, gaK (b9 (szK N 4)) k = none := fun k => by
  induction k with
  |zero => rfl
  |succ k ih => rw [gaK, hd, if_neg fun x => by omega, ih]
 refine ⟨hd d, ?_, ?_⟩
 ·unfold glE gaO;rw [hk, if_neg (show ¬ ((b9 (szK N 4)).bH = true) from fun x => by cases x)]
 ·unfold glF gaO;rw [hk, if_neg (show ¬ ((b9 (szK N 4)).bH = true) from fun x => by cases x)]
theorem xL : ∃ M', iU ⟨b9 (szK 3 4), 9, 0, neR 3 4⟩ = 0 /\ gO ⟨b9 (szK 3 4), 9, 0, neR 3 4⟩ = ⟨M', 9, 1, neR 3 4⟩ /\ glE M' = 0 /\ glF M' = ⟨1, 9, neR 3 4⟩ /\ glE (fZ M' 0) = 0 /\ ∃ R2, glF (fZ M' 0) = ⟨1, 9, R2⟩ /\ stN R2 = 2 := by
 obtain ⟨ev', R', M', e, k1, B, s1, s0, k9⟩ := sd (N := 3) (by omega) (by omega) (fun _ => false) (e0 := 0) (by omega);have e0 : fH (fun _ => false) (b9 (szK 3 4)) 3 = b9 (szK 3 4) := rfl;have hp : gw (ded (neR 3 4) (fH (fun _ => false) (b9 (szK 3 4)) 3)) 3 = 0 := by rw [e0]; decide +kernel
 rw [hp] at k1;have hR := k9 hp;have hev : ev' = 1 := by omega
 subst hev hR;rw [e0] at e;refine ⟨M', by unfold iU; rw [e], by unfold gO; rw [e], ?_⟩;have h1 := B.look;have B2 := B.fai fun j => decide (j = 0)
 have e2 : fH (fun j => decide (j = 0)) M' 3 = fZ M' 0 := rfl;rw [e2] at B2;have h2 := B2.look;rcases h1 with ⟨a, _⟩ | ⟨_, a1, a2⟩
 ·have := a 0 (by omega); cases this
 ·rcases h2 with ⟨b, _⟩ | ⟨_, b1, b2⟩
  ·have := b 1 (by omega); cases this
  ·exact ⟨a1, a2, b1, _, b2, by decide +kernel⟩
end
theorem pF (a b : Int) (w : World) : (Instr.build 32 #[(0, .int .i64 a), (1, .int .i64 b), (2, .int .i64 40)]).run prog w = .ok (.agg #[.int .i64 a, .int .i64 b, .int .i64 40]) w := by kernel_rfl
theorem nz {ρ : Operand -> Value} {o : Oper} {x y z : Operand} {w : World} {a b : Int} (ho : o.op = .build 32 #[(0, x), (1, y), (2, z)]) (hx : ρ x = .int .i64 a) (hy : ρ y = .int .i64 b) (hz : ρ z = .int .i64 40) : (execOp ρ o).run prog w = .ok (.value (.agg #[.int .i64 a, .int .i64 b, .int .i64 40])) w := by
 unfold execOp;simp only [ho, hx, hy, hz, List.map_toArray, List.map_cons, List.map_nil, Sem.run_bind, pF, Result.andThen_ok, Sem.run_pure]
section
variable {ρ : Operand -> Value} {o : Oper} {x y : Operand} {w : World} {t r : TypeId} {v : Value} {a1 a2 : Addr}
theorem ov (op : BinOp) (t : TypeId) (x y : Operand) (a b : Option Addr) : (eqGuard op t x y (.pointer a) (.pointer b)).run prog w = .ok () w := by
 cases op <;> simp [eqGuard]
theorem mo {op : BinOp} {m n : Option Addr} (ho : o.op = .binOp op t x y r) (hx : ρ x = .pointer m) (hy : ρ y = .pointer n) (h : (binOp op t (.pointer m) (.pointer n)).run prog w = .ok v w) : (execOp ρ o).run prog w = .ok (.value v) w := by
 unfold execOp;simp only [ho, hx, hy, Sem.run_bind, ov, h, Result.andThen_ok, Sem.run_pure]
theorem jY {te : TypeId} (hp : prog.underlying t = some (.pointer te)) (m : Option Addr) (d : Nat) : (Op.equalIn (d + 1) t (.pointer m) (.pointer none)).run prog w = .ok (decide (m = none)) w := by
 cases m <;> simp [Op.equalIn, run_underlying hp]
theorem iR {te : TypeId} {m : Option Addr} (c : Bool) (hp : prog.underlying t = some (.pointer te)) (ho : o.op = .binOp .eql t x y r) (hx : ρ x = .pointer m) (hy : ρ y = .pointer none) (h : decide (m = none) = c) : (execOp ρ o).run prog w = .ok (.value (.bool c)) w := by
 subst h;refine mo ho hx hy ?_;simp only [binOp];simp [Op.equal, Op.maxDepth, jY hp m 9999]
theorem fo {te : TypeId} {m : Option Addr} (c : Bool) (hp : prog.underlying t = some (.pointer te)) (ho : o.op = .binOp .neq t x y r) (hx : ρ x = .pointer m) (hy : ρ y = .pointer none) (h : (!decide (m = none)) = c) : (execOp ρ o).run prog w = .ok (.value (.bool c)) w := by
 subst h;refine mo ho hx hy ?_;simp only [binOp];simp [Op.equal, Op.maxDepth, jY hp m 9999]
end
theorem yo {N : Nat} {s : Int} (hN : N <= 16) (hs : 1 <= s /\ s <= 64) : fS (szK N s) := by
 refine ⟨by rw [ik]; omega, by rw [ik]; omega, fun k hk => ?_⟩;unfold szK at hk;rcases List.mem_append.1 hk with h | h
 ·have := (List.mem_replicate.1 h).2; omega
 ·simp at h; omega
theorem wL {N : Nat} {s : Int} (h1 : 3 <= N) (h2 : N <= 16) (h3 : 1 <= s /\ s <= 64) {ev : Nat} (hev : ev <= 2305843009213693952) : jJ (b9 (szK N s)) 9 ev (neR N s) = true := by
 have hsec : ∀ k, k <= N -> ke (b9 (szK N s)) (neR N s) k = true := fun k hk => by
  induction k with
  |zero => rfl
  |succ k ih =>
   refine mb (ih (by omega)) ?_;have e : dv (b9 (szK N s)) (k : Int) = ((2 + s).toNat : Int) := by
    unfold dv;rw [if_pos (kn (by rw [eN]; omega))]
    show (((b9 (szK N s)).ds.getD k bD).S.length : Int) = _
    rw [ip (by omega)]
    show ((List.replicate (2 + s).toNat aA).length : Int) = _
    rw [List.length_replicate]
   rw [e]
   show ¬ (((2 + s).toNat : Nat) : Int) < 2 + s
   omega
 unfold jJ;rw [kQ h1 h2 h3.1 h3.2, eN, show (neR N s).m.toNat = N from j0 N s, hsec N ai, al (show ¬ (9 : Nat) = 0 by decide), al (show ¬ 2305843009213693952 < ev by omega), am (show ((N + 1 : Nat) : Int) = (neR N s).m + 1 from rfl)]
 rfl
theorem yy {N : Nat} {s : Int} (h1 : 3 <= N) (h2 : N <= 16) (h3 : 1 <= s /\ s <= 64) : vq (neR N s) = neR N s /\ nR (neR N s) = 0 := by
 have hg : dM (neR N s) = true := am ⟨by show 3 <= (N : Int); omega, by show (N : Int) <= 16; omega, h3.1, h3.2, by show (40 : Int) <= 40; omega, by show (40 : Int) <= 256; omega⟩
 constructor
 ·unfold vq; rw [hg]; rfl
 ·unfold nR; rw [hg]; rfl
section
variable {id ev : Nat} {R : Ros} {M : aJ} {k m : Nat} {h : HuS} {d : Int}
theorem dd {n : Nat} (h : Room M n) (hm : m <= n) : Room M m := ⟨by have := h.1; omega, h.2.1, fun d hd => by have := h.2.2 d hd; omega⟩
theorem yQ (h : Room M (k + 1)) (s : Stp) : Room (nl d M s) k := by
 cases s with
 |wr n b => exact rD h d n b
 |fl => exact xM h d
theorem zW (l : List Stp) : ∀ {M : aJ}, Room M (k + l.length) -> Room (goB d M l) k := by
 induction l with
 |nil => intro M h; exact h
 |cons s l ih =>
  intro M h;rw [List.length_cons] at h;have h1 := yQ (d := d) (k := k + l.length) h s;rw [goB]
  split
  ·exact ih h1
  ·exact dd h1 (by omega)
theorem vh (h : Room M (k + 2)) : Room (cM id ev R M m) k := by
 unfold cM
 split
 ·exact zW _ h
 ·exact dd h (by omega)
theorem mT : ∀ (n m : Nat) (M : aJ), Room M (k + 2 * n) -> Room (cC id ev R n m M).2.2 k
 |0, m, M, h => h
 |n + 1, m, M, h => by
  have h1 : Room (cM id ev R M m) (k + 2 * n) := vh (dd h (by omega));rw [cC]
  split
  ·exact mT n (m + 1) M (dd h (by omega))
  ·split
   ·exact dd h1 (by omega)
   ·split
    ·exact mT n (m + 1) _ h1
    ·exact dd h1 (by omega)
theorem qY (hf : aW R = true) : R.m.toNat <= 16 := by
 unfold aW at hf;simp only [Bool.and_eq_true] at hf;have := fa hf.1.1.1;omega
end
def np (R : Ros) (j : Nat) : Bool := decide (sta R j ≠ 1)
structure OnS (h0 : HuS) (f : Nat) (h : HuS) : Prop where
 same : eB f h = eB 17 h0
 pot : gw (np h.R) h.R.m.toNat < f
 fine : aW h.R = true
 id : h.id = h0.id
 m : h.R.m = h0.R.m
 ev : h.ev + f <= h0.ev + 17
 rm : Room h.M (34 * f)
theorem OnS.start {h : HuS} (hf : aW h.R = true) (hr : Room h.M 600) : OnS h 17 h :=
 ⟨rfl, by have := rq (np h.R) h.R.m.toNat; have := qY hf; omega, hf, rfl, rfl, ai, dd hr (by omega)⟩
section
variable {h0 h : HuS} {f m : Nat} {e : Int} {M' : aJ}
theorem OnS.pos (k : OnS h0 f h) : ∃ f', f = f' + 1 := ⟨f - 1, by have := k.pot; omega⟩
theorem OnS.fin (k : OnS h0 f h) (ho : cC h.id (h.ev + 1) h.R h.R.m.toNat 0 h.M = (none, e, M')) : iU h0 = e /\ gO h0 = ⟨M', h.id, h.ev + 1, h.R⟩ := by
 obtain ⟨f', rfl⟩ := k.pos;have := k.same;rw [eB] at this;simp only [ho] at this;unfold iU gO;rw [<- this];exact ⟨rfl, rfl⟩
theorem iV {id ev : Nat} {R : Ros} : ∀ (k m : Nat) (M : aJ) {d : Nat} {e : Int} {M' : aJ}, cC id ev R k m M = (some d, e, M') -> m <= d /\ d < m + k /\ sta R d ≠ 1
 |0, m, M, d, e, M', h => by rw [cC] at h; cases h
 |k + 1, m, M, d, e, M', h => by
  rw [cC] at h
  split at h
  ·obtain ⟨h1, h2, h3⟩ := iV k (m + 1) M h;exact ⟨by omega, by omega, h3⟩
  ·rename_i hs
   split at h
   ·cases h;exact ⟨ai, by omega, hs⟩
   ·split at h
    ·obtain ⟨h1, h2, h3⟩ := iV k (m + 1) _ h;exact ⟨by omega, by omega, h3⟩
    ·cases h
theorem OnS.go (k : OnS h0 f h) {d : Nat} (ho : cC h.id (h.ev + 1) h.R h.R.m.toNat 0 h.M = (some d, e, M')) : ∃ f', f = f' + 1 /\ OnS h0 f' ⟨M', h.id, h.ev + 1, cQ h.R d⟩ := by
 obtain ⟨f', rfl⟩ := k.pos;obtain ⟨_, hd, hs⟩ := iV _ _ _ ho;have hl := nr k.fine (d := d) (by omega) hs;refine ⟨f', rfl, ?_⟩;have hq : np h.R d = true := am hs;have hq' : np (cQ h.R d) d = false := by unfold np; rw [hl.2 d, if_pos rfl]; rfl
 have hsub : ∀ j, np (cQ h.R d) j = true -> np h.R j = true := fun j hj => by
  unfold np at hj ⊢;rw [hl.2 j] at hj;by_cases e : j = d
  ·rw [if_pos e] at hj; simp at hj
  ·rwa [if_neg e] at hj
 have hlt := nq hsub hq hq' (n := h.R.m.toNat) (by omega);have hr : Room M' (34 * f') := by
  have hm := qY k.fine;have h1 := mT (k := 34 * f' + 2) (id := h.id) (ev := h.ev + 1) (R := h.R) h.R.m.toNat 0 h.M (dd k.rm (by omega));rw [ho] at h1;exact dd h1 (by omega)
 refine ⟨?_, ?_, je _ k.fine, k.id, hl.1.trans k.m, by have := k.ev; show h.ev + 1 + f' <= _; omega, hr⟩
 ·have := k.same;rw [eB] at this;simp only [ho] at this;exact this
 ·show gw (np (cQ h.R d)) (cQ h.R d).m.toNat < f'
  rw [hl.1];have := k.pot;omega
theorem pr {id ev : Nat} {R : Ros} {k m : Nat} {M : aJ} (hs : sta R m ≠ 1) (he : dc id ev R M m = 0) : cC id ev R (k + 1) m M = cC id ev R k (m + 1) (cM id ev R M m) := by
 rw [cC, if_neg hs, if_neg (by rw [he]; decide), if_pos he]
theorem qj {id ev : Nat} {R : Ros} {k m : Nat} {M : aJ} (hs : sta R m = 1) : cC id ev R (k + 1) m M = cC id ev R k (m + 1) M := by rw [cC, if_pos hs]
theorem qk {id ev : Nat} {R : Ros} {k m : Nat} {M : aJ} (hs : sta R m ≠ 1) (he : dc id ev R M m = 9) : cC id ev R (k + 1) m M = (some m, 0, cM id ev R M m) := by rw [cC, if_neg hs, if_pos he]
theorem sX {id ev : Nat} {R : Ros} {k m : Nat} {M : aJ} (hs : sta R m ≠ 1) (h0 : dc id ev R M m ≠ 0) (h9 : dc id ev R M m ≠ 9) : cC id ev R (k + 1) m M = (none, dc id ev R M m, cM id ev R M m) := by rw [cC, if_neg hs, if_neg h9, if_neg h0]
end
structure aaw (R : Ros) (M : aJ) : Prop where
 bH : M.bH = false
 left : M.left = 0
 len : R.m.toNat < M.ds.length
 two : ∀ m, m < R.m.toNat -> 2 <= (M.ds.getD m bD).S.length
def HRm (h : HuS) : Prop := Room h.M 600 /\ h.ev <= 4611686018427387000
section
variable {id ev : Nat} {R : Ros} {M : aJ} {k m : Nat} {h : HuS} {d : Int}
structure HR (k : Nat) (h : HuS) : Prop where
 rm : Room h.M (600 * k)
 ev : h.ev + 17 * k <= 4611686018427387000
 fine : aW h.R = true
 lit : aaw h.R h.M
theorem HR.hrm (h' : HR (k + 1) h) : HRm h := ⟨dd h'.rm (by omega), by have := h'.ev; omega⟩
theorem HR.new {N : Nat} {s : Int} (h1 : 3 <= N) (h2 : N <= 16) (h3 : 1 <= s) (h4 : s <= 64) {n : Nat} (hn : n <= 1600) (id : Nat) : HR n ⟨b9 (szK N s), id, 0, neR N s⟩ := ⟨uE (by omega), by show 0 + _ <= _; omega, kQ h1 h2 h3 h4, rfl, rfl, by show (neR N s).m.toNat < _; rw [j0, eN]; omega, fun m hm => by
 have hm' : m < (neR N s).m.toNat := hm;rw [j0] at hm';rw [ip hm']
 show 2 <= (List.replicate _ _).length
 rw [List.length_replicate];omega⟩
end
open Go.RowKit Go.ChangeShapes Go.WideShapes Go.ChangeAt Go.Deep
structure aaX where
 D : Int
 N : Int
 Event : Nat
 S : Sup
 Any : Bool
 B : Blk
 At : UInt8
 By : UInt8
theorem qx {fn : Func} {p q u : Tmp} (h : fn.results = #[.tmp p, .tmp q, .tmp u]) (tmps : Array Value) (w : World) : (results fn tmps).run prog w = .ok (.tuple #[tmps.getD p undef, tmps.getD q undef, tmps.getD u undef]) w := by
 simp [results, h]
theorem uP (P : oN) (N : Nat) (w : World) (h1 : 3 <= N) (h2 : N <= 16) : Calls prog 7 #[.int .i64 (N : Int)] w fun e w' => ∃ p q F G, e = .returned (.tuple #[.pointer (some ⟨p, 0, none⟩), .pointer (some ⟨q, 0, none⟩), .bool true]) /\ P.Bn w' F p (b9 (szK N 4)) /\ um.Bn w' G q (b9 (szK N 4)) /\ (∀ b, F b -> ¬ G b) /\ (∀ b, F b \/ G b -> w.heap.size <= b) /\ Below w.heap.size w w' := by
 have HN := ae h2;have HOK := ae (yo (N := N) (s := 4) h2 (by omega));clear h1 h2;go_enter func7, ntmps7;go_upto_region 0 with fail;refine cq 3 ?_;go_upto_region 1 with fail;refine cq 1 ?_;go_upto_region 2 with fail;refine cq 1 ?_;go_wp2_with fail
 go_loopw [5, 6] (fun v z wr => ∃ i : Nat, z = .int .i64 i /\ i <= N /\ aY hZ wr w.heap.size v (List.replicate i (2 + 4)) /\ Below w.heap.size w wr) (fun _ z _ => N - (intOf z).toNat)
 case atStart => exact ⟨0, by go_num, Nat.zero_le _, aY.nil _ _, aj⟩
 case round =>
  obtain ⟨i, rfl, hi, hm, hb⟩ := hrel;have HM := ae hm;have HW := ae hb;have HBS : Hid (w.heap.size <= wr.heap.size) := ae hb.size;clear hm hb;by_cases hlt : i < N
  ·have HI := ae hlt;have HLT : Hid (decide ((i : Int) < (N : Int)) = true) := ae (am (by omega));have HA : Hid (IntKind.i64.wrap ((i : Int) + 1) = ((i + 1 : Nat) : Int)) := ae (by have := HN.out; rw [fu ⟨by omega, by omega⟩]; omega);have hsz : (wr.alloc (.cells #[.int .i64 6] 3)).heap.size = wr.heap.size + 1 := ak;obtain ⟨v2, w3, hrun, hm2, hg2⟩ := ia hZ (wr.alloc (.cells #[.int .i64 6] 3)) 77 w.heap.size (wr.heap.size + 1) 1 1 u5 (List.replicate i (2 + 4)) [6] (some ⟨wr.heap.size, 0, none⟩) (aY.below HM (aj.alloc ai _)) (gD (E := hZ) (l := [6]) wr #[.int .i64 6] 3 rfl) (by have := HBS.out; omega) (by have := HN.out; simp; omega);have HRUN := ae hrun;have HM3 : Hid (aY hZ w3 w.heap.size v2 (List.replicate (i + 1) (2 + 4))) := ae (by rw [List.replicate_succ']; exact hm2);have HW3 : Hid (Below w.heap.size w w3) := ae ((HW.out.trans (aj.alloc HBS _)).grown hg2 (by have := HBS.out; omega) (fun j' hj' => HM.out.jH j' hj'));clear hi hlt hsz hrun hm2 hg2;go_upto_region 3 with fail;refine bj 2 ?_;refine aa3 (bF true rfl abd abd HLT) ?_;refine ag ?_;go_upto_region 5 with fail;refine bj 1 ?_;refine aa3 (eF (E := hZ) (a := 6) rfl evk rfl (by decide)) ?_;refine aa3 (iA (E := hZ) rfl abd abd HRUN) ?_;refine aK 1 ?_;go_upto_region 4 with fail;refine bj 1 ?_;refine aa3 (cI rfl abd evk HA) ?_;refine aK 1 ?_;go_wp2_with fail;go_roundw
   case rel => exact ⟨i + 1, by go_num, HI, HM3, HW3⟩
   case measure => have := HI.out; simp [intOf]; omega
  have hin : i = N := by omega
  subst hin;have HLT : Hid (decide ((i : Int) < (i : Int)) = false) := ae (al (by omega));have hsz : (wr.alloc (.cells #[.int .i64 50] 3)).heap.size = wr.heap.size + 1 := ak;obtain ⟨v2, w3, hrun, hm2, hg2⟩ := ia hZ (wr.alloc (.cells #[.int .i64 50] 3)) 77 w.heap.size (wr.heap.size + 1) 1 1 u5 (List.replicate i (2 + 4)) [50] (some ⟨wr.heap.size, 0, none⟩) (aY.below HM (aj.alloc ai _)) (gD (E := hZ) (l := [50]) wr #[.int .i64 50] 3 rfl) (by have := HBS.out; omega) (by have := HN.out; simp; omega);have HRUN := ae hrun;have HM3 : Hid (aY hZ w3 w.heap.size v2 (szK i 4)) := ae hm2;have HW3 : Hid (Below w.heap.size w w3) := ae ((HW.out.trans (aj.alloc HBS _)).grown hg2 (by have := HBS.out; omega) (fun j' hj' => HM.out.jH j' hj'));clear hi hlt hsz hrun hm2 hg2;go_upto_region 3 with fail;refine bj 2 ?_;refine aa3 (bF false rfl abd abd HLT) ?_;refine ag ?_;go_upto_region 6 with fail;refine bj 1 ?_;refine aa3 (eF (E := hZ) (a := 50) rfl evk rfl (by decide)) ?_;refine aa3 (iA (E := hZ) rfl abd abd HRUN) ?_;refine aK 1 ?_;obtain ⟨A2, c2, rfl, e21, e22⟩ := HM3.out.form;have HR3 := ae HM3.out.rd;have HC2 := ae (And.intro e21 e22);have HB3 := ae HW3;clear e21 e22;go_upto_region 7 with fail;refine bj 1 ?_;refine ay rfl (aB call34 rfl (evc abd evn)) ?_;refine (P.new HR3 HC2.out.1 HC2.out.2).mono ?_;rintro e w4 ⟨b4, h4⟩;obtain ⟨_, p, F, rfl, n4, f4⟩ | ⟨h4, _⟩ := h4;rotate_left 1
  ·exact absurd HOK h4
  have HB4 := ae (HB3.out.trans (b4.mono HB3.out.size));have HN4 := ae n4;have HF4 : Hid (∀ b, F b -> w3.heap.size <= b) := ae f4;have HFL : Hid (∀ b, F b -> b < w4.heap.size) := ae fun b hb => P.toBen.lt n4 b hb
  have HR4 := ae (HM3.out.below b4).rd;clear b4 n4 f4;refine br ?_;refine runs 3 ?_;refine aK 2 ?_;go_upto_region 8 with fail;refine bj 1 ?_;refine ay rfl (aB call35 rfl (evc abd evn)) ?_;refine (um.new HR4 HC2.out.1 HC2.out.2).mono ?_;rintro e w5 ⟨b5, h5⟩;obtain ⟨_, q, G, rfl, n5, f5⟩ | ⟨h5, _⟩ := h5;rotate_left 1
  ·exact absurd HOK h5
  have HB5 := ae (HB4.out.trans (b5.mono HB4.out.size));have HN5 := ae (P.toBen.below HN4 b5);have HD5 := ae n5;have HG5 : Hid (∀ b, G b -> w4.heap.size <= b) := ae f5;clear b5 n5 f5;refine br ?_;refine runs 3 ?_;refine aK 2 ?_;go_upto_region 9 with fail;refine bj 3 ?_;refine aa3 (aE true rfl abd evk rfl) ?_;refine runs 2 ?_;refine aba (aE true rfl abd evk rfl) ?_;refine runs 3 ?_;refine aK 1 ?_;go_wp2_with fail;have s3 := HB3.out.size;have s4 := HB4.out.size;exact bodyPost_ret (qx rfl _ _) rfl ⟨p, q, F, G, rfl, HN5, HD5, (fun b h1 h2 => by have := HFL.out b h1; have := HG5.out b h2; omega), (fun b e => e.elim (fun h => ap s3 (HF4.out b h)) (fun h => ap s4 (HG5.out b h))), HB5⟩
def PAt (P : oN) (w0 : World) (B : Nat) (w : World) (p : Nat) (M : aJ) : Prop := ∃ F, P.Bn w F p M /\ (∀ b, F b -> B <= b) /\ Below B w0 w /\ j7 w0 B
theorem PAt.below {P : oN} {w0 w w' : World} {B p : Nat} {M : aJ} (a : PAt P w0 B w p M) (k : Below w.heap.size w w') : PAt P w0 B w' p M := by
 obtain ⟨F, h1, h2, h3, h4⟩ := a;exact ⟨F, P.toBen.below h1 k, h2, h3.trans (k.mono (ap h4.le h3.size)), h4⟩
theorem un (P : oN) (N : Nat) (w : World) (T : Tab w) (h1 : 3 <= N) (h2 : N <= 16) : Calls prog 7 #[.int .i64 (N : Int)] w fun e w' => ∃ p q, e = .returned (.tuple #[.pointer (some ⟨p, 0, none⟩), .pointer (some ⟨q, 0, none⟩), .bool true]) /\ PAt P w w.heap.size w' p (b9 (szK N 4)) :=
 (uP P N w h1 h2).mono fun e w' ⟨p, q, F, G, g1, g2, _, _, g5, g6⟩ => ⟨p, q, g1, F, g2, fun b e => g5 b (.inl e), g6, j7.start T⟩
end Go.Proofs.YtehefifamaofkaaGreatDoor
