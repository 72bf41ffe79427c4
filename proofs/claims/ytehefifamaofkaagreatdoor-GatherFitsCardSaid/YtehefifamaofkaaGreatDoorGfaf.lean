import Derived.Test.YtehefifamaofkaaGreatDoorGfae
import Derived.Laws.EntriesVeiled
namespace Go.Proofs.YtehefifamaofkaaGreatDoor
set_option maxHeartbeats 8000000
open Go.Proofs.Tryz
open Go.RowKit
set_option linter.unusedVariables false
set_option maxRecDepth 100000
theorem uH {l : List UInt8} {j d X : Nat} (hj : j < l.length) (hX : bt l j = (X : Int)) (hall : ∀ k, k < j -> bt l k < 2 ^ d) :
  aN 1 (j * d) (val d (l.take j)) ++ aN 1 d X = aN 1 ((j + 1) * d) (val d (l.take (j + 1))) := by
 have e : l[j].toNat = X := by rw [cP hj] at hX; omega
 have hlt : val d (l.take j) < 2 ^ (j * d) := by
  have h := lK (w := d) (l := l.take j) (dQ (nh fun k hk => ?_))
  ·rwa [List.length_take, Nat.min_eq_left (by omega), Nat.mul_comm] at h
  ·have hk' : k < j := by rw [List.length_take] at hk; omega
   have := hall k hk';have e2 : bt (l.take j) k = bt l k := by
    rw [cP hk, cP (by omega)];simp
   rw [e2];exact this
 rw [fX hj, e, Nat.succ_mul, <- xB X (by rw [Nat.one_mul]; exact hlt), Nat.one_mul]
theorem vl {l : List UInt8} {j d X : Nat} (hX : bt l j = (X : Int)) (hf : X < 2 ^ d) (hall : ∀ k, k < j -> bt l k < 2 ^ d) : ∀ k, k < j + 1 -> bt l k < 2 ^ d := by
 intro k hk;by_cases e : k = j
 ·subst e;rw [hX];have e : ((2 : Int) ^ d) = ((2 ^ d : Nat) : Int) := by push_cast; rfl
  rw [e];omega
 ·exact hall k (by omega)
theorem r9 {l : List UInt8} {j d X : Nat} (hj : j < l.length) (hX : bt l j = (X : Int)) (hf : ¬ X < 2 ^ d) : narrow d l = true -> False := by
 intro h;have := dQ h _ (List.getElem_mem hj);rw [cP hj] at hX;omega
theorem aaq {T V k : Nat} (h : k < T) : bt (aN 1 T V) k = ((V / 2 ^ k % 2 : Nat) : Int) := by
 have hl : k < (aN 1 T V).length := by rw [aA]; exact h
 rw [cP hl, fv (by omega) hl, Nat.one_mul, Nat.pow_one]
theorem aa8 {T V k : Nat} (hV : V < 2 ^ T) (h : ¬ k < T) : V / 2 ^ k = 0 := Nat.div_eq_of_lt (aq hV (Nat.pow_le_pow_right (by omega) (by omega)))
theorem xT {V a p : Nat} (hp : p < 8) : V / 2 ^ a % 2 ^ (8 - (p + 1)) <= 127 := by
 have h1 : V / 2 ^ a % 2 ^ (8 - (p + 1)) < 2 ^ (8 - (p + 1)) := Nat.mod_lt _ (Nat.pow_pos (by omega));have h2 : 2 ^ (8 - (p + 1)) <= 2 ^ 7 := Nat.pow_le_pow_right (by omega) (by omega);omega
theorem tN (V a p : Nat) (hp : p < 8) : V / 2 ^ (a + p) % 2 ^ (8 - p) = 2 * (V / 2 ^ (a + (p + 1)) % 2 ^ (8 - (p + 1))) + V / 2 ^ (a + p) % 2 := by
 have := wZ V (a + p) (8 - (p + 1));rwa [show 8 - (p + 1) + 1 = 8 - p from by omega] at this
theorem tY (A : Option Addr) (n c N d B : Nat) (l : List UInt8) (w : World) (HB : Hid (B = w.heap.size)) (hl : Rd w N A n l) (hN : N <= B) (hn : n <= 3000) (h1 : 1 <= d) (h2 : d <= 8) :
  Calls prog 102 #[.slice A n c, .int .i64 d] w fun e w' =>
   ((narrow d l = true -> ∃ v, e = .returned (.tuple #[v, .int .i64 0]) /\ Made w' B v (aN 8 (bytesOf n d) (val d l))) /\ (narrow d l = false -> e = .returned (.tuple #[.slice none 0 0, .int .i64 2]))) /\ Below B w w' := by
 have hBle : B <= w.heap.size := Nat.le_of_eq HB;have hd1 : decide ((d : Int) < 1) = false := by simp; omega
 have hd2 : decide (8 < (d : Int)) = false := by simp; omega
 obtain ⟨i0, hi, hz0, hz1, hz2⟩ := info_parts kf;go_enter func102, ntmps102;go_wp2
 go_loopw [6, 7] (fun v i wr => ∃ j : Nat, j <= n /\ i = .int .i64 j /\ Made wr B v (aN 1 (j * d) (val d (l.take j))) /\ (∀ k, k < j -> bt l k < 2 ^ d) /\ Below B w wr) (fun _ i _ => n - (intOf i).toNat)
 case atStart => exact ⟨0, Nat.zero_le _, rfl, by rw [Nat.zero_mul]; exact World.ownsRow_nil _ _ _ _, fun k hk => absurd hk (by omega), aj⟩
 case round =>
  obtain ⟨j, hj, rfl, hm, hall, hbl⟩ := hrel;have HA := ae hall;clear hall;by_cases hlt : j < n
  ·obtain ⟨bA, oA, rfl, hA, cA⟩ := (hl.below (hbl.mono hN)).2 j hlt;have hX : bt l j = ((l.getD j 0).toNat : Int) := rfl;have hXl : (l.getD j 0).toNat < 256 := UInt8.toNat_lt _;generalize (l.getD j 0).toNat = X at hX hXl;have HX := ae hX;rw [hX] at cA;clear hX;have hm' := ae hm;clear hm;obtain ⟨wo, rfl⟩ : ∃ wo : World, wo = wr := ⟨_, rfl⟩;go_wp2;have hszo : B <= wo.heap.size := ap hBle hbl.size
   go_loopw [6, 8, 9] (fun v x k wr => ∃ i : Nat, i <= d /\ k = .int .i64 i /\ x = .int .u8 ((X / 2 ^ i : Nat) : Int) /\ Made wr B v (aN 1 (j * d) (val d (l.take j)) ++ aN 1 i X) /\ Below B wo wr) (fun _ _ k _ => d - (intOf k).toNat)
   case atStart => exact ⟨0, Nat.zero_le _, rfl, by simp, by rw [show aN 1 0 X = [] from rfl, List.append_nil]; exact hm'.out, aj⟩
   case round =>
    obtain ⟨i, hi', rfl, rfl, hm, hbi⟩ := hrel;by_cases hlti : i < d
    ·have hq : X / 2 ^ i <= X := Nat.div_le_self _ _;have hsz : B <= wr.heap.size := ap hszo hbi.size;have hE : Hid (X / 2 ^ (i + 1) = X / 2 ^ i / 2 /\ aN 1 (i + 1) X = aN 1 i X ++ [UInt8.ofNat (X / 2 ^ i % 2)]) := ⟨by rw [Nat.pow_succ, <- Nat.div_div_eq_div_mul], by rw [f9, Nat.one_mul]⟩;have hln : (aN 1 (j * d) (val d (l.take j)) ++ aN 1 i X).length = j * d + i := by rw [List.length_append, aA, aA]
     have hjd : j * d <= 3000 * 8 := Nat.mul_le_mul (by omega) h2;generalize hrw : aN 1 (j * d) (val d (l.take j)) ++ aN 1 i X = row at *;have HRW := ae hrw;have hown := hm.own hln;have HM2 := ae hm;clear hm hln hrw;generalize X / 2 ^ i = q at *;go_wp2_with (at_builtin; refine wpList_append_own _ rfl _ _ 116 rfl B 5 i0 (.int .u8 0) 1 1 underlying116 hi hz0 hz1 hz2 rfl (by decide) _ _ _ rfl (hown.alloc _) ⟨wr.heap.size, 0, none⟩ 1 1 [.int .u8 ((q : Int) % 2)] rfl rfl ?c1 ?c2 ?c3 ?c4 ?c5 ?_)
     case c1 => exact cell_one_new _ _ _
     case c2 => intro u hu; simp at hu; subst hu; rfl
     case c3 => unfold maxLen; omega
     case c4 => omega
     case c5 => simp; omega
     intro v' w1 hown1 hg1 _;have hx : ((q : Int) % 2) = ((UInt8.ofNat (q % 2)).toNat : Int) := by rw [UInt8.toNat_ofNat']; omega
     obtain ⟨hm1, hb1⟩ := Made.push HM2 hbi hsz hx hown1 hg1;have hm1' := ae hm1;clear hm1 hown1 hg1 hown hx HM2;go_wp2;go_roundw
     case rel =>
      refine ⟨i + 1, by omega, by go_num, ?_, ?_, hb1⟩
      ·rw [hE.out.1]; simp
      ·rw [hE.out.2, <- List.append_assoc, HRW.out]; exact hm1'.out
     case measure => simp [intOf]; omega
    ·have e : i = d := by omega
     subst e;by_cases hfit : X < 2 ^ i
     ·rw [Nat.div_eq_of_lt hfit];have HM3 := ae hm;clear hm;go_wp2;go_roundw
      case rel =>
       refine ⟨j + 1, by omega, by go_num, ?_, vl HX hfit HA, hbl.trans (hbi.mono ai)⟩;rw [<- uH (by have := hl.1; omega) HX.out HA.out];exact HM3
      case measure => simp [intOf]; omega
     ·have hq0 : 0 < X / 2 ^ i := Nat.div_pos (by omega) (Nat.pow_pos (by omega));generalize X / 2 ^ i = q at *;go_wp2;go_ret2;exact ⟨⟨fun h => (r9 (by have := hl.1; omega) HX hfit h).elim, fun _ => rfl⟩, hbl.trans hbi⟩
  ·have e : j = n := by omega
   subst e;have hnar : narrow d l = true := nh fun k hk => HA.out k (by have := hl.1; omega)
   rw [List.take_of_length_le (by have := hl.1; omega)] at hm;have hR : val d l < 2 ^ (j * d) := by have := lK (dQ hnar); rwa [hl.1, Nat.mul_comm] at this
   have HR := ae hR;have HN := ae hnar;clear hR hnar;have hjd : j * d <= 3000 * 8 := Nat.mul_le_mul (by omega) h2;have hld := aA 1 (j * d) (val d l);generalize hV : val d l = V at *;obtain ⟨A1, c1, rfl, d1, _, hc1⟩ := hm.open_ (n := j * d) hld;have HV := ae hV;clear hV hld;have HD := ae d1;have hsz0 : B <= wr.heap.size := ap hBle hbl.size;have hby : bytesOf j d * 8 < j * d + 8 /\ j * d <= bytesOf j d * 8 := by unfold bytesOf; omega
   generalize hT : j * d = T at *;generalize hM : bytesOf j d = M at *;have HM4 := ae hM;have HT := ae hT;obtain ⟨hby1, hby2⟩ := hby
   clear hm hM hT d1;obtain ⟨wo, rfl⟩ : ∃ wo : World, wo = wr := ⟨_, rfl⟩;have hB4 : Below wo.heap.size wo wo := aj;go_wp2
   go_loopw [10, 11] (fun v i wr => ∃ q : Nat, q <= M /\ i = .int .i64 (8 * (q : Int)) /\ Made wr wo.heap.size v (aN 8 q V) /\ Below wo.heap.size wo wr) (fun _ i _ => T + 8 - (intOf i).toNat)
   case atStart => exact ⟨0, Nat.zero_le _, by simp, World.ownsRow_nil _ _ _ _, hB4⟩
   case round =>
    obtain ⟨q, hq, rfl, hm, hb4⟩ := hrel;clear hB4;by_cases hlt : 8 * q < T
    ·have hq' : q + 1 <= M := by omega
     have HM5 := ae hm;clear hm;go_wp2
     go_loop [12, 13] (fun x k => ∃ m : Nat, m <= 8 /\ k = .int .i64 ((m : Int) - 1) /\ x = .int .u8 ((V / 2 ^ (8 * q + m) % 2 ^ (8 - m) : Nat) : Int)) (fun _ k => (intOf k + 1).toNat)
     case atStart => exact ⟨8, ai, rfl, by simp [Nat.mod_one]⟩
     case round =>
      obtain ⟨m, hm8, rfl, rfl⟩ := hrel;by_cases hm0 : 0 < m
      ·obtain ⟨p, rfl⟩ : ∃ p, m = p + 1 := ⟨m - 1, by omega⟩;have hC := xT (V := V) (a := 8 * q + (p + 1)) (p := p) (by omega);have hS := tN V (8 * q) p (by omega);generalize V / 2 ^ (8 * q + (p + 1)) % 2 ^ (8 - (p + 1)) = C at *;rw [show ((p + 1 : Nat) : Int) - 1 = (p : Int) from by omega];by_cases hpos : 8 * q + p < T
       ·obtain ⟨bA, oA, rfl, _, cA⟩ := (HD.out.below hb4).2 (8 * q + p) hpos;rw [aaq hpos] at cA;have hbit : V / 2 ^ (8 * q + p) % 2 < 2 := Nat.mod_lt _ (by omega);generalize V / 2 ^ (8 * q + p) % 2 = bit at *;have HS := ae hS;clear hS;go_wp2
        go_round
        case rel => exact ⟨p, by omega, rfl, by rw [HS.out]; go_num⟩
        case measure => simp [intOf]
       ·have hS2 : V / 2 ^ (8 * q + p) % 2 ^ (8 - p) = 2 * C := by rw [hS, aa8 HR.out hpos, Nat.zero_mod, Nat.add_zero]
        have HS := ae hS2;clear hS hS2;go_wp2
        go_round
        case rel => exact ⟨p, by omega, rfl, by rw [HS.out]; go_num⟩
        case measure => simp [intOf]
      ·have e : m = 0 := by omega
       subst e;have hcc : V / 2 ^ (8 * q + 0) % 2 ^ (8 - 0) < 256 := Nat.mod_lt _ (by decide);have hE : Hid (aN 8 (q + 1) V = aN 8 q V ++ [UInt8.ofNat (V / 2 ^ (8 * q + 0) % 2 ^ (8 - 0))]) := f9 8 q V;generalize V / 2 ^ (8 * q + 0) % 2 ^ (8 - 0) = cc at *;have hown := HM5.out.own (aA 8 q V);have hsz : wo.heap.size <= wr.heap.size := hb4.size;go_wp2_with (at_builtin; refine wpList_append_own _ rfl _ _ 116 rfl wo.heap.size 5 i0 (.int .u8 0) 1 1 underlying116 hi hz0 hz1 hz2 rfl (by decide) _ _ _ rfl (hown.alloc _) ⟨wr.heap.size, 0, none⟩ 1 1 [.int .u8 (cc : Int)] rfl rfl ?d1 ?d2 ?d3 ?d4 ?d5 ?_)
       case d2 => rfl
       case d3 => unfold maxLen; omega
       case d4 => omega
       case d5 => omega
       intro v' w1 hown1 hg1 _;have hx : (cc : Int) = ((UInt8.ofNat cc).toNat : Int) := by rw [UInt8.toNat_ofNat']; omega
       obtain ⟨hm1, hb1⟩ := Made.push HM5 hb4 hsz hx hown1 hg1;have hm1' := ae hm1;clear hm1 hown1 hg1 hown hx;go_wp2;go_roundw
       case rel =>
        refine ⟨q + 1, hq', by go_num, ?_, hb1⟩;rw [hE.out]; exact hm1'.out
       case measure => simp [intOf]; omega
    ·have e : q = M := by omega
     subst e;go_wp2;go_ret2;refine ⟨⟨fun _ => ⟨_, rfl, ?_⟩, fun h => by rw [HN.out] at h; cases h⟩, hbl.trans (hb4.mono hsz0)⟩;rw [HV.out, HM4.out];exact hm.base hsz0
theorem rZ (b : List UInt8) (q : Nat) : (dg (val 8 b) q : Nat) = bt b q := by
 unfold dg bt;rw [m9 (nU b)]
theorem aa4 {d : Nat} (h1 : 1 <= d) (h2 : d <= 8) : IntKind.u16.wrap (IntKind.u16.wrap (2 ^ d) - 1) = ((2 ^ d - 1 : Nat) : Int) := by
 rcases sf h1 h2 with rfl | rfl | rfl | rfl | rfl | rfl | rfl | rfl <;> rfl
theorem pD {d y : Nat} (h1 : 1 <= d) (h2 : d <= 8) (hy : y < 65536) : bits .and .u16 (y : Int) (IntKind.u16.wrap (IntKind.u16.wrap (2 ^ d) - 1)) % 256 = ((y % 2 ^ d : Nat) : Int) := by
 have h3 : 2 ^ d <= 2 ^ 8 := Nat.pow_le_pow_right (by omega) h2;have h4 : y % 2 ^ d < 2 ^ d := Nat.mod_lt _ (Nat.pow_pos (by omega));rw [aa4 h1 h2, u16_and_nat y _ hy (by omega), Nat.and_two_pow_sub_one_eq_mod];omega
theorem sR {d m V j : Nat} (h2 : d <= 8) (hj : j < m) : bt (aN d m V) j = ((V / 2 ^ (j * d) % 2 ^ d : Nat) : Int) := by
 have hl : j < (aN d m V).length := by rw [aA]; exact hj
 rw [cP hl, fv h2 hl, Nat.mul_comm d j]
theorem tE {b : List UInt8} {q ab d j m : Nat} (h1 : 1 <= d) (h2 : d <= 8) (hj : j < m) (hq : j * d / 8 = q) (hab : j * d % 8 = ab) :
  bits .and .u16 (bits .or .u16 (bt b q) (bt b (q + 1) * 256) / 2 ^ ab) (IntKind.u16.wrap (IntKind.u16.wrap (2 ^ d) - 1)) % 256 = bt (aN d m (val 8 b)) j := by
 subst hq hab;rw [<- rZ, <- rZ];have l1 := i1 (val 8 b) (j * d / 8);have l2 := i1 (val 8 b) (j * d / 8 + 1);have e : ((dg (val 8 b) (j * d / 8 + 1) : Nat) : Int) * 256 = ((dg (val 8 b) (j * d / 8 + 1) * 256 : Nat) : Int) := by omega
 rw [e, u16_or_nat _ _ (by omega) (by omega), Nat.or_comm, nat_join 8 _ _ (Nat.mul_mod_left _ (2 ^ 8)) l1];have e2 : (((dg (val 8 b) (j * d / 8 + 1) * 256 + dg (val 8 b) (j * d / 8) : Nat) : Int) / 2 ^ (j * d % 8)) = (((dg (val 8 b) (j * d / 8) + 2 ^ 8 * dg (val 8 b) (j * d / 8 + 1)) / 2 ^ (j * d % 8) : Nat) : Int) := by
  have e3 : ((2 : Int) ^ (j * d % 8)) = ((2 ^ (j * d % 8) : Nat) : Int) := by push_cast; rfl
  rw [e3, show dg (val 8 b) (j * d / 8 + 1) * 256 + dg (val 8 b) (j * d / 8) = dg (val 8 b) (j * d / 8) + 2 ^ 8 * dg (val 8 b) (j * d / 8 + 1) from by omega]
  rfl
 have l3 : (dg (val 8 b) (j * d / 8) + 2 ^ 8 * dg (val 8 b) (j * d / 8 + 1)) / 2 ^ (j * d % 8) < 65536 := Nat.lt_of_le_of_lt (Nat.div_le_self _ _) (by omega);rw [e2, pD h1 h2 l3, rj h2, sR h2 hj]
theorem nN {b : List UInt8} {q ab d j m : Nat} (h1 : 1 <= d) (h2 : d <= 8) (hj : j < m) (hs : ab + d <= 8) (hq : j * d / 8 = q) (hab : j * d % 8 = ab) :
  bits .and .u16 (bt b q / 2 ^ ab) (IntKind.u16.wrap (IntKind.u16.wrap (2 ^ d) - 1)) % 256 = bt (aN d m (val 8 b)) j := by
 subst hq hab;rw [<- rZ];have l1 := i1 (val 8 b) (j * d / 8);have e2 : ((dg (val 8 b) (j * d / 8) : Nat) : Int) / 2 ^ (j * d % 8) = ((dg (val 8 b) (j * d / 8) / 2 ^ (j * d % 8) : Nat) : Int) := by
  have e3 : ((2 : Int) ^ (j * d % 8)) = ((2 ^ (j * d % 8) : Nat) : Int) := by push_cast; rfl
  rw [e3]
  rfl
 have l3 : dg (val 8 b) (j * d / 8) / 2 ^ (j * d % 8) < 65536 := Nat.lt_of_le_of_lt (Nat.div_le_self _ _) (by omega);rw [e2, pD h1 h2 l3, rf hs, sR h2 hj]
theorem uk (A : Option Addr) (n c N d m B : Nat) (b : List UInt8) (w : World) (HB : Hid (B = w.heap.size)) (hb : Rd w N A n b) (hN : N <= B) (hn : n <= 140737488355328) (h1 : 1 <= d) (h2 : d <= 8) (hm : m <= 1048576) (hs : bytesOf m d <= n) :
  Calls prog 138 #[.slice A n c, .int .i64 d, .int .i64 m] w fun e w' => ∃ v, e = .returned (.tuple #[v, .int .i64 0]) /\ Own w' B v (aN d m (val 8 b)) /\ Below B w w' := by
 have hBle : B <= w.heap.size := Nat.le_of_eq HB;have hd30 : decide (n < bytesOf m d) = false := by simpa using hs
 have hd19 : decide ((m : Int) < 0) = false := by simp
 have hd23 : decide (1048576 < (m : Int)) = false := by simp; omega
 have hmk := run_make_row' (P := prog) 116 5 (.int .u8 0) 1 underlying116 kf rfl .i64 .i64 m (by omega) (by omega);go_enter func138, ntmps138;go_wp2_with (first | (go_at_call 144; refine (jI _ _ (by omega) (by omega)).mono ?_; rintro e w' ⟨rfl, rfl⟩));refine (nD _ _ _ h1 h2 (by omega)).mono ?_;rintro e w' ⟨rfl, rfl⟩;go_wp2;clear hmk;have hr0 := World.rowIs_made w (Value.int .u8 0) m 5;have hbl0 : Below B w (w.alloc (.cells (madeCells #[Value.int .u8 0] m) 5)) := aj.alloc hBle _;generalize w.heap.size = g at hr0 hBle ⊢
 go_loopw [37] (fun i wr => ∃ (j : Nat) (f : Nat -> Int), j <= m /\ i = .int .i64 j /\ wr.rowIs g 5 m (fun k => .int .u8 (f k)) /\ (∀ k, k < j -> f k = bt (aN d m (val 8 b)) k) /\ (∀ k, 0 <= f k /\ f k <= 255) /\ Below B w wr) (fun i _ => m - (intOf i).toNat)
 case atStart => exact ⟨0, fun _ => 0, Nat.zero_le _, rfl, hr0, fun k hk => absurd hk (by omega), fun k => by simp, hbl0⟩
 case round =>
  clear hbl0 hr0;obtain ⟨j, f, hj, rfl, hrow, hf, hr, hbl⟩ := hrel;have HF := ae hf;have HR := ae hr;clear hf hr;by_cases hlt : j < m
  ·go_wp2_with fail;refine (nB _ _ _ h1 h2 (by omega)).mono ?_;rintro e w' ⟨rfl, rfl⟩;have hab : j * d % 8 <= 7 := by omega
   have hq1 : j * d / 8 < n := by
    unfold bytesOf at hs;have h3 : (j + 1) * d <= m * d := Nat.mul_le_mul_right d hlt;rw [Nat.succ_mul] at h3;omega
   have hq2 : 8 < j * d % 8 + d -> j * d / 8 + 1 < n := by
    unfold bytesOf at hs;have h3 : (j + 1) * d <= m * d := Nat.mul_le_mul_right d hlt;rw [Nat.succ_mul] at h3;omega
   generalize hq : j * d / 8 = q at *;generalize ha : j * d % 8 = ab at *;have HQ := ae hq;have HAB := ae ha;clear hq ha;obtain ⟨bA, oA, rfl, hA, cA⟩ := (hb.below (hbl.mono hN)).2 q hq1;have hlo := iY b q;have hhi := kG b q;have hc1 := hrow.cell hlt;have hf1 := hrow.frozen j;by_cases hsp : 8 < ab + d
   ·have hq3 := hq2 hsp;obtain ⟨bA', oA', hA2, _, cA2⟩ := (hb.below (hbl.mono hN)).2 (q + 1) hq3;injection hA2 with hA2;injection hA2 with hA3 hA4;subst hA3 hA4;have hlo2 := iY b (q + 1);have hhi2 := kG b (q + 1);go_wp2_with fail;refine (lD _ _ _ (by omega) h2 hsp).mono ?_;rintro e w' ⟨rfl, rfl⟩;go_wp2;go_roundw
    case rel =>
     rw [tE h1 h2 hlt HQ.out HAB.out];refine ⟨j + 1, upd f j (bt (aN d m (val 8 b)) j), by omega, by go_num, oD hrow _, ?_, ?_, hbl.setCell hBle _⟩
     ·intro k hk;by_cases e : k = j
      ·subst e; exact mg _ _ _
      ·rw [jt _ _ e]; exact HF.out k (by omega)
     ·intro k;by_cases e : k = j
      ·subst e; rw [mg]; exact ⟨iY _ _, kG _ _⟩
      ·rw [jt _ _ e]; exact HR.out k
    case measure => simp [intOf]; omega
   ·clear hq2;go_wp2_with fail;refine (nF _ _ _ (by omega) h2 hsp).mono ?_;rintro e w' ⟨rfl, rfl⟩;go_wp2;go_roundw
    case rel =>
     rw [nN h1 h2 hlt (by omega) HQ.out HAB.out];refine ⟨j + 1, upd f j (bt (aN d m (val 8 b)) j), by omega, by go_num, oD hrow _, ?_, ?_, hbl.setCell hBle _⟩
     ·intro k hk;by_cases e : k = j
      ·subst e; exact mg _ _ _
      ·rw [jt _ _ e]; exact HF.out k (by omega)
     ·intro k;by_cases e : k = j
      ·subst e; rw [mg]; exact ⟨iY _ _, kG _ _⟩
      ·rw [jt _ _ e]; exact HR.out k
    case measure => simp [intOf]; omega
  ·have e : j = m := by omega
   subst e;go_wp2;go_ret2;exact ⟨_, rfl, Own.qQ (aA _ _ _) hBle hrow ai (by unfold maxLen; omega) HF HR, hbl⟩
theorem fM {ρ : Operand -> Value} {o : Oper} {x y : Operand} {w : World} (g : Nat) (ho : o.op = .store 171 x y) (hx : ρ x = .pointer (some ⟨w.heap.size, 0, none⟩)) (hy : ρ y = .agg (eR g)) :
  (execOp ρ o).run prog (w.alloc (.cells #[.slice none 0 0, .slice none 0 0, .slice none 0 0, .slice none 0 0, .slice none 0 0] 171)) = .ok .skip (w.alloc (.cells (eR g) 171)) :=
 jh (by kernel_rfl) rfl rfl ho hx hy
theorem rK (w w1 : World) (hb : Below ((w.alloc (.cells (cel aB).toArray 29)).alloc (.cells (cel aB).toArray 29)).heap.size ((w.alloc (.cells (cel aB).toArray 29)).alloc (.cells (cel aB).toArray 29)) w1) :
  mi w.heap.size w (w1.alloc (.cells (eR (w.heap.size + 1)) 171)) w.heap.size (w.heap.size + 1) w1.heap.size aB.toList := by
 have h1 := (Below.refl w.heap.size w).alloc ai (.cells (cel aB).toArray 29);have h2 := h1.alloc h1.size (.cells (cel aB).toArray 29);have hs := hb.size;simp only [World.size_alloc] at hs;have hr : cl w1 w.heap.size 29 aB.toList := cl.below ((cl.blk w aB 29).past _) (by simp only [World.size_alloc]; omega) hb;have hg : cl w1 (w.heap.size + 1) 29 aB.toList := cl.below (by have := cl.blk (w.alloc (.cells (cel aB).toArray 29)) aB 29; rwa [World.size_alloc] at this) (by simp only [World.size_alloc]; omega) hb;have hbel : Below w.heap.size w w1 := h2.trans (hb.mono (by simp only [World.size_alloc]; omega));exact ⟨hr.past _, hg.past _, heap_alloc_new w1 _, hbel.alloc (by omega) _, ai, by omega, by omega, by omega⟩
theorem yv (n m c N : Nat) (A : Option Addr) (b : List UInt8) (w : World) (T : Tab w) (hn : n < 18446744073709551616) (h0 : 0 < n) (hb : Rd w N A m b) (hN : N <= w.heap.size) (hm : m <= 44) :
  Calls prog 121 #[.int .u64 n, .slice A m c] w fun e w' => e = .returned (.tuple #[blk (dO n b), .int .i64 (dL n b : Nat)]) /\ Below w.heap.size w w' := by
 have hl := hb.1;have hbl : b.length <= 44 := by omega
 have hE : dL n b = 0 := kY (by omega) hbl;have hB : dO n b = ofL (cD n b) := jK hE;rw [hE, hB];have HS := ae (qH (n := n) hbl);have HH := ae (sn (n := n) hbl);have HL := ae (fB (n := n) hbl);have HL64 := ae (fx n hbl);have HC := ae (ls (s := 0) (by omega) (cR n b));have HT := ae T;have HR := ae hb;have HB := ae hl;have HN := ae hn;have HNN := ae hN;clear hE hB T hb hl hbl hn hN;have hz : ((n : Int) == 0) = false := by simp; omega
 go_enter func121, ntmps121;go_wp2_with (first | (refine av rfl (bq rfl) ?_) | fail);refine (js (w.heap.size + 1) _).mono ?_;rintro e w1 ⟨rfl, hb1⟩;have hW := rK w w1 hb1;have HBW := ae hb1.size;clear hb1;have HFP := HBW.out;obtain ⟨c0, c1, c2, c3, c4⟩ := hW.par.cells;obtain ⟨g, hg⟩ : ∃ g, w.heap.size + 1 = g := ⟨_, rfl⟩;rw [hg] at hW c0 c1 c2 c3 c4;rw [hg];have HGG := ae hg;clear HFP hg;have HW := ae hW;clear hW;go_wp2_with (first | (refine aZ rfl (fM g rfl rfl rfl) ?_) | fail);clear c0 c1 c2 c3 c4 HBW HGG;have HN8 := HN.out;refine (n6 g 0 8 n 29 aB.toList _ HW.out.row (by omega) (by omega) (by simp) (by simpa using HN8)).mono ?_;rintro e w2 ⟨rfl, hr2, hg2⟩;have HW2 := ae (HW.out.turn hr2 hg2 ai);clear hr2 hg2 HW;obtain ⟨c0, c1, c2, c3, c4⟩ := HW2.out.par.cells;generalize w1.heap.size = p at *;obtain ⟨r, hr⟩ : ∃ r, r = w.heap.size := ⟨_, rfl⟩;have HRR := ae hr;rw [<- hr] at HNN HW2 ⊢;clear hr;clear HN8;go_wp2_with fail;clear c0 c1 c2 c3 c4;have HN8 := HN.out;refine (n6 g 56 8 n 29 _ _ HW2.out.row (by omega) (by omega) (by rw [lg]; omega) (by simpa using HN8)).mono ?_;rintro e w3 ⟨rfl, hr3, hg3⟩;have HW3 := ae (HW2.out.turn hr3 hg3 (Nat.le_of_eq HRR));clear hr3 hg3 HW2 HN8;obtain ⟨c0, c1, c2, c3, c4⟩ := HW3.out.par.cells;have HR3 := ae (HR.out.below (HW3.out.bel.mono HNN));have HL2 := ae (lr n);obtain ⟨l2, hl2⟩ : ∃ l2, splice (splice aB.toList 0 (aN 8 8 n)) 56 (aN 8 8 n) = l2 := ⟨_, rfl⟩;have HNS : Hid (splice l2 8 b = jH n b) := ae (by rw [<- hl2]; rfl);rw [hl2] at HW3 HL2;clear hl2;go_wp2_with (with_reducible refine ef rfl _ _ rfl g 8 44 44 m c N A 29 l2 b rfl rfl HW3.out.row HR3.out hm ?c1 ?_)
 case c1 => rw [HL2.out]; omega
 intro w4 hr4 hg4;rw [HNS.out] at hr4;have HW4 := ae (HW3.out.turn hr4 hg4 (Nat.le_of_eq HRR));clear hr4 hg4 HW3 HR3 HL2 c0 c1 c2 c3 c4;go_wp2_with fail;refine wp_region_held (S := fun w' => Hid (mi r w w' r g p (jH n b) \/ mi r w w' r g p (cD n b))) (by kernel_rfl) ?_;change wpAnyH _ _ _ _ _ 7 _ _ w4.drew;have hS : Hid (mi r w w4.drew r g p (jH n b) \/ mi r w w4.drew r g p (cD n b)) := ae (.inl HW4.out.draw);refine ac9 0 rfl (fun _ hw => ax rfl adh aaI) hS ?_;refine ac9 1 rfl (fun _ hw => aE rfl adh (ldS (hw.out.elim (fun h => h.par.cells.2.2.1) (fun h => h.par.cells.2.2.1)))) hS ?_;refine ac9 2 rfl (fun _ hw => ax rfl adh aa2) hS ?_;refine ac9 3 rfl (fun _ hw => aE rfl adh (ldS (hw.out.elim (fun h => h.par.cells.2.2.2.2) (fun h => h.par.cells.2.2.2.2)))) hS ?_;refine eV 4 rfl (by kernel_rfl) rfl (aD call133 rfl (evc adh evn)) ?_;have T4 : Tab w4.drew := (HT.out.below (by rw [<- HRR.out]; exact HW4.out.draw.bel));have R4 := HW4.out.draw.row.rd (p := 0) (k := 52) (by rw [HL.out]; omega);rw [HH.out] at R4;refine (vI _ 52 52 _ (cR n b) _ T4 R4 (by unfold maxLen; omega)).mono ?_;rintro e w' ⟨rfl, rfl⟩;refine ⟨_, rfl, hS, ?_⟩;simp only [aa];clear T4 R4;refine ac9 5 rfl (fun _ hw => kC rfl adh HC) hS ?_;refine eV 6 rfl (by kernel_rfl) rfl (aD call132 rfl (evc adh (evc adh evn))) ?_;refine (n6 g 52 4 (more 0 (cR n b)) 29 _ _ HW4.out.draw.row (by omega) (by omega) (by rw [HL.out]; omega) (by have := HC.out; simpa using this)).mono ?_;rintro e w5 ⟨rfl, hr5, hg5⟩;rw [HS.out] at hr5;have HW5 := ae (HW4.out.draw.turn hr5 hg5 (Nat.le_of_eq HRR));refine ⟨_, rfl, ae (.inr HW5), ?_⟩;simp only [aa];clear hr5 hg5 hS HW4;refine wpAnyH_done (by kernel_rfl) ?_ _;have HG := ae (HW5.out.row.range HL64);have HTH : Hid (w5.there r 0 64) := ae (nr HW5.out.res.row (by simp));have HBB : Hid (Below w.heap.size w w5) := ae (by rw [<- HRR.out]; exact HW5.out.bel);go_wp2_with (first | (refine av rfl (bk rfl rfl HG.out) ?_) | (refine aZ rfl (bc rfl rfl rfl HTH.out) ?_) | fail);refine bodyPost_ret (cp rfl _ _ _ rfl (World.rangeAt_setCells_same _ _ _ _ (by rw [aF]; exact HTH))) rfl ⟨rfl, below_setCells HBB (Nat.le_of_eq HRR.out.symm) _⟩
theorem yQ (n m c N : Nat) (A : Option Addr) (b : List UInt8) (w : World) (T : Tab w) (hn : n < 18446744073709551616) (hb : Rd w N A m b) (hN : N <= w.heap.size) (hm : m <= maxLen) :
  Calls prog 121 #[.int .u64 n, .slice A m c] w fun e w' => e = .returned (.tuple #[blk (dO n b), .int .i64 (dL n b : Nat)]) /\ Below w.heap.size w w' := by
 by_cases h0 : n = 0
 ·subst h0;exact ze m c A b w hb.1
 ·by_cases h44 : m <= 44
  ·exact yv n m c N A b w T hn (by omega) hb hN h44
  ·exact xy n m c A b w hb.1 (by omega) (by omega) hm
set_option linter.unusedSimpArgs false
def iR (p q : Nat) : Value := .func (.func 141) #[] #[.pointer (some ⟨p, 0, none⟩), .pointer (some ⟨q, 0, none⟩)]
def iy (w : World) (p q : Nat) (S : Value) (k : Nat) : Prop := w.heap[p]? = some (.cells #[.int .i64 (k : Int)] 3 (0, 0)) /\ w.heap[q]? = some (.cells #[S] 116 (0, 0))
theorem mt (S : Value) (A : Option Addr) (n c : Nat) (hS : S = .slice A n c) (w : World) : Calls prog 127 #[S] w fun e w' => ∃ p q, e = .returned (iR p q) /\ iy w' p q S 0 /\ w.heap.size <= p /\ w.heap.size <= q /\ p ≠ q /\ p < w'.heap.size /\ q < w'.heap.size /\ Below w.heap.size w w' := by
 subst hS;have hmf : ∀ (fn : Fn) (first cap : Array Value) (w : World), (Instr.makeFunc fn first cap).run prog w = .ok (.func fn first cap) w := fun _ _ _ _ => rfl
 go_enter func127, ntmps127;go_wp2;go_ret;have e1 := World.size_alloc (w := w) (o := Obj.cells #[Value.slice A n c] 116);refine ⟨w.heap.size + 1, w.heap.size, rfl, ⟨?_, ?_⟩, by omega, by omega, by omega, ?_, ?_, ?_⟩
 ·have := heap_alloc_new (w.alloc (.cells #[.slice A n c] 116)) (.cells #[.int .i64 0] 3);rwa [e1] at this
 ·exact bv (heap_alloc_new w _) _
 ·simp only [World.size_alloc]; omega
 ·simp only [World.size_alloc]; omega
 ·exact ((Below.refl _ w).alloc ai _).alloc (by simp only [World.size_alloc]; omega) _
theorem aaK (g off n c : Nat) (w : World) {i j : Nat} (h1 : i < j) (h2 : j <= n) (h3 : n <= c) : (Instr.sliceAt 116 (.slice (some ⟨g, off, none⟩) n c) (some (.int .i64 (i : Int))) (some (.int .i64 (j : Int))) (some (.int .i64 (j : Int)))).run prog w = .ok (.slice (some ⟨g, off + i, none⟩) (j - i) (j - i)) w := by
 have e1 : (0 <= (j : Int) /\ (j : Int) <= (c : Int)) := by omega
 have e2 : (0 <= (j : Int) /\ (j : Int) <= (j : Int)) := by omega
 have e3 : (0 <= (i : Int) /\ (i : Int) <= (j : Int)) := by omega
 have e4 : j ≠ i := by omega
 have e5 : i <= j := by omega
 have e6 : j <= c := by omega
 simp [Instr.sliceAt, Instr.slice, Instr.sliceBounds, Instr.sliceBound, Instr.sureAddr, asIntOf, run_underlying underlying116, Tryz.sizeOf5, Addr.add_mid, e1, e2, e3, e4, e5, e6]
theorem yJ (p q g off n c k s : Nat) (w : World) (h : iy w p q (.slice (some ⟨g, off, none⟩) n c) k) (hpq : p ≠ q) (hs : 0 < s) (hk : k + s <= n) (hc : n <= c) (hn : n <= 1000000) :
  Calls prog 141 #[.int .i64 (s : Int), .pointer (some ⟨p, 0, none⟩), .pointer (some ⟨q, 0, none⟩)] w fun e w' => e = .returned (.slice (some ⟨g, off + k, none⟩) s s) /\ iy w' p q (.slice (some ⟨g, off, none⟩) n c) (k + s) /\ w.grownBy w' (some p) := by
 obtain ⟨h1, h2⟩ := h;obtain ⟨a1, a2⟩ := cell1 h1;obtain ⟨b1, b2⟩ := cell1 h2;have s1 := set1 h1 (.int .i64 ((k : Int) + s));have s2 : (w.setCell ⟨p, 0, none⟩ (.int .i64 ((k : Int) + s))).heap[q]? = some (.cells #[.slice (some ⟨g, off, none⟩) n c] 116 (0, 0)) := (heap_setCell_other w ⟨p, 0, none⟩ q _ (fun e => hpq e.symm)).trans h2;have d1 := (cell1 s1).1;have d2 := (cell1 s2).1;have hg := ny w p 0 (.int .i64 ((k : Int) + s));have S1 := ae s1;have S2 := ae s2;have HG := ae hg;have HCUT : Hid (∀ w : World, (Instr.sliceAt 116 (.slice (some ⟨g, off, none⟩) n c) (some (.int .i64 (k : Int))) (some (.int .i64 ((k : Int) + (s : Int)))) (some (.int .i64 ((k : Int) + (s : Int))))).run prog w = .ok (.slice (some ⟨g, off + k, none⟩) s s) w) := ae fun w => by
  have := aaK g off n c w (i := k) (j := k + s) (by omega) hk hc;rw [show k + s - k = s from by omega] at this;exact this
 clear h1 h2 s1 s2 hg b1 b2;go_enter func141, ntmps141;go_wp2_with (first | (refine au rfl (fC rfl rfl rfl rfl rfl (HCUT.out _)) ?_) | fail);go_ret;exact ⟨rfl, ⟨S1, S2⟩, HG⟩
structure nV (B : Nat) (w0 w : World) (x : Sup) (sb rb r nb p q g : Nat) (a : List UInt8) : Prop where
 sup : bS w sb x
 ros : bF w rb x.ros
 res : cl w r 162 z44
 nxt : w.heap[nb]? = some (.cells #[iR p q] 167 (0, 0))
 cut : iy w p q (.slice (some ⟨g, 0, none⟩) 44 44) a.length
 row : cl w g 162 (dw a)
 bel : Below B w0 w
 p0 : B <= p
 g0 : B <= g
 dif : sb ≠ p /\ sb ≠ g /\ rb ≠ p /\ rb ≠ g /\ r ≠ p /\ r ≠ g /\ nb ≠ p /\ nb ≠ g /\ p ≠ q /\ p ≠ g /\ q ≠ g
section
variable {B : Nat} {w0 w w' : World} {x : Sup} {sb rb r nb p q g : Nat} {a b : List UInt8}
theorem nV.keep (h : nV B w0 w x sb rb r nb p q g a) (hb : Below w.heap.size w w') (hB : B <= w0.heap.size) : nV B w0 w' x sb rb r nb p q g a :=
 ⟨aC h.sup hb, aC h.ros hb, aC h.res hb, aC h.nxt hb, ⟨aC h.cut.1 hb, aC h.cut.2 hb⟩, aC h.row hb, h.bel.trans (hb.mono (ap hB h.bel.size)), h.p0, h.g0, h.dif⟩
theorem nV.abZ (h : nV B w0 w x sb rb r nb p q g a) (hc : iy w' p q (.slice (some ⟨g, 0, none⟩) 44 44) b.length) (hr : cl w' g 162 (dw b)) (hg : ∃ w1, w.grownBy w1 (some p) /\ w1.grownBy w' (some g)) (hB : B <= w0.heap.size) : nV B w0 w' x sb rb r nb p q g b := by
 obtain ⟨w1, k1, k2⟩ := hg;obtain ⟨d1, d2, d3, d4, d5, d6, d7, d8, d9, d10, d11⟩ := h.dif;have hb1 : Below B w0 w1 := h.bel.grown k1 (ap hB h.bel.size) (fun k hk => by injection hk with e; have := h.p0; omega);have hb2 : Below B w0 w' := hb1.grown k2 (ap hB hb1.size) (fun k hk => by injection hk with e; have := h.g0; omega);exact ⟨bU (bU h.sup k1 d1) k2 d2, bU (bU h.ros k1 d3) k2 d4, bU (bU h.res k1 d5) k2 d6, bU (bU h.nxt k1 d7) k2 d8, hc, hr, hb2, h.p0, h.g0, h.dif⟩
end
theorem Made.aaa {w w' : World} {B : Nat} {v : Value} {l : List UInt8} {row : Option Nat} (h : Made w B v l) (hg : w.grownBy w' row) (hne : ∀ k, row = Option.some k -> k < B) : Made w' B v l := by
 refine ⟨h.1, ?_⟩;rcases h.2 with hn | ⟨g, cap, cur, rfl, hbg, hgg, rest⟩
 ·exact .inl hn
 ·refine .inr ⟨g, cap, cur, rfl, hbg, ?_, rest⟩;rw [hg.block g (Array.getElem?_eq_some_iff.1 hgg).1 (fun e => by have := hne g e.symm; omega)];exact hgg
theorem rx (B : Nat) (w0 w : World) (x : Sup) (sb rb r nb p q g : Nat) (a : List UInt8) (n k : Nat) (h : nV B w0 w x sb rb r nb p q g a) (hB : B <= w0.heap.size) (h1 : 1 <= k) (h2 : k <= 8) (hk : a.length + k <= 44) (hn : n < 256 ^ k) :
  Calls prog 128 #[.int .u64 n, .int .i64 k, .pointer (some ⟨nb, 0, none⟩)] w fun e w' => e = .returned (.tuple #[]) /\ nV B w0 w' x sb rb r nb p q g (a ++ aN 8 k n) := by
 have HH := ae h;have HL := ae (aA 8 k n);have HSP := ae (mo (a := a) (x := aN 8 k n) (by rw [aA]; exact hk));have HPL := ae (dP (b := a) (by omega));have HPP := ae (aW h.cut.1);clear h;go_enter func128, ntmps128;go_wp2_with fail;refine (vH n k w h1 h2 hn).mono ?_;rintro e w1 ⟨v, rfl, hv, hb⟩;have hvm := hv.made;obtain ⟨A, c, rfl, _, _, _⟩ := hvm.open_ HL;have HV := ae hvm;have H1 := ae (HH.out.keep hb hB);have c0 := (cell1 H1.out.nxt).1;unfold iR at c0;clear hv hvm hb HH;go_wp2_with fail;refine (yJ p q g 0 44 44 a.length k w1 H1.out.cut H1.out.dif.2.2.2.2.2.2.2.2.1 h1 hk ai (by omega)).mono ?_;rintro e w2 ⟨rfl, hc2, hg2⟩;clear c0;have HC2 := ae hc2;have HG2 := ae hg2;have HROW2 : Hid (cl w2 g 162 (dw a)) := ae (bU H1.out.row hg2 (fun e => H1.out.dif.2.2.2.2.2.2.2.2.2.1 e.symm));have HRD2 : Hid (Rd w2 w2.heap.size A k (aN 8 k n)) := ae (by
  have := (HV.out.aaa hg2 (fun j hj => by injection hj with e; have := HPP.out; omega)).rd;exact this)
 clear hc2 hg2;go_wp2_with (first | (refine ef rfl _ _ rfl g a.length k k k c _ A 162 (dw a) (aN 8 k n) rfl rfl HROW2 HRD2 ai ?_ ?_) | fail)
 ·rw [HPL.out]; omega
 intro w3 hr3 hg3;rw [HSP.out] at hr3;have hdf := H1.out.dif;have hc3 : iy w3 p q (.slice (some ⟨g, 0, none⟩) 44 44) (a ++ aN 8 k n).length := by
  rw [List.length_append, HL.out];exact ⟨bU HC2.out.1 hg3 hdf.2.2.2.2.2.2.2.2.2.1, bU HC2.out.2 hg3 hdf.2.2.2.2.2.2.2.2.2.2⟩
 have H3 := ae (H1.out.abZ hc3 hr3 ⟨w2, HG2, hg3⟩ hB);clear hr3 hg3 hdf hc3;go_wp2_with fail
 go_end0
 exact ⟨rfl, H3⟩
section
variable {ρ : Operand -> Value} {o : Oper} {x z : Operand} {w : World} {g off : Nat}
theorem mc (ho : o.op = .slice 162 x none none none) (hx : ρ x = .pointer (some ⟨g, off, none⟩)) : (execOp ρ o).run prog w = .ok (.value (.slice (some ⟨g, off, none⟩) 44 44)) w := by
 have h : (Instr.sliceAt 162 (.pointer (some ⟨g, off, none⟩)) none none none).run prog w = .ok (.slice (some ⟨g, off, none⟩) 44 44) w := by
  simp [Instr.sliceAt, Instr.sliceBounds, Instr.sliceBound, Instr.sureAddr, asIntOf, run_underlying underlying162, Tryz.sizeOf5, Addr.add_mid]
 unfold execOp;simp only [ho, hx, Option.map_none, Sem.run_bind, h, Result.andThen_ok, Sem.run_pure]
end
theorem bF.abC {w : World} {b : Nat} {x : Ros} (h : bF w b x) : Rd w w.heap.size (some ⟨b, 3, none⟩) 16 x.st.toList := by
 have := h.rd (m := 16) ai;rwa [List.take_of_length_le (by simp)] at this
theorem r7 {w w1 w2 : World} {x : Sup} {p q : Nat} (HS : bS w1 w.heap.size x) (HB : Below w.heap.size w w1) (HRES : cl w1 (w.heap.size + 1) 162 z44) (HROW : cl w1 (w.heap.size + 1 + 1) 162 z44)
  (hb : Below w1.heap.size w1 w2) (hc : iy w2 p q (.slice (some ⟨w.heap.size + 1 + 1, 0, none⟩) 44 44) 0) (hd : w1.heap.size <= p /\ w1.heap.size <= q /\ p ≠ q /\ p < w2.heap.size /\ q < w2.heap.size) :
  nV w.heap.size w ((w2.alloc (.cells #[iR p q] 167)).alloc (.cells (aU x.ros).toArray 35)) x w.heap.size (w2.heap.size + 1) (w.heap.size + 1) w2.heap.size p q (w.heap.size + 1 + 1) [] := by
 have e1 := World.size_alloc (w := w2) (o := Obj.cells #[iR p q] 167);have h2 := aW HROW;have h3 := hb.size;have hro := bF.new (w2.alloc (.cells #[iR p q] 167)) x.ros;rw [e1] at hro;have hb2 : Below w.heap.size w w2 := HB.trans (hb.mono HB.size);refine ⟨((HS.below (aW HS) hb).past _).past _, hro, bv (bv (aC HRES hb) _) _, bv (heap_alloc_new w2 _) _, ⟨bv (bv hc.1 _) _, bv (bv hc.2 _) _⟩, bv (bv (aC HROW hb) _) _, (hb2.alloc (by omega) _).alloc (by rw [e1]; omega) _, ?_, ?_, ?_⟩
 ·omega
 ·omega
 ·refine ⟨?_, ?_, ?_, ?_, ?_, ?_, ?_, ?_, ?_, ?_, ?_⟩ <;> omega
theorem tQ {a : List UInt8} (h : a.length < 44) : dw (a ++ aN 8 1 0) = dw a := by
 unfold dw;have e : aN 8 1 0 = [0] := by decide
 rw [e, List.append_assoc, List.length_append, List.length_singleton]
 congr 1
 rw [show 44 - a.length = (44 - (a.length + 1)) + 1 from by omega, List.replicate_succ]
 rfl
theorem xr {x : Sup} (h : x.ros.gone = true) : dw (aN 8 8 x.id ++ aN 8 1 x.ros.m.toNat ++ aN 8 2 x.ros.s.toNat ++ aN 8 2 x.ros.r.toNat ++ aN 8 1 x.self.toNat ++ aN 8 4 (val 2 x.ros.st.toList) ++ aN 8 2 x.ros.cur.toNat ++ aN 8 1 1) = ch x := by
 unfold ch dd jy;rw [h];simp only [List.append_assoc, if_true]
theorem zu {x : Sup} (h : x.ros.gone = false) : dw (aN 8 8 x.id ++ aN 8 1 x.ros.m.toNat ++ aN 8 2 x.ros.s.toNat ++ aN 8 2 x.ros.r.toNat ++ aN 8 1 x.self.toNat ++ aN 8 4 (val 2 x.ros.st.toList) ++ aN 8 2 x.ros.cur.toNat) = ch x := by
 rw [<- tQ (by simp [aA])];unfold ch dd jy;rw [h];simp only [List.append_assoc, Bool.false_eq_true, if_false]
theorem xO (x : Sup) (w : World) (hid : x.id < 18446744073709551616) (hx : dW x = true) : Calls prog 120 #[sup x] w fun e w' => e = .returned (arr (ch x)) /\ Below w.heap.size w w' := by
 obtain ⟨_, hf, q1, q2⟩ := jp hx;obtain ⟨hgeo, hsta, _, q3, q4, _⟩ := du hf;obtain ⟨g1, g2, g3, g4, g5, g6⟩ := ez hgeo;have HNAR : Hid (narrow 2 x.ros.st.toList = true) := ae (by
  unfold narrow;rw [List.all_eq_true];intro u hu
  simpa using jD hsta u hu)
 have HSMALL := ae (n7 hsta);obtain ⟨M, hM⟩ : ∃ M : Nat, x.ros.m.toNat = M := ⟨_, rfl⟩;obtain ⟨T, hT⟩ : ∃ T : Nat, x.ros.s.toNat = T := ⟨_, rfl⟩;obtain ⟨R, hR⟩ : ∃ R : Nat, x.ros.r.toNat = R := ⟨_, rfl⟩;obtain ⟨E, hE⟩ : ∃ E : Nat, x.self.toNat = E := ⟨_, rfl⟩;obtain ⟨C, hC⟩ : ∃ C : Nat, x.ros.cur.toNat = C := ⟨_, rfl⟩;have HCR : Hid (∀ w' rb, bF w' rb x.ros -> w'.cell? ⟨rb, 0, none⟩ = some (.int .i64 (M : Nat)) /\ w'.cell? ⟨rb, 1, none⟩ = some (.int .i64 (T : Nat)) /\ w'.cell? ⟨rb, 2, none⟩ = some (.int .i64 (R : Nat)) /\ w'.cell? ⟨rb, 19, none⟩ = some (.int .i64 (C : Nat)) /\ w'.cell? ⟨rb, 20, none⟩ = some (.bool x.ros.gone)) := ae fun w' rb h => by
  have := h.cells;rw [show x.ros.m = (M : Int) from by omega, show x.ros.s = (T : Int) from by omega, show x.ros.r = (R : Int) from by omega, show x.ros.cur = (C : Int) from by omega] at this;exact this
 have HCS : Hid (∀ w' sb, bS w' sb x -> w'.cell? ⟨sb, 0, none⟩ = some (.int .u64 x.id) /\ w'.cell? ⟨sb, 1, none⟩ = some (.int .i64 (E : Nat))) := ae fun w' sb h => by
  have := h.cells;rw [show x.self = (E : Int) from by omega] at this;exact ⟨this.1, this.2.1⟩
 have hM16 : M <= 16 := by omega
 have hT64 : T <= 64 := by omega
 have hR256 : R <= 256 := by omega
 have hE16 : E <= 16 := by omega
 have hC64 : C <= 64 := by omega
 have HYES := fun h => ae (xr (x := x) h)
 have HNO := fun h => ae (zu (x := x) h)
 rw [hM, hT, hR, hE, hC] at HYES HNO;clear hf q1 q2 hgeo hsta q3 q4 g1 g2 g3 g4 g5 g6 hM hT hR hE hC hx;have hmf : ∀ (fn : Fn) (first cap : Array Value) (w : World), (Instr.makeFunc fn first cap).run prog w = .ok (.func fn first cap) w := fun _ _ _ _ => rfl
 obtain ⟨h1, h2, h3⟩ := gn w x;have HS := ae ((h1.past (.cells (vals z44).toArray 162)).past (.cells (vals z44).toArray 162));have hb2 := h2.alloc h2.size (.cells (vals z44).toArray 162);have HB := ae (hb2.alloc hb2.size (.cells (vals z44).toArray 162));have hr := cl.new (w.alloc (.cells (aV x).toArray 37)) z44 162;rw [World.size_alloc] at hr;have HRES := ae (hr.past (.cells (vals z44).toArray 162));have hg := cl.new ((w.alloc (.cells (aV x).toArray 37)).alloc (.cells (vals z44).toArray 162)) z44 162;rw [World.size_alloc, World.size_alloc] at hg;have HROW := ae hg;clear h1 h2 h3 hb2 hr hg;go_enter func120, ntmps120;go_wp2_with (first | (refine au rfl (ed rfl rfl) ?_) | (refine au rfl (jl rfl) ?_) | (refine au rfl (mc rfl rfl) ?_) | fail)
 try simp only [World.size_alloc]
 generalize ((w.alloc (.cells (aV x).toArray 37)).alloc (.cells (vals z44).toArray 162)).alloc (.cells (vals z44).toArray 162) = w1 at *;refine (mt (.slice (some ⟨w.heap.size + 1 + 1, 0, none⟩) 44 44) _ 44 44 rfl w1).mono ?_;rintro e w2 ⟨p, q, rfl, hc, hp0, hq0, hpq, hp1, hq1, hb⟩;have hsz : w.heap.size + 1 + 1 < w2.heap.size := by have := aW HROW; have := hb.size; omega
 have HS2 := ae ((HS.out.below (aW HS) hb).past (.cells #[iR p q] 167));have HW0 := ae (r7 HS HB HRES HROW hb hc ⟨hp0, hq0, hpq, hp1, hq1⟩);have HR0 : Hid (w.heap.size <= w.heap.size + 1) := ae (Nat.le_succ _);clear hb hc hp0 hq0 hpq hp1 hq1 HS HB HRES HROW;unfold iR at HS2 HW0 ⊢;go_upto_region 5 with (first | (refine au rfl (bh (c := x.ros) rfl rfl ?_) ?_; (with_reducible exact HS2.out.i4)) | (refine au rfl (cz rfl) ?_) | (refine az rfl (mz rfl rfl rfl) ?_) | fail)
 try simp only [World.size_alloc]
 generalize ((w2.alloc (.cells #[Value.func (.func 141) #[] #[.pointer (some ⟨p, 0, none⟩), .pointer (some ⟨q, 0, none⟩)]] 167)).alloc (.cells (aU x.ros).toArray 35)) = w3 at *
 try simp only [World.size_alloc]
 generalize w2.heap.size = nb at *;generalize w.heap.size + 1 + 1 = g at *;generalize w.heap.size + 1 = r at *;obtain ⟨B, hBdef⟩ : ∃ B, w.heap.size = B := ⟨_, rfl⟩;have HBD := ae hBdef;rw [hBdef] at HW0 HR0 ⊢;clear hBdef HS2 hsz;obtain ⟨c0, c1⟩ := HCS.out _ _ HW0.out.sup;obtain ⟨d0, d1, d2, d3, d4⟩ := HCR.out _ _ HW0.out.ros;go_wp2_with fail;refine (rx B w w3 x B (nb + 1) r nb p q g _ x.id 8 HW0 (Nat.le_of_eq HBD.out.symm) (by omega) (by omega) (by simp [aA]) (by simpa using hid)).mono ?_;rintro e w4 ⟨rfl, hW⟩;have HW1 := ae hW;clear hW c0 c1 d0 d1 d2 d3 d4 HW0;obtain ⟨c0, c1⟩ := HCS.out _ _ HW1.out.sup;obtain ⟨d0, d1, d2, d3, d4⟩ := HCR.out _ _ HW1.out.ros;go_wp2_with fail;refine (rx B w w4 x B (nb + 1) r nb p q g _ M 1 HW1 (Nat.le_of_eq HBD.out.symm) (by omega) (by omega) (by simp [aA]) (by omega)).mono ?_;rintro e w5 ⟨rfl, hW⟩;have HW2 := ae hW;clear hW c0 c1 d0 d1 d2 d3 d4 HW1;obtain ⟨c0, c1⟩ := HCS.out _ _ HW2.out.sup;obtain ⟨d0, d1, d2, d3, d4⟩ := HCR.out _ _ HW2.out.ros;go_wp2_with fail;refine (rx B w w5 x B (nb + 1) r nb p q g _ T 2 HW2 (Nat.le_of_eq HBD.out.symm) (by omega) (by omega) (by simp [aA]) (by omega)).mono ?_;rintro e w6 ⟨rfl, hW⟩;have HW3 := ae hW;clear hW c0 c1 d0 d1 d2 d3 d4 HW2;obtain ⟨c0, c1⟩ := HCS.out _ _ HW3.out.sup;obtain ⟨d0, d1, d2, d3, d4⟩ := HCR.out _ _ HW3.out.ros;go_wp2_with fail;refine (rx B w w6 x B (nb + 1) r nb p q g _ R 2 HW3 (Nat.le_of_eq HBD.out.symm) (by omega) (by omega) (by simp [aA]) (by omega)).mono ?_;rintro e w7 ⟨rfl, hW⟩;have HW4 := ae hW;clear hW c0 c1 d0 d1 d2 d3 d4 HW3;obtain ⟨c0, c1⟩ := HCS.out _ _ HW4.out.sup;obtain ⟨d0, d1, d2, d3, d4⟩ := HCR.out _ _ HW4.out.ros;go_wp2_with fail;refine (rx B w w7 x B (nb + 1) r nb p q g _ E 1 HW4 (Nat.le_of_eq HBD.out.symm) (by omega) (by omega) (by simp [aA]) (by omega)).mono ?_;rintro e w8 ⟨rfl, hW⟩;have HW5 := ae hW;clear hW c0 c1 d0 d1 d2 d3 d4 HW4;have HRD := ae HW5.out.ros.abC;go_wp2_with (first | (refine au rfl (eU rfl rfl) ?_) | fail);refine (yH _ 16 16 _ 2 _ x.ros.st.toList w8 (ae rfl) HRD ai (by omega) (by omega) (by omega) HNAR).mono ?_;rintro e w9 ⟨v, rfl, hv, hb⟩;rw [show bytesOf 16 2 = 4 from rfl] at hv;have hvm := hv.made;obtain ⟨A, c, rfl, _, _, _⟩ := hvm.open_ (aA 8 4 _);have HV := ae hvm;have HW6 := ae (HW5.out.keep hb (Nat.le_of_eq HBD.out.symm));have HPP := ae (aW HW5.out.cut.1);have n0 := (cell1 HW6.out.nxt).1;unfold iR at n0;clear hv hvm hb HRD HW5;go_wp2_with fail;refine (yJ p q g 0 44 44 _ 4 w9 HW6.out.cut HW6.out.dif.2.2.2.2.2.2.2.2.1 (by omega) (by simp [aA]) ai (by omega)).mono ?_;rintro e w10 ⟨rfl, hc2, hg2⟩;clear n0;have HC2 := ae hc2;have HG2 := ae hg2;have HROW2 := ae (bU HW6.out.row hg2 (fun e => HW6.out.dif.2.2.2.2.2.2.2.2.2.1 e.symm));have HRD2 : Hid (Rd w10 w10.heap.size A 4 (aN 8 4 (val 2 x.ros.st.toList))) := ae (by
  have := (HV.out.aaa hg2 (fun j hj => by injection hj with e; have := HPP.out; omega)).rd;exact this)
 clear hc2 hg2;obtain ⟨a, ha⟩ : ∃ a, [] ++ aN 8 8 x.id ++ aN 8 1 M ++ aN 8 2 T ++ aN 8 2 R ++ aN 8 1 E = a := ⟨_, rfl⟩;have hal : a.length = 14 := by rw [<- ha]; simp [aA]
 rw [ha] at HC2 HROW2 HW6;have HA := ae ha;have HAL := ae hal;clear ha;rw [hal] at HC2;go_wp2_with (first | (refine ef rfl _ _ rfl g 14 4 4 4 c _ A 162 (dw a) (aN 8 4 (val 2 x.ros.st.toList)) rfl rfl HROW2 HRD2 ai ?_ ?_) | fail)
 ·rw [dP (by omega)]; omega
 intro w11 hr3 hg3;rw [<- hal, mo (by rw [hal, aA]; omega)] at hr3;have hdf := HW6.out.dif;have hc3 : iy w11 p q (.slice (some ⟨g, 0, none⟩) 44 44) (a ++ aN 8 4 (val 2 x.ros.st.toList)).length := by
  rw [List.length_append, aA, hal];exact ⟨bU HC2.out.1 hg3 hdf.2.2.2.2.2.2.2.2.2.1, bU HC2.out.2 hg3 hdf.2.2.2.2.2.2.2.2.2.2⟩
 have HW7 := ae (HW6.out.abZ hc3 hr3 ⟨w10, HG2, hg3⟩ (Nat.le_of_eq HBD.out.symm));clear hr3 hg3 hdf hc3 HW6 HC2 HG2 HROW2 HRD2 HV HPP;obtain ⟨d0, d1, d2, d3, d4⟩ := HCR.out _ _ HW7.out.ros;go_wp2_with fail;refine (rx B w w11 x B (nb + 1) r nb p q g _ C 2 HW7 (Nat.le_of_eq HBD.out.symm) (by omega) (by omega) (by rw [List.length_append, aA]; omega) (by omega)).mono ?_;rintro e w12 ⟨rfl, hW⟩;have HW8 := ae hW;clear hW d0 d1 d2 d3 d4 HW7;have d4 := (HCR.out _ _ HW8.out.ros).2.2.2.2;cases hgn : x.ros.gone
 ·have HF := HNO hgn;rw [hgn] at d4;have HL := ae HW8.out.row;rw [<- HA.out] at HL;simp only [List.nil_append] at HL;rw [HF.out] at HL;have HLR := ae (br HL);have HTH := ae (bm (o := 0) (n := 44) HW8.out.res (by rw [bi]; exact ai));have HBB := ae HW8.out.bel;have HFL := ae (cJ x);clear HYES HNO HF hgn;go_wp2_with (first | (refine au rfl (fT HFL.out rfl rfl ?_) ?_; (with_reducible exact HLR.out)) | (refine az rfl (eH (cs := vals (ch x)) ?k1 (gj _) rfl rfl rfl ?k2) ?_; (case k1 => rw [bi, HFL.out]; exact kz); (case k2 => rw [bi, HFL.out]; exact HTH.out)) | fail);refine bodyPost_ret (dY (t := 162) (cs := vals (ch x)) rfl _ _ r rfl ?h1 underlying162 rfl ?h2) rfl ⟨rfl, ?h3⟩
  case h1 => exact World.rangeAt_setCells_same _ _ _ _ (by rw [bi, HFL.out]; exact HTH)
  case h2 => rw [bi, HFL.out]; exact kz
  case h3 => rw [HBD.out]; exact below_setCells HBB HR0 _
 ·have HF := HYES hgn;rw [hgn] at d4;go_wp2_with fail;refine (rx B w w12 x B (nb + 1) r nb p q g _ 1 1 HW8 (Nat.le_of_eq HBD.out.symm) (by omega) (by omega) (by rw [List.length_append, List.length_append, aA, aA]; have := HAL.out; omega) (by omega)).mono ?_;rintro e w13 ⟨rfl, hW⟩;have HW9 := ae hW;clear hW d4 HW8;have HL := ae HW9.out.row;rw [<- HA.out] at HL;simp only [List.nil_append] at HL;rw [HF.out] at HL;have HLR := ae (br HL);have HTH := ae (bm (o := 0) (n := 44) HW9.out.res (by rw [bi]; exact ai));have HBB := ae HW9.out.bel;have HFL := ae (cJ x);clear HYES HNO HF hgn;go_wp2_with (first | (refine au rfl (fT HFL.out rfl rfl ?_) ?_; (with_reducible exact HLR.out)) | (refine az rfl (eH (cs := vals (ch x)) ?k1 (gj _) rfl rfl rfl ?k2) ?_; (case k1 => rw [bi, HFL.out]; exact kz); (case k2 => rw [bi, HFL.out]; exact HTH.out)) | fail);refine bodyPost_ret (dY (t := 162) (cs := vals (ch x)) rfl _ _ r rfl ?h1 underlying162 rfl ?h2) rfl ⟨rfl, ?h3⟩
  case h1 => exact World.rangeAt_setCells_same _ _ _ _ (by rw [bi, HFL.out]; exact HTH)
  case h2 => rw [bi, HFL.out]; exact kz
  case h3 => rw [HBD.out]; exact below_setCells HBB HR0 _
theorem kg (B : Nat) (v : Value) (a : List UInt8) (n k : Nat) (w : World) (hm : Made w B v a) (hB : B <= w.heap.size) (ha : a.length <= 100) (hn : n < 18446744073709551616) (h1 : 1 <= k) (h2 : k <= 8) (hk : n < 2 ^ (8 * k)) :
  Calls prog 101 #[v, .int .u64 n, .int .i64 k] w fun e w' => ∃ v', e = .returned v' /\ Made w' B v' (a ++ aN 8 k n) /\ Below B w w' := by
 have HM := ae hm;have HB := ae hB;have HK := ae hk;clear hm hB hk;obtain ⟨A0, c0, rfl, _, _⟩ := HM.out.form;go_enter func101, ntmps101;go_wp2_with fail;refine (oE n k _ w (ae rfl) hn h1 h2 HK).mono ?_;rintro e w1 ⟨v1, rfl, hm1, hb1⟩;obtain ⟨A1, c1, rfl, hr1, _, _⟩ := hm1.open_ (aA 8 k n);have HM1 := ae (HM.out.below hb1);have HR1 := ae hr1;have HB1 : Hid (B <= w1.heap.size) := ae (ap HB hb1.size);have HBB := ae (hb1.mono HB);clear hm1 hr1 hb1;go_wp2_with (first | (refine dA rfl _ _ rfl B _ k c1 _ a (aN 8 k n) A1 rfl rfl HM1 HR1 HB1 ?_ ?_) | fail)
 ·omega
 intro v2 w2 hm2 hg2;have HM2 := ae hm2;have HB2 := ae (HBB.out.grown hg2 HB1 (fun k hk => (HM1.out.lt k hk).1));clear hm2 hg2;go_wp2_with fail;go_ret;exact ⟨_, rfl, HM2, HB2⟩
theorem vA {x : Sup} (h : x.ros.gone = true) : aN 8 8 x.id ++ aN 8 1 x.ros.m.toNat ++ aN 8 2 x.ros.s.toNat ++ aN 8 2 x.ros.r.toNat ++ aN 8 1 x.self.toNat ++ aN 8 4 (val 2 x.ros.st.toList) ++ aN 8 2 x.ros.cur.toNat ++ [1] = dd x := by
 unfold dd jy;rw [h];simp only [List.append_assoc, if_true]
 rfl
theorem x7 {x : Sup} (h : x.ros.gone = false) : aN 8 8 x.id ++ aN 8 1 x.ros.m.toNat ++ aN 8 2 x.ros.s.toNat ++ aN 8 2 x.ros.r.toNat ++ aN 8 1 x.self.toNat ++ aN 8 4 (val 2 x.ros.st.toList) ++ aN 8 2 x.ros.cur.toNat ++ [0] = dd x := by
 unfold dd jy;rw [h];simp only [List.append_assoc, Bool.false_eq_true, if_false]
 rfl
theorem acg (x : Sup) (w : World) (hid : x.id < 18446744073709551616) (hx : dW x = true) : Calls prog 77 #[sup x] w fun e w' => ∃ v, e = .returned v /\ Made w' w.heap.size v (dd x) /\ Below w.heap.size w w' := by
 obtain ⟨h1, h2, h3⟩ := gn w x;have HS0 := ae h1;have HB0 := ae h2;have HZ0 : Hid (w.heap.size + 1 <= (w.alloc (.cells (aV x).toArray 37)).heap.size) := ae h3;clear h1 h2 h3;obtain ⟨_, hf, q1, q2⟩ := jp hx;obtain ⟨hgeo, hsta, _, q3, q4, _⟩ := du hf;obtain ⟨g1, g2, g3, g4, g5, g6⟩ := ez hgeo;have HNAR : Hid (narrow 2 x.ros.st.toList = true) := ae (by
  unfold narrow;rw [List.all_eq_true];intro u hu
  simpa using jD hsta u hu)
 have HSMALL := ae (n7 hsta);obtain ⟨M, hM⟩ : ∃ M : Nat, x.ros.m.toNat = M := ⟨_, rfl⟩;obtain ⟨T, hT⟩ : ∃ T : Nat, x.ros.s.toNat = T := ⟨_, rfl⟩;obtain ⟨R, hR⟩ : ∃ R : Nat, x.ros.r.toNat = R := ⟨_, rfl⟩;obtain ⟨E, hE⟩ : ∃ E : Nat, x.self.toNat = E := ⟨_, rfl⟩;obtain ⟨C, hC⟩ : ∃ C : Nat, x.ros.cur.toNat = C := ⟨_, rfl⟩;have HCR : Hid (∀ w' rb, bF w' rb x.ros -> w'.cell? ⟨rb, 0, none⟩ = some (.int .i64 (M : Nat)) /\ w'.cell? ⟨rb, 1, none⟩ = some (.int .i64 (T : Nat)) /\ w'.cell? ⟨rb, 2, none⟩ = some (.int .i64 (R : Nat)) /\ w'.cell? ⟨rb, 19, none⟩ = some (.int .i64 (C : Nat)) /\ w'.cell? ⟨rb, 20, none⟩ = some (.bool x.ros.gone)) := ae fun w' rb h => by
  have := h.cells;rw [show x.ros.m = (M : Int) from by omega, show x.ros.s = (T : Int) from by omega, show x.ros.r = (R : Int) from by omega, show x.ros.cur = (C : Int) from by omega] at this;exact this
 have HCR2 : Hid (∀ w' sb, bS w' sb x -> w'.cell? ⟨sb, 2, none⟩ = some (.int .i64 (M : Nat)) /\ w'.cell? ⟨sb, 3, none⟩ = some (.int .i64 (T : Nat)) /\ w'.cell? ⟨sb, 4, none⟩ = some (.int .i64 (R : Nat)) /\ w'.cell? ⟨sb, 21, none⟩ = some (.int .i64 (C : Nat)) /\ w'.cell? ⟨sb, 22, none⟩ = some (.bool x.ros.gone)) := ae fun w' sb h => by
  have := h.cells.2.2;rw [show x.ros.m = (M : Int) from by omega, show x.ros.s = (T : Int) from by omega, show x.ros.r = (R : Int) from by omega, show x.ros.cur = (C : Int) from by omega] at this;exact this
 have HCS : Hid (∀ w' sb, bS w' sb x -> w'.cell? ⟨sb, 0, none⟩ = some (.int .u64 x.id) /\ w'.cell? ⟨sb, 1, none⟩ = some (.int .i64 (E : Nat))) := ae fun w' sb h => by
  have := h.cells;rw [show x.self = (E : Int) from by omega] at this;exact ⟨this.1, this.2.1⟩
 have hM16 : M <= 16 := by omega
 have hT64 : T <= 64 := by omega
 have hR256 : R <= 256 := by omega
 have hE16 : E <= 16 := by omega
 have hC64 : C <= 64 := by omega
 have HYES := fun h => ae (vA (x := x) h)
 have HNO := fun h => ae (x7 (x := x) h)
 rw [hM, hT, hR, hE, hC] at HYES HNO;clear hf q1 q2 hgeo hsta q3 q4 g1 g2 g3 g4 g5 g6 hM hT hR hE hC hx;go_enter func77, ntmps77;go_upto_region 1 with (first | (refine au rfl (ed rfl rfl) ?_) | fail);generalize w.alloc (.cells (aV x).toArray 37) = w1 at *;obtain ⟨s, hs⟩ : ∃ s, w.heap.size = s := ⟨_, rfl⟩;have HSD := ae hs;rw [hs] at HS0 HB0 HZ0 ⊢;clear hs;have HM0 : Hid (Made w1 (s + 1) (.slice none 0 0) []) := ae (World.ownsRow_nil _ _ _ _);have HX := ae hid;clear hid;obtain ⟨c0, c1⟩ := HCS.out _ _ HS0;obtain ⟨d0, d1, d2, d3, d4⟩ := HCR2.out _ _ HS0;go_wp2_with fail;refine (kg (s + 1) _ _ x.id 8 w1 HM0 HZ0 (by simp [aA]) (by exact HX) (by omega) (by omega) (by exact HX)).mono ?_;rintro e w2 ⟨v1, rfl, hm, hb⟩;have HM1 := ae hm;have HS1 := ae (HS0.out.below (Nat.lt_succ_self _) hb);have HB1 := ae (HB0.out.trans (hb.mono (Nat.le_succ _)));have HZ1 : Hid (s + 1 <= w2.heap.size) := ae (ap HZ0 hb.size);clear hm hb HM0 HS0 HB0 HZ0 c0 c1 d0 d1 d2 d3 d4;obtain ⟨c0, c1⟩ := HCS.out _ _ HS1;obtain ⟨d0, d1, d2, d3, d4⟩ := HCR2.out _ _ HS1;go_wp2_with fail;refine (kg (s + 1) _ _ M 1 w2 HM1 HZ1 (by simp [aA]) (by omega) (by omega) (by omega) (by omega)).mono ?_;rintro e w3 ⟨v2, rfl, hm, hb⟩;have HM2 := ae hm;have HS2 := ae (HS1.out.below (Nat.lt_succ_self _) hb);have HB2 := ae (HB1.out.trans (hb.mono (Nat.le_succ _)));have HZ2 : Hid (s + 1 <= w3.heap.size) := ae (ap HZ1 hb.size);clear hm hb HM1 HS1 HB1 HZ1 c0 c1 d0 d1 d2 d3 d4;obtain ⟨c0, c1⟩ := HCS.out _ _ HS2;obtain ⟨d0, d1, d2, d3, d4⟩ := HCR2.out _ _ HS2;go_wp2_with fail;refine (kg (s + 1) _ _ T 2 w3 HM2 HZ2 (by simp [aA]) (by omega) (by omega) (by omega) (by omega)).mono ?_;rintro e w4 ⟨v3, rfl, hm, hb⟩;have HM3 := ae hm;have HS3 := ae (HS2.out.below (Nat.lt_succ_self _) hb);have HB3 := ae (HB2.out.trans (hb.mono (Nat.le_succ _)));have HZ3 : Hid (s + 1 <= w4.heap.size) := ae (ap HZ2 hb.size);clear hm hb HM2 HS2 HB2 HZ2 c0 c1 d0 d1 d2 d3 d4;obtain ⟨c0, c1⟩ := HCS.out _ _ HS3;obtain ⟨d0, d1, d2, d3, d4⟩ := HCR2.out _ _ HS3;go_wp2_with fail;refine (kg (s + 1) _ _ R 2 w4 HM3 HZ3 (by simp [aA]) (by omega) (by omega) (by omega) (by omega)).mono ?_;rintro e w5 ⟨v4, rfl, hm, hb⟩;have HM4 := ae hm;have HS4 := ae (HS3.out.below (Nat.lt_succ_self _) hb);have HB4 := ae (HB3.out.trans (hb.mono (Nat.le_succ _)));have HZ4 : Hid (s + 1 <= w5.heap.size) := ae (ap HZ3 hb.size);clear hm hb HM3 HS3 HB3 HZ3 c0 c1 d0 d1 d2 d3 d4;obtain ⟨c0, c1⟩ := HCS.out _ _ HS4;obtain ⟨d0, d1, d2, d3, d4⟩ := HCR2.out _ _ HS4;go_wp2_with fail;refine (kg (s + 1) _ _ E 1 w5 HM4 HZ4 (by simp [aA]) (by omega) (by omega) (by omega) (by omega)).mono ?_;rintro e w6 ⟨v5, rfl, hm, hb⟩;have HM5 := ae hm;have HS5 := ae (HS4.out.below (Nat.lt_succ_self _) hb);have HB5 := ae (HB4.out.trans (hb.mono (Nat.le_succ _)));have HZ5 : Hid (s + 1 <= w6.heap.size) := ae (ap HZ4 hb.size);clear hm hb HM4 HS4 HB4 HZ4 c0 c1 d0 d1 d2 d3 d4;have HRD := ae HS5.out.rd;go_wp2_with (first | (refine au rfl (eU rfl rfl) ?_) | fail);refine (tY _ 16 16 _ 2 _ x.ros.st.toList w6 (ae rfl) HRD ai (by omega) (by omega) (by omega)).mono ?_;rintro e w7 ⟨⟨hy, _⟩, hb⟩;obtain ⟨vb, rfl, hmb⟩ := hy HNAR;rw [show bytesOf 16 2 = 4 from rfl] at hmb;obtain ⟨Ab, cb, rfl, hrb, _, _⟩ := hmb.open_ (aA 8 4 _);have HRB := ae hrb;have HM6 := ae (HM5.out.below hb);have HS6 := ae (HS5.out.below (aW HS5) hb);have HB6 := ae (HB5.out.trans (hb.mono (ap (Nat.le_succ s) HZ5)));have HZ6 : Hid (s + 1 <= w7.heap.size) := ae (ap HZ5 hb.size);clear hmb hrb hb HM5 HS5 HB5 HZ5 HRD hy;obtain ⟨a, ha⟩ : ∃ a, [] ++ aN 8 8 x.id ++ aN 8 1 M ++ aN 8 2 T ++ aN 8 2 R ++ aN 8 1 E = a := ⟨_, rfl⟩;have hal : a.length = 14 := by rw [<- ha]; simp [aA]
 rw [ha] at HM6;have HA := ae ha;have HAL := ae hal;clear ha hal;go_wp2_with (first | (refine dA rfl _ _ rfl (s + 1) _ 4 cb _ a (aN 8 4 (val 2 x.ros.st.toList)) Ab rfl rfl HM6 HRB HZ6 ?_ ?_) | fail)
 ·rw [HAL.out]; omega
 intro v8 w8 hm8 hg8;have hb8 : Below (s + 1) w7 w8 := aj.grown hg8 HZ6 (fun k hk => (HM6.out.lt k hk).1);have HM7 := ae hm8;have HS7 := ae (HS6.out.below (Nat.lt_succ_self _) hb8);have HB7 := ae (HB6.out.trans (hb8.mono (Nat.le_succ _)));have HZ7 : Hid (s + 1 <= w8.heap.size) := ae (ap HZ6 hb8.size);clear hm8 hg8 hb8 HM6 HS6 HB6 HZ6 HRB;obtain ⟨c0, c1⟩ := HCS.out _ _ HS7;obtain ⟨d0, d1, d2, d3, d4⟩ := HCR2.out _ _ HS7;go_wp2_with fail;refine (kg (s + 1) _ _ C 2 w8 HM7 HZ7 (by rw [List.length_append, HAL.out, aA]; omega) (by omega) (by omega) (by omega) (by omega)).mono ?_;rintro e w9 ⟨v9, rfl, hm, hb⟩;have HM8 := ae hm;have HS8 := ae (HS7.out.below (Nat.lt_succ_self _) hb);have HB8 := ae (HB7.out.trans (hb.mono (Nat.le_succ _)));have HZ8 : Hid (s + 1 <= w9.heap.size) := ae (ap HZ7 hb.size);clear hm hb HM7 HS7 HB7 HZ7 c0 c1 d0 d1 d2 d3 d4;have d4 := (HCR2.out _ _ HS8).2.2.2.2;cases hgn : x.ros.gone
 ·have HF := HNO hgn;rw [hgn] at d4;have HMA := ae (HM8.out.below ((Below.refl _ w9).alloc ai (.cells #[.int .u8 0] 5)));have HRA := ae (rr w9 [0] #[.int .u8 0] rfl);have HZA : Hid (s + 1 <= (w9.alloc (.cells #[.int .u8 0] 5)).heap.size) := ae (by have := HZ8.out; simp only [World.size_alloc]; omega);have HBA := ae (HB8.out.alloc (ap (Nat.le_succ s) HZ8) (.cells #[.int .u8 0] 5));clear HYES HNO hgn;go_wp2_with (first | (refine dA rfl _ _ rfl (s + 1) _ 1 1 _ _ [0] _ rfl rfl HMA HRA HZA ?_ ?_) | fail)
  ·rw [List.length_append, List.length_append, HAL.out, aA, aA]; omega
  intro v10 w10 hm10 hg10;rw [<- HA.out] at hm10;have hF := HF.out;simp only [List.append_assoc] at hF;simp only [List.nil_append, List.append_assoc] at hm10;rw [hF] at hm10;clear hF;have HM10 := ae hm10;have HB10 := ae (HBA.out.grown hg10 (ap (Nat.le_succ s) HZA) (fun k hk => ap (Nat.le_succ s) (HMA.out.lt k hk).1));clear hm10 hg10;go_wp2_with fail;go_ret;exact ⟨_, rfl, by rw [HSD.out]; exact HM10.out.base (Nat.le_succ _), by rw [HSD.out]; exact HB10⟩
 ·have HF := HYES hgn;rw [hgn] at d4;have HMA := ae (HM8.out.below ((Below.refl _ w9).alloc ai (.cells #[.int .u8 1] 5)));have HRA := ae (rr w9 [1] #[.int .u8 1] rfl);have HZA : Hid (s + 1 <= (w9.alloc (.cells #[.int .u8 1] 5)).heap.size) := ae (by have := HZ8.out; simp only [World.size_alloc]; omega);have HBA := ae (HB8.out.alloc (ap (Nat.le_succ s) HZ8) (.cells #[.int .u8 1] 5));clear HYES HNO hgn;go_wp2_with (first | (refine dA rfl _ _ rfl (s + 1) _ 1 1 _ _ [1] _ rfl rfl HMA HRA HZA ?_ ?_) | fail)
  ·rw [List.length_append, List.length_append, HAL.out, aA, aA]; omega
  intro v10 w10 hm10 hg10;rw [<- HA.out] at hm10;have hF := HF.out;simp only [List.append_assoc] at hF;simp only [List.nil_append, List.append_assoc] at hm10;rw [hF] at hm10;clear hF;have HM10 := ae hm10;have HB10 := ae (HBA.out.grown hg10 (ap (Nat.le_succ s) HZA) (fun k hk => ap (Nat.le_succ s) (HMA.out.lt k hk).1));clear hm10 hg10;go_wp2_with fail;go_ret;exact ⟨_, rfl, by rw [HSD.out]; exact HM10.out.base (Nat.le_succ _), by rw [HSD.out]; exact HB10⟩
theorem pq (y : Ros) (j : Nat) (v : Value) : (vals y.st.toList ++ [Value.int .i64 y.cur, Value.bool y.gone]).set (16 + j) v = vals y.st.toList ++ [Value.int .i64 y.cur, Value.bool y.gone].set j v := by
 rw [List.set_append_right _ _ (by simp [bi])]
 congr 2
 simp [bi]
theorem sL (id : Nat) (self m s r : Int) (st : Vector UInt8 16) (cur : Int) (gone : Bool) : aV ⟨id, self, ⟨m, s, r, st, cur, gone⟩⟩ = Value.int .u64 id :: Value.int .i64 self :: Value.int .i64 m :: Value.int .i64 s :: Value.int .i64 r :: (vals st.toList ++ [Value.int .i64 cur, Value.bool gone]) := rfl
section
variable (y : Sup)
theorem yo (n : Nat) : (aV y).set 0 (.int .u64 n) = aV { y with id := n } := rfl
theorem uV (n : Int) : (aV y).set 1 (.int .i64 n) = aV { y with self := n } := rfl
theorem aau (n : Int) : (aV y).set 2 (.int .i64 n) = aV { y with ros := { y.ros with m := n } } := rfl
theorem abg (n : Int) : (aV y).set 3 (.int .i64 n) = aV { y with ros := { y.ros with s := n } } := rfl
theorem aa6 (n : Int) : (aV y).set 4 (.int .i64 n) = aV { y with ros := { y.ros with r := n } } := rfl
theorem vK (n : Int) : (aV y).set 21 (.int .i64 n) = aV { y with ros := { y.ros with cur := n } } := by
 show Value.int .u64 y.id :: Value.int .i64 y.self :: Value.int .i64 y.ros.m :: Value.int .i64 y.ros.s :: Value.int .i64 y.ros.r :: (vals y.ros.st.toList ++ [Value.int .i64 y.ros.cur, Value.bool y.ros.gone]).set (16 + 0) (.int .i64 n) = _
 rw [pq]
 rfl
theorem vc (b : Bool) : (aV y).set 22 (.bool b) = aV { y with ros := { y.ros with gone := b } } := by
 show Value.int .u64 y.id :: Value.int .i64 y.self :: Value.int .i64 y.ros.m :: Value.int .i64 y.ros.s :: Value.int .i64 y.ros.r :: (vals y.ros.st.toList ++ [Value.int .i64 y.ros.cur, Value.bool y.ros.gone]).set (16 + 1) (.bool b) = _
 rw [pq]
 rfl
theorem x9 {l : List UInt8} (h : l.length = 16) : splice (aV y) 5 (vals l) = aV { y with ros := { y.ros with st := mu l } } := by
 obtain ⟨id, self, m, s, r, st, cur, gone⟩ := y
 show splice (aV ⟨id, self, ⟨m, s, r, st, cur, gone⟩⟩) 5 (vals l) = aV ⟨id, self, ⟨m, s, r, mu l, cur, gone⟩⟩
 have h2 : (vals st.toList).length = 16 := by simp [bi]
 rw [sL, sL, qB h];generalize vals st.toList = z at *;unfold splice;rw [bi, h, show 5 + 16 = 16 + 1 + 1 + 1 + 1 + 1 from rfl];simp only [List.drop_succ_cons, List.take_succ_cons, List.take_zero];rw [List.drop_append_of_le_length (by omega), List.drop_of_length_le (by omega)]
 rfl
end
theorem bS.set {w : World} {s j : Nat} {y y' : Sup} {v : Value} (h : bS w s y) (e : (aV y).set j v = aV y') : bS (w.setCell ⟨s, j, none⟩ v) s y' := by
 have := heap_setCell_same w s j (aV y).toArray 37 v h;rw [List.setIfInBounds_toArray, e] at this;exact this
theorem bS.free {w : World} {s : Nat} {y : Sup} (h : bS w s y) (j : Nat) : w.frozen? ⟨s, j, none⟩ = false := frozen_of_row w s j _ _ h
theorem nQ {w : World} {ops : Array Oper} {rest : List Oper} {o : Oper} {a : Act} {Q : Exit -> Act -> World -> Prop} (hgd : o.guard = none) (d s : Operand)
  (ho : o.op = .call { callee := .builtin .copy, args := #[d, s], argTypes := #[116, 116] }) (g off n c c' N : Nat) (A : Option Addr) (t : TypeId) (cs : List Value) (x : List UInt8)
  (hd : a.eval d = .slice (some ⟨g, off, none⟩) n c) (hs : a.eval s = .slice A n c') (hS : w.heap[g]? = some (.cells cs.toArray t (0, 0))) (hr : Rd w N A n x) (hn : 0 < n) (hfit : off + n <= cs.length)
  (h : ∀ w', w'.heap[g]? = some (.cells (splice cs off (vals x)).toArray t (0, 0)) -> w.grownBy w' (some g) -> wpList prog ops Q rest (a.put o.dst (goInt n)) w') : wpList prog ops Q (o :: rest) a w := by
 have hx := hr.1;obtain ⟨ad, rfl⟩ : ∃ ad, A = some ad := by
  obtain ⟨b, off, e, _⟩ := hr.2 0 hn;exact ⟨_, e⟩
 have hcl : (vals x).length = n := by rw [bi, hx]
 refine wpList_copy_own hgd d s _ _ ho 5 underlying116 (by kernel_rfl) g off n c ad n c' hd hs _ t hS (vals x) (by rw [hcl]; exact (Nat.min_self n).symm) (fun j v hj => ?_) (by simp [hcl]; omega) (gj x) ?_
 ·have hlt : j < n := by have := (List.getElem?_eq_some_iff.1 hj).1; omega
  obtain ⟨b, o2, e, _, hc⟩ := hr.2 j hlt;injection e with e;subst e;rw [Addr.add_mid, hc, <- hj, fA (by omega)]
 ·have hrow := setRow_heap w g cs.toArray (cs.toArray.toList.take off ++ (vals x ++ cs.toArray.toList.drop (off + (vals x).length))).toArray t (0, 0) hS;have e : cs.toArray.toList.take off ++ (vals x ++ cs.toArray.toList.drop (off + (vals x).length)) = splice cs off (vals x) := rfl;rw [hcl];rw [hcl] at hrow e;refine h _ ?_ ⟨rfl, rfl, rfl, by simp [World.setRow], fun k hk hne => setRow_other w g k _ (fun e => hne (by rw [e]))⟩;rw [e] at hrow ⊢;exact hrow
structure fI (B : Nat) (w0 w : World) (g : Nat) (l : List UInt8) (s r nb p q k : Nat) (y : Sup) : Prop where
 row : cl w g 5 l
 sup : bS w s y
 res : bS w r bp
 nxt : w.heap[nb]? = some (.cells #[iR p q] 167 (0, 0))
 cut : iy w p q (.slice (some ⟨g, 0, none⟩) 44 44) k
 bel : Below B w0 w
 p0 : B <= p
 s0 : B <= s
 dif : g ≠ p /\ s ≠ p /\ r ≠ p /\ nb ≠ p /\ p ≠ q /\ g ≠ s /\ r ≠ s /\ nb ≠ s /\ p ≠ s /\ q ≠ s
section
variable {B : Nat} {w0 w w' : World} {g s r nb p q k k' : Nat} {l : List UInt8} {y y' : Sup}
theorem fI.keep (h : fI B w0 w g l s r nb p q k y) (hb : Below w.heap.size w w') (hB : B <= w0.heap.size) : fI B w0 w' g l s r nb p q k y :=
 ⟨aC h.row hb, aC h.sup hb, aC h.res hb, aC h.nxt hb, ⟨aC h.cut.1 hb, aC h.cut.2 hb⟩, h.bel.trans (hb.mono (ap hB h.bel.size)), h.p0, h.s0, h.dif⟩
theorem fI.step (h : fI B w0 w g l s r nb p q k y) (hc : iy w' p q (.slice (some ⟨g, 0, none⟩) 44 44) k') (hg : w.grownBy w' (some p)) (hB : B <= w0.heap.size) : fI B w0 w' g l s r nb p q k' y := by
 obtain ⟨d1, d2, d3, d4, d5, d6, d7, d8, d9, d10⟩ := h.dif;exact ⟨bU h.row hg d1, bU h.sup hg d2, bU h.res hg d3, bU h.nxt hg d4, hc, h.bel.grown hg (ap hB h.bel.size) (fun k hk => by injection hk with e; have := h.p0; omega), h.p0, h.s0, h.dif⟩
theorem fI.put (h : fI B w0 w g l s r nb p q k y) (hs : bS w' s y') (hg : w.grownBy w' (some s)) (hB : B <= w0.heap.size) : fI B w0 w' g l s r nb p q k y' := by
 obtain ⟨d1, d2, d3, d4, d5, d6, d7, d8, d9, d10⟩ := h.dif;exact ⟨bU h.row hg d6, hs, bU h.res hg d7, bU h.nxt hg d8, ⟨bU h.cut.1 hg d9, bU h.cut.2 hg d10⟩, h.bel.grown hg (ap hB h.bel.size) (fun k hk => by injection hk with e; have := h.s0; omega), h.p0, h.s0, h.dif⟩
theorem fI.set (h : fI B w0 w g l s r nb p q k y) (j : Nat) (v : Value) (e : (aV y).set j v = aV y') (hB : B <= w0.heap.size) : fI B w0 (w.setCell ⟨s, j, none⟩ v) g l s r nb p q k y' :=
 h.put (h.sup.set e) (ny w s j v) hB
end
theorem l8 (B : Nat) (w0 w : World) (g : Nat) (l : List UInt8) (s r nb p q k n : Nat) (y : Sup) (h : fI B w0 w g l s r nb p q k y) (hB : B <= w0.heap.size) (hl : l.length = 44) (h1 : 1 <= n) (h2 : n <= 8) (hk : k + n <= 44) :
  Calls prog 136 #[.int .i64 n, .pointer (some ⟨nb, 0, none⟩)] w fun e w' => e = .returned (.int .u64 (val 8 (piece l k n) : Nat)) /\ fI B w0 w' g l s r nb p q (k + n) y := by
 have HH := ae h;have HL := ae hl;have HP := ae (jQ (b := piece l k n) (n := n) (cM (by omega)));have c0 := (cell1 h.nxt).1;unfold iR at c0;clear h hl;go_enter func136, ntmps136;go_wp2_with fail;refine (yJ p q g 0 44 44 k n w HH.out.cut HH.out.dif.2.2.2.2.1 h1 hk ai (by omega)).mono ?_;rintro e w1 ⟨rfl, hc, hg⟩;have H1 := ae (HH.out.step hc hg hB);clear hc hg c0 HH;have HRD := ae (H1.out.row.rd (p := k) (k := n) (by rw [HL.out]; omega));go_wp2_with fail;refine (vZ _ n n _ (piece l k n) 0 n w1 HRD (by unfold maxLen; omega) h1 h2 (by omega)).mono ?_;rintro e w2 ⟨rfl, rfl⟩;rw [HP.out];obtain ⟨v, hv⟩ : ∃ v, val 8 (piece l k n) = v := ⟨_, rfl⟩;rw [hv];have HV := ae hv;clear hv;go_wp2_with fail;go_ret;exact ⟨by rw [HV.out]; rfl, H1⟩
def Bod (w : World) (B : Nat) (v : Value) (l : List UInt8) : Prop := (v = .slice none 0 0 /\ l = []) \/ ∃ g, v = .slice (some ⟨g, 0, none⟩) l.length l.length /\ B <= g /\ cl w g 5 l /\ l.length <= maxLen
structure yb (B : Nat) (w w' : World) (g p : Nat) (l : List UInt8) : Prop where
 row : cl w' g 29 l
 par : PartsAt w' p g
 bel : Below B w w'
 tab : Tab w'
theorem yb.below {B : Nat} {w w1 w2 : World} {g p : Nat} {l : List UInt8} (h : yb B w w1 g p l) (hb : Below w1.heap.size w1 w2) (hB : B <= w.heap.size) : yb B w w2 g p l :=
 ⟨h.row.below h.row.lt hb, h.par.below (aW h.par) hb, h.bel.trans (hb.mono (ap hB h.bel.size)), h.tab.below hb⟩
theorem gy (w w1 : World) (b : Blk) (hbA : Below w.heap.size w (w.alloc (.cells (cel b).toArray 29))) (hT : Tab (w.alloc (.cells (cel b).toArray 29))) (hb : Below (w.alloc (.cells (cel b).toArray 29)).heap.size (w.alloc (.cells (cel b).toArray 29)) w1) :
  yb w.heap.size w (w1.alloc (.cells (eR w.heap.size) 171)) w.heap.size w1.heap.size b.toList := by
 have hs := hb.size;simp only [World.size_alloc] at hs;have hr : cl w1 w.heap.size 29 b.toList := (cl.blk w b 29).below (by simp only [World.size_alloc]; omega) hb;have hbel : Below w.heap.size w w1 := hbA.trans (hb.mono (by simp only [World.size_alloc]; omega));exact ⟨hr.past _, heap_alloc_new w1 _, hbel.alloc (by omega) _, (hT.below hb).below (aj.alloc ai _)⟩
theorem lA {W w' : World} {g : Nat} {t : TypeId} {l : List UInt8} (h : cl W g t l) (hb : Below W.heap.size W w') (off k : Nat) (hk : off + k <= l.length) (h1 : 1 <= k) (h8 : k <= 8) :
  Calls prog 135 #[.slice (some ⟨g, off, none⟩) k k] w' fun e w'' => e = .returned (.int .u64 (val 8 (piece l off k) : Nat)) /\ Below w'.heap.size w' w'' :=
 (fh _ k k _ _ w' ((h.below h.lt hb).rd hk) h1 h8).mono fun e w'' ⟨he, hw⟩ => ⟨he, by subst hw; exact aj⟩
theorem pt {W w' : World} {g : Nat} {t : TypeId} {l : List UInt8} (h : cl W g t l) (T : Tab W) (hb : Below W.heap.size W w') (off k : Nat) (hk : off + k <= l.length) (hm : k <= maxLen) :
  Calls prog 133 #[.slice (some ⟨g, off, none⟩) k k] w' fun e w'' => e = .returned (.int .u32 (more 0 (piece l off k) : Nat)) /\ Below w'.heap.size w' w'' :=
 (vI _ k k _ _ w' (T.below hb) ((h.below h.lt hb).rd hk) hm).mono fun e w'' ⟨he, hw⟩ => ⟨he, by subst hw; exact aj⟩
theorem pT {ρ : Operand -> Value} {o : Oper} {x y : Operand} {w : World} {t r : TypeId} {a b : Nat} (c : Bool) (ho : o.op = .binOp .neq t x y r) (hx : ρ x = .int .u64 (a : Int)) (hy : ρ y = .int .u64 (b : Int)) (h : ((a : Int) != (b : Int)) = c) : (execOp ρ o).run prog w = .ok (.value (.bool c)) w := aO c ho hx hy h
theorem sa (l : List UInt8) (n : Nat) (h : l.length = n) : splice (List.replicate n 0) 0 l = l := by
 subst h;simp [splice]
def sQ : List UInt8 := List.replicate 44 0
theorem tO {l : List UInt8} (h : l.length = 44) : splice sQ 0 l = l := sa l 44 h
def sX : Array Value := (vals (List.replicate 44 0)).toArray
theorem abj (w : World) : (Instr.makeSlice 116 (.int .i64 44) (.int .i64 44)).run prog w = .ok (.slice (some ⟨w.heap.size, 0, none⟩) 44 44) (w.alloc (.cells sX 5)) := by kernel_rfl
theorem uD (b : Blk) (B : Nat) (w : World) (HB : Hid (B = w.heap.size)) (T : Tab w) (h0 : eC b.toList = 0) :
  Calls prog 124 #[blk b] w fun e w' => ∃ v, e = .returned (.tuple #[.int .u64 (dM b.toList : Nat), v, .int .i64 (dm b.toList : Nat)]) /\ Bod w' B v (da b.toList) /\ Below B w w' := by
 have hA := cl.blk w b 29;have hbA := (Below.refl w.heap.size w).alloc ai (.cells (cel b).toArray 29);have HTA := ae (T.below hbA);have HA := ae hA;have HBA := ae hbA;have HL := ae (eZ b);have hE := ka (.inl h0);have HE := ae hE;have HN := ae (lk (l := b.toList) (by omega));have HBB := ae (ou (l := b.toList) (by omega));have HX : Hid (val 8 (piece b.toList 0 8) = 0) := ae h0;clear hE h0;clear hA hbA T;go_enter func124, ntmps124;go_wp2_with (first | (refine av rfl (cd rfl rfl) ?_) | fail);refine (js w.heap.size _).mono ?_;rintro e w1 ⟨rfl, hb1⟩;have HG := ae (gy w w1 b HBA HTA hb1);clear HTA HA HBA hb1;obtain ⟨g, hg⟩ : ∃ g, w.heap.size = g := ⟨_, rfl⟩;have HGE := ae (Nat.le_of_eq hg.symm);rw [hg] at HG HB;rw [hg];clear hg;obtain ⟨c0, c1, c2, c3, c4⟩ := HG.out.par.cells;go_wp2_with (first | (refine aZ rfl (fM g rfl rfl rfl) ?_) | fail);clear c0 c1 c2 c3 c4;generalize w1.heap.size = p at *;generalize w1.alloc (.cells (eR g) 171) = w2 at *;obtain ⟨c0, c1, c2, c3, c4⟩ := HG.out.par.cells;have hr0 := HG.out.row.rd (p := 0) (k := 8) (by rw [HL.out]; omega);refine (fh _ 8 8 _ _ _ hr0 (by omega) (by omega)).mono ?_;rintro e w3 ⟨rfl, rfl⟩;clear hr0;rw [HX.out];go_wp2_with fail;refine bodyPost_ret (v := .tuple #[.int .u64 0, .slice none 0 0, .int .i64 5]) (by simp [results, Tryz.results124, go_sem]) rfl ⟨_, by rw [HE.out, HN.out]; rfl, .inl ⟨rfl, HBB⟩, by rw [HB.out]; exact HG.out.bel⟩
theorem px (b : Blk) (B : Nat) (w : World) (HB : Hid (B = w.heap.size)) (T : Tab w) (h0 : eC b.toList ≠ 0) (h1 : eC b.toList ≠ agO b.toList) :
  Calls prog 124 #[blk b] w fun e w' => ∃ v, e = .returned (.tuple #[.int .u64 (dM b.toList : Nat), v, .int .i64 (dm b.toList : Nat)]) /\ Bod w' B v (da b.toList) /\ Below B w w' := by
 have hA := cl.blk w b 29;have hbA := (Below.refl w.heap.size w).alloc ai (.cells (cel b).toArray 29);have HTA := ae (T.below hbA);have HA := ae hA;have HBA := ae hbA;have HL := ae (eZ b);have hE := ka (.inr h1);have HE := ae hE;have HN := ae (lk (l := b.toList) (by omega));have HBB := ae (ou (l := b.toList) (by omega));obtain ⟨x, hx⟩ : ∃ x, eC b.toList = x := ⟨_, rfl⟩;obtain ⟨y, hy⟩ : ∃ y, agO b.toList = y := ⟨_, rfl⟩;rw [hx] at h0 h1;rw [hy] at h1;have hz : ((x : Int) == 0) = false := by simp; omega
 have hn : ((x : Int) != (y : Int)) = true := by simp; omega
 have HX : Hid (val 8 (piece b.toList 0 8) = x) := ae hx;have HY : Hid (val 8 (piece b.toList 56 8) = y) := ae hy;clear hE h0 h1 hx hy;clear hA hbA T;go_enter func124, ntmps124;go_wp2_with (first | (refine av rfl (cd rfl rfl) ?_) | fail);refine (js w.heap.size _).mono ?_;rintro e w1 ⟨rfl, hb1⟩;have HG := ae (gy w w1 b HBA HTA hb1);clear HTA HA HBA hb1;obtain ⟨g, hg⟩ : ∃ g, w.heap.size = g := ⟨_, rfl⟩;have HGE := ae (Nat.le_of_eq hg.symm);rw [hg] at HG HB;rw [hg];clear hg;obtain ⟨c0, c1, c2, c3, c4⟩ := HG.out.par.cells;go_wp2_with (first | (refine aZ rfl (fM g rfl rfl rfl) ?_) | fail);clear c0 c1 c2 c3 c4;generalize w1.heap.size = p at *;generalize w1.alloc (.cells (eR g) 171) = w2 at *;obtain ⟨c0, c1, c2, c3, c4⟩ := HG.out.par.cells;have hr0 := HG.out.row.rd (p := 0) (k := 8) (by rw [HL.out]; omega);refine (fh _ 8 8 _ _ _ hr0 (by omega) (by omega)).mono ?_;rintro e w3 ⟨rfl, rfl⟩;clear hr0;rw [HX.out];go_wp2_with fail;have hr3 := HG.out.row.rd (p := 56) (k := 8) (by rw [HL.out]; omega);refine (fh _ 8 8 _ _ _ hr3 (by omega) (by omega)).mono ?_;rintro e w3 ⟨rfl, rfl⟩;clear hr3;rw [HY.out];go_wp2_with fail;refine bodyPost_ret (v := .tuple #[.int .u64 0, .slice none 0 0, .int .i64 5]) (by simp [results, Tryz.results124, go_sem]) rfl ⟨_, by rw [HE.out, HN.out]; rfl, .inl ⟨rfl, HBB⟩, by rw [HB.out]; exact HG.out.bel⟩
theorem wO (b : Blk) (B : Nat) (w : World) (HB : Hid (B = w.heap.size)) (T : Tab w) (h0 : eC b.toList ≠ 0) (h1 : eC b.toList = agO b.toList) (h2 : mb b.toList ≠ lX b.toList) :
  Calls prog 124 #[blk b] w fun e w' => ∃ v, e = .returned (.tuple #[.int .u64 (dM b.toList : Nat), v, .int .i64 (dm b.toList : Nat)]) /\ Bod w' B v (da b.toList) /\ Below B w w' := by
 have hA := cl.blk w b 29;have hbA := (Below.refl w.heap.size w).alloc ai (.cells (cel b).toArray 29);have HTA := ae (T.below hbA);have HA := ae hA;have HBA := ae hbA;have HL := ae (eZ b);have hE := vt h0 h1 h2;have HE := ae hE;have HN := ae (lk (l := b.toList) (by omega));have HBB := ae (ou (l := b.toList) (by omega));obtain ⟨x, hx⟩ : ∃ x, eC b.toList = x := ⟨_, rfl⟩;rw [hx] at h0;have HX : Hid (val 8 (piece b.toList 0 8) = x) := ae hx;have HY : Hid (val 8 (piece b.toList 56 8) = x) := ae (by rw [<- hx]; exact h1.symm);have HS4 := ae (tk (eZ b));have HCL := ae (sM b.toList);have hz : ((x : Int) == 0) = false := by simp; omega
 have hn : ((x : Int) != (x : Int)) = false := by simp
 have hc : ((mb b.toList : Nat) : Int) != ((lX b.toList : Nat) : Int) := by simp; omega
 clear hE h0 h1 hx h2;clear hA hbA T;go_enter func124, ntmps124;go_wp2_with (first | (refine av rfl (cd rfl rfl) ?_) | fail);refine (js w.heap.size _).mono ?_;rintro e w1 ⟨rfl, hb1⟩;have HG := ae (gy w w1 b HBA HTA hb1);clear HTA HA HBA hb1;obtain ⟨g, hg⟩ : ∃ g, w.heap.size = g := ⟨_, rfl⟩;have HGE := ae (Nat.le_of_eq hg.symm);rw [hg] at HG HB;rw [hg];clear hg;obtain ⟨c0, c1, c2, c3, c4⟩ := HG.out.par.cells;go_wp2_with (first | (refine aZ rfl (fM g rfl rfl rfl) ?_) | fail);clear c0 c1 c2 c3 c4;generalize w1.heap.size = p at *;generalize w1.alloc (.cells (eR g) 171) = w2 at *;obtain ⟨c0, c1, c2, c3, c4⟩ := HG.out.par.cells;have hr0 := HG.out.row.rd (p := 0) (k := 8) (by rw [HL.out]; omega);refine (fh _ 8 8 _ _ _ hr0 (by omega) (by omega)).mono ?_;rintro e w3 ⟨rfl, rfl⟩;clear hr0;rw [HX.out];go_wp2_with fail;have hr3 := HG.out.row.rd (p := 56) (k := 8) (by rw [HL.out]; omega);refine (fh _ 8 8 _ _ _ hr3 (by omega) (by omega)).mono ?_;rintro e w3 ⟨rfl, rfl⟩;clear hr3;rw [HY.out];go_wp2_with fail;clear c0 c1 c2 c3 c4;have hle : w2.heap.size <= w2.heap.size := ai;refine bQ (B := w2.heap.size) (by kernel_rfl) ?_;refine adf (fun _ hw => ax rfl adh aaI) ?_;refine adf (fun _ hw => aE rfl adh (ldS (HG.out.par.below (aW HG.out.par) hw).cells.2.2.1)) ?_;refine cu rfl (fun _ => aD call135 rfl (evc adh evn)) (ci hle fun _ hw => lA HG.out.row hw 52 4 (by rw [HL.out]; omega) (by omega) (by omega)) ?_;simp only [aa];refine adf (fun _ hw => ax rfl adh aa2) ?_;refine adf (fun _ hw => aE rfl adh (ldS (HG.out.par.below (aW HG.out.par) hw).cells.2.2.2.2)) ?_;refine cu rfl (fun _ => aD call133 rfl (evc adh evn)) (ci hle fun _ hw => pt HG.out.row HG.out.tab hw 0 52 (by rw [HL.out]; omega) (by unfold maxLen; omega)) ?_;simp only [aa];refine adf (fun _ hw => kC rfl adh HCL) ?_;refine adf (fun _ hw => pT true rfl adh adh hc) ?_;refine wpQuiet_nil ?_;intro w3 hb3;have HG3 := ae (HG.out.below hb3 HGE);clear hb3 HG;go_wp2_with fail;refine bodyPost_ret (v := .tuple #[.int .u64 0, .slice none 0 0, .int .i64 6]) (by simp [results, Tryz.results124, go_sem]) rfl ⟨_, by rw [HE.out, HN.out]; rfl, .inl ⟨rfl, HBB⟩, by rw [HB.out]; exact HG3.out.bel⟩
theorem yl (b : Blk) (B : Nat) (w : World) (HB : Hid (B = w.heap.size)) (T : Tab w) (h0 : eC b.toList ≠ 0) (h1 : eC b.toList = agO b.toList) (h2 : mb b.toList = lX b.toList) :
  Calls prog 124 #[blk b] w fun e w' => ∃ v, e = .returned (.tuple #[.int .u64 (dM b.toList : Nat), v, .int .i64 (dm b.toList : Nat)]) /\ Bod w' B v (da b.toList) /\ Below B w w' := by
 have hA := cl.blk w b 29;have hbA := (Below.refl w.heap.size w).alloc ai (.cells (cel b).toArray 29);have HTA := ae (T.below hbA);have HA := ae hA;have HBA := ae hbA;have HL := ae (eZ b);have hE := sN h0 h1 h2;have HE := ae hE;have HN := ae (ld hE);have HBB := ae (kX hE);obtain ⟨x, hx⟩ : ∃ x, eC b.toList = x := ⟨_, rfl⟩;rw [hx] at h0;have HX : Hid (val 8 (piece b.toList 0 8) = x) := ae hx;have HY : Hid (val 8 (piece b.toList 56 8) = x) := ae (by rw [<- hx]; exact h1.symm);have HS4 := ae (tk (eZ b));have HCL := ae (sM b.toList);have hz : ((x : Int) == 0) = false := by simp; omega
 have hn : ((x : Int) != (x : Int)) = false := by simp
 have hc : (((mb b.toList : Nat) : Int) != ((lX b.toList : Nat) : Int)) = false := by rw [h2]; simp
 have HXX := ae hx;clear hE h0 h1 hx h2;clear hA hbA T;go_enter func124, ntmps124;go_wp2_with (first | (refine av rfl (cd rfl rfl) ?_) | fail);refine (js w.heap.size _).mono ?_;rintro e w1 ⟨rfl, hb1⟩;have HG := ae (gy w w1 b HBA HTA hb1);clear HTA HA HBA hb1;obtain ⟨g, hg⟩ : ∃ g, w.heap.size = g := ⟨_, rfl⟩;have HGE := ae (Nat.le_of_eq hg.symm);rw [hg] at HG HB;rw [hg];clear hg;obtain ⟨c0, c1, c2, c3, c4⟩ := HG.out.par.cells;go_wp2_with (first | (refine aZ rfl (fM g rfl rfl rfl) ?_) | fail);clear c0 c1 c2 c3 c4;generalize w1.heap.size = p at *;generalize w1.alloc (.cells (eR g) 171) = w2 at *;obtain ⟨c0, c1, c2, c3, c4⟩ := HG.out.par.cells;have hr0 := HG.out.row.rd (p := 0) (k := 8) (by rw [HL.out]; omega);refine (fh _ 8 8 _ _ _ hr0 (by omega) (by omega)).mono ?_;rintro e w3 ⟨rfl, rfl⟩;clear hr0;rw [HX.out];go_wp2_with fail;have hr3 := HG.out.row.rd (p := 56) (k := 8) (by rw [HL.out]; omega);refine (fh _ 8 8 _ _ _ hr3 (by omega) (by omega)).mono ?_;rintro e w3 ⟨rfl, rfl⟩;clear hr3;rw [HY.out];go_wp2_with fail;clear c0 c1 c2 c3 c4;have hle : w2.heap.size <= w2.heap.size := ai;refine bQ (B := w2.heap.size) (by kernel_rfl) ?_;refine adf (fun _ hw => ax rfl adh aaI) ?_;refine adf (fun _ hw => aE rfl adh (ldS (HG.out.par.below (aW HG.out.par) hw).cells.2.2.1)) ?_;refine cu rfl (fun _ => aD call135 rfl (evc adh evn)) (ci hle fun _ hw => lA HG.out.row hw 52 4 (by rw [HL.out]; omega) (by omega) (by omega)) ?_;simp only [aa];refine adf (fun _ hw => ax rfl adh aa2) ?_;refine adf (fun _ hw => aE rfl adh (ldS (HG.out.par.below (aW HG.out.par) hw).cells.2.2.2.2)) ?_;refine cu rfl (fun _ => aD call133 rfl (evc adh evn)) (ci hle fun _ hw => pt HG.out.row HG.out.tab hw 0 52 (by rw [HL.out]; omega) (by unfold maxLen; omega)) ?_;simp only [aa];refine adf (fun _ hw => kC rfl adh HCL) ?_;refine adf (fun _ hw => pT false rfl adh adh hc) ?_;refine wpQuiet_nil ?_;intro w3 hb3;have HG3 := ae (HG.out.below hb3 HGE);clear hb3 HG;have HG4 := ae (HG3.out.below ((Below.refl w3.heap.size w3).alloc ai (.cells sX 5)) HGE);obtain ⟨c0, c1, c2, c3, c4⟩ := HG4.out.par.cells;have HNEW : Hid (cl (w3.alloc (.cells sX 5)) w3.heap.size 5 sQ) := ae (cl.new w3 sQ _);have HSRC := ae (HG4.out.row.rd (p := 8) (k := 44) (by rw [HL.out]; omega));have HPL : Hid ((piece b.toList 8 44).length = 44) := ae (cM (by rw [HL.out]; omega));have HW3 := ae (ap HGE HG3.out.bel.size);clear HG3;obtain ⟨q, hq⟩ : ∃ q, w3.heap.size = q := ⟨_, rfl⟩;rw [hq] at HNEW HW3;have HQ := ae hq;generalize hw4 : w3.alloc (.cells sX 5) = w4 at *;have HM : Hid (∀ w : World, w = w3 -> (Instr.makeSlice 116 (.int .i64 44) (.int .i64 44)).run prog w = .ok (.slice (some ⟨q, 0, none⟩) 44 44) w4) := ae (fun w e => by subst e; rw [abj, hq, hw4]);have hmk := HM.out w3 rfl;clear hq hw4;go_wp2_with (with_reducible refine ef rfl _ _ rfl q 0 44 44 44 44 _ _ 5 _ (piece b.toList 8 44) rfl rfl HNEW.out HSRC.out (Nat.le_refl _) ?c1 ?_)
 case c1 => simp [sQ]
 intro w5 hr5 hg5;rw [tO HPL.out] at hr5;have HB5 := ae (HG4.out.bel.grown hg5 (ap HGE HG4.out.bel.size) (fun k hk => by injection hk with e; subst e; exact HW3));have HR5 := ae hr5;clear hr5 hg5 c0 c1 c2 c3 c4;go_wp2_with fail;refine bodyPost_ret (v := .tuple #[.int .u64 (x : Int), .slice (some ⟨q, 0, none⟩) 44 44, .int .i64 0]) (by simp [results, Tryz.results124, go_sem]) rfl ⟨_, by rw [HE.out, HN.out, HXX.out]; rfl, .inr ⟨q, ?_, ?_, ?_, ?_⟩, ?_⟩
 ·rw [HBB.out, HPL.out]
 ·rw [HB.out]; exact HW3
 ·rw [HBB.out]; exact HR5
 ·rw [HBB.out, HPL.out]; unfold maxLen; omega
 ·rw [HB.out]; exact HB5
theorem hJ (b : Blk) (B : Nat) (w : World) (HB : Hid (B = w.heap.size)) (T : Tab w) : Calls prog 124 #[blk b] w fun e w' => ∃ v, e = .returned (.tuple #[.int .u64 (dM b.toList : Nat), v, .int .i64 (dm b.toList : Nat)]) /\ Bod w' B v (da b.toList) /\ Below B w w' := by
 by_cases h0 : eC b.toList = 0
 ·exact uD b B w HB T h0
 ·by_cases h1 : eC b.toList = agO b.toList
  ·by_cases h2 : mb b.toList = lX b.toList
   ·exact yl b B w HB T h0 h1 h2
   ·exact wO b B w HB T h0 h1 h2
  ·exact px b B w HB T h0 h1
theorem ru {w w2 : World} {g p q : Nat} {l : List UInt8} (HR : cl w g 5 l) (hb : Below (w.alloc (.cells (aV bp).toArray 37)).heap.size (w.alloc (.cells (aV bp).toArray 37)) w2)
  (hc : iy w2 p q (.slice (some ⟨g, 0, none⟩) 44 44) 0) (hd : w.heap.size + 1 <= p /\ w.heap.size + 1 <= q /\ p ≠ q /\ p < w2.heap.size /\ q < w2.heap.size) :
  fI w.heap.size w ((w2.alloc (.cells #[iR p q] 167)).alloc (.cells (aV bp).toArray 37)) g l (w2.heap.size + 1) w.heap.size w2.heap.size p q 0 bp := by
 have e0 := World.size_alloc (w := w) (o := Obj.cells (aV bp).toArray 37);have e1 := World.size_alloc (w := w2) (o := Obj.cells #[iR p q] 167);have h1 := aW HR;have h3 := hb.size;rw [e0] at h3;have hro := bS.new (w2.alloc (.cells #[iR p q] 167)) bp;rw [e1] at hro;have hb1 := (Below.refl w.heap.size w).alloc ai (.cells (aV bp).toArray 37);have hb2 : Below w.heap.size w w2 := hb1.trans (hb.mono hb1.size);refine ⟨((HR.past _).below (by rw [e0]; omega) hb).past _ |>.past _, hro, bv (bv (aC (heap_alloc_new w _) hb) _) _, bv (heap_alloc_new w2 _) _, ⟨bv (bv hc.1 _) _, bv (bv hc.2 _) _⟩, (hb2.alloc (by omega) _).alloc (by rw [e1]; omega) _, ?_, ?_, ?_⟩
 ·omega
 ·omega
 ·refine ⟨?_, ?_, ?_, ?_, ?_, ?_, ?_, ?_, ?_, ?_⟩ <;> omega
theorem sF (g : Nat) (l : List UInt8) (w : World) (hl : l.length = 44) (hr : cl w g 5 l) : Calls prog 125 #[.slice (some ⟨g, 0, none⟩) 44 44] w fun e w' => e = .returned (sup (cg l)) /\ Below w.heap.size w w' := by
 have hmf : ∀ (fn : Fn) (first cap : Array Value) (w : World), (Instr.makeFunc fn first cap).run prog w = .ok (.func fn first cap) w := fun _ _ _ _ => rfl
 have HL := ae hl;have HR := ae hr;obtain ⟨I, hI⟩ : ∃ I : Nat, val 8 (piece l 0 8) = I := ⟨_, rfl⟩;obtain ⟨M, hM⟩ : ∃ M : Nat, val 8 (piece l 8 1) = M := ⟨_, rfl⟩;have bM : M < 256 := by rw [<- hM]; exact cK (b := l) (p := 8) (k := 1) (by omega)
 obtain ⟨T, hT⟩ : ∃ T : Nat, val 8 (piece l 9 2) = T := ⟨_, rfl⟩;have bT : T < 65536 := by rw [<- hT]; exact cK (b := l) (p := 9) (k := 2) (by omega)
 obtain ⟨R, hR⟩ : ∃ R : Nat, val 8 (piece l 11 2) = R := ⟨_, rfl⟩;have bR : R < 65536 := by rw [<- hR]; exact cK (b := l) (p := 11) (k := 2) (by omega)
 obtain ⟨E, hE⟩ : ∃ E : Nat, val 8 (piece l 13 1) = E := ⟨_, rfl⟩;have bE : E < 256 := by rw [<- hE]; exact cK (b := l) (p := 13) (k := 1) (by omega)
 obtain ⟨C, hC⟩ : ∃ C : Nat, val 8 (piece l 18 2) = C := ⟨_, rfl⟩;have bC : C < 65536 := by rw [<- hC]; exact cK (b := l) (p := 18) (k := 2) (by omega)
 obtain ⟨G, hG⟩ : ∃ G : Nat, val 8 (piece l 20 1) = G := ⟨_, rfl⟩;have bG : G < 256 := by rw [<- hG]; exact cK (b := l) (p := 20) (k := 1) (by omega)
 obtain ⟨gb, hgb⟩ : ∃ gb, decide (G = 1) = gb := ⟨_, rfl⟩;have hgg : ((G : Int) == 1) = gb := by rw [<- hgb, Bool.eq_iff_iff]; simp; omega
 obtain ⟨st, hst⟩ : ∃ st, aN 2 16 (val 8 (piece l 14 4)) = st := ⟨_, rfl⟩;have HST := ae hst;have HSL : Hid (st.length = 16) := ae (by rw [<- hst, aA]);have HDEF : Hid (cg l = ⟨I, (E : Nat), ⟨(M : Nat), (T : Nat), (R : Nat), mu st, (C : Nat), gb⟩⟩) := ae (by unfold cg; rw [hI, hM, hT, hR, hE, hC, hG, hgb, hst]);have HII := ae hI;have HMM := ae hM;have HTT := ae hT;have HRR := ae hR;have HEE := ae hE;have HCC := ae hC;have HGG2 := ae hG;have HGG := ae hgg;clear hI hM hT hR hE hC hG hgb hst hl hr hgg;go_enter func125, ntmps125;go_wp2_with (first | (refine au rfl (bH rfl) ?_) | fail);refine (mt (.slice (some ⟨g, 0, none⟩) 44 44) _ 44 44 rfl _).mono ?_;rintro e w2 ⟨p, q, rfl, hc, hp0, hq0, hpq, hp1, hq1, hb⟩;have HW0 := ae (ru HR hb hc (by rw [World.size_alloc] at hp0 hq0; exact ⟨hp0, hq0, hpq, hp1, hq1⟩));clear hb hc hp0 hq0 hpq hp1 hq1 HR;unfold iR at HW0 ⊢;go_upto_region 5 with (first | (refine au rfl (bH rfl) ?_) | fail)
 try simp only [World.size_alloc]
 generalize ((w2.alloc (.cells #[Value.func (.func 141) #[] #[.pointer (some ⟨p, 0, none⟩), .pointer (some ⟨q, 0, none⟩)]] 167)).alloc (.cells (aV bp).toArray 37)) = w3 at *
 try simp only [World.size_alloc]
 generalize w2.heap.size = nb at *;obtain ⟨B, hBdef⟩ : ∃ B, w.heap.size = B := ⟨_, rfl⟩;have HBD := ae hBdef;rw [hBdef] at HW0 ⊢;clear hBdef;have HSN : Hid (nb + 1 ≠ nb) := ae (by omega);obtain ⟨s, hs⟩ : ∃ s, nb + 1 = s := ⟨_, rfl⟩;rw [hs] at HW0 ⊢;clear hs;have HB0 : Hid (B <= w.heap.size) := ae (Nat.le_of_eq HBD.out.symm);go_wp2_with fail;refine (l8 B w _ g l s B nb p q 0 8 _ HW0 HB0 HL (by omega) (by omega) (by omega)).mono ?_;rintro e w4 ⟨rfl, hW⟩;rw [HII.out];have HV0 := ae hW;have cc := HV0.out.sup.cells.1;have ff := HV0.out.sup.free 0;clear hW;have HW1 : Hid (fI B w (w4.setCell ⟨s, 0, none⟩ (.int .u64 (I : Nat))) g l s B nb p q 8 ⟨I, 0, ⟨0, 0, 0, bO.st, 0, false⟩⟩) := ae (HV0.out.set 0 _ (yo _ _) HB0);clear HV0;go_wp2_with fail;refine (l8 B w _ g l s B nb p q 8 1 _ HW1 HB0 HL (by omega) (by omega) (by omega)).mono ?_;rintro e w5 ⟨rfl, hW⟩;rw [HMM.out];have HV1 := ae hW;have cc := HV1.out.sup.cells.2.2.1;have ff := HV1.out.sup.free 2;clear hW HW1;have HW2 : Hid (fI B w (w5.setCell ⟨s, 2, none⟩ (.int .i64 (M : Nat))) g l s B nb p q 9 ⟨I, 0, ⟨(M : Nat), 0, 0, bO.st, 0, false⟩⟩) := ae (HV1.out.set 2 _ (aau _ _) HB0);clear HV1;go_wp2_with fail;refine (l8 B w _ g l s B nb p q 9 2 _ HW2 HB0 HL (by omega) (by omega) (by omega)).mono ?_;rintro e w6 ⟨rfl, hW⟩;rw [HTT.out];have HV2 := ae hW;have cc := HV2.out.sup.cells.2.2.2.1;have ff := HV2.out.sup.free 3;clear hW HW2;have HW3 : Hid (fI B w (w6.setCell ⟨s, 3, none⟩ (.int .i64 (T : Nat))) g l s B nb p q 11 ⟨I, 0, ⟨(M : Nat), (T : Nat), 0, bO.st, 0, false⟩⟩) := ae (HV2.out.set 3 _ (abg _ _) HB0);clear HV2;go_wp2_with fail;refine (l8 B w _ g l s B nb p q 11 2 _ HW3 HB0 HL (by omega) (by omega) (by omega)).mono ?_;rintro e w7 ⟨rfl, hW⟩;rw [HRR.out];have HV3 := ae hW;have cc := HV3.out.sup.cells.2.2.2.2.1;have ff := HV3.out.sup.free 4;clear hW HW3;have HW4 : Hid (fI B w (w7.setCell ⟨s, 4, none⟩ (.int .i64 (R : Nat))) g l s B nb p q 13 ⟨I, 0, ⟨(M : Nat), (T : Nat), (R : Nat), bO.st, 0, false⟩⟩) := ae (HV3.out.set 4 _ (aa6 _ _) HB0);clear HV3;go_wp2_with fail;refine (l8 B w _ g l s B nb p q 13 1 _ HW4 HB0 HL (by omega) (by omega) (by omega)).mono ?_;rintro e w8 ⟨rfl, hW⟩;rw [HEE.out];have HV4 := ae hW;have cc := HV4.out.sup.cells.2.1;have ff := HV4.out.sup.free 1;clear hW HW4;have HW5 : Hid (fI B w (w8.setCell ⟨s, 1, none⟩ (.int .i64 (E : Nat))) g l s B nb p q 14 ⟨I, (E : Nat), ⟨(M : Nat), (T : Nat), (R : Nat), bO.st, 0, false⟩⟩) := ae (HV4.out.set 1 _ (uV _ _) HB0);clear HV4;have n0 := (cell1 HW5.out.nxt).1;unfold iR at n0;go_wp2_with fail;refine (yJ p q g 0 44 44 14 4 _ HW5.out.cut HW5.out.dif.2.2.2.2.1 (by omega) (by omega) ai (by omega)).mono ?_;rintro e w9 ⟨rfl, hc, hg⟩;have HV5 := ae (HW5.out.step hc hg HB0);clear hc hg n0 HW5 cc ff;have HRD := ae (HV5.out.row.rd (p := 14) (k := 4) (by rw [HL.out]; omega));go_wp2_with fail;refine (uk _ 4 4 _ 2 16 _ (piece l 14 4) w9 (ae rfl) HRD ai (by omega) (by omega) (by omega) (by omega) (by decide)).mono ?_;rintro e w10 ⟨v, rfl, hv, hb⟩;rw [HST.out] at hv;have hvm := hv.made;obtain ⟨A, c, rfl, hrd, _, _⟩ := hvm.open_ HSL;have HV6 := ae (HV5.out.keep hb HB0);have HRD2 := ae hrd;clear hv hvm hrd hb HRD HV5;go_wp2_with (first | (refine au rfl (eU rfl rfl) ?_) | (refine nQ rfl _ _ rfl s 5 16 16 c _ A 37 (aV _) st rfl rfl HV6.out.sup HRD2 (by omega) ?_ ?_) | fail)
 ·rw [aH]; omega
 intro w11 hs11 hg11;rw [x9 _ HSL.out] at hs11;have HW6 : Hid (fI B w w11 g l s B nb p q 18 ⟨I, (E : Nat), ⟨(M : Nat), (T : Nat), (R : Nat), mu st, 0, false⟩⟩) := ae (HV6.out.put hs11 hg11 HB0);clear hs11 hg11 HV6 HRD2;go_wp2_with fail;refine (l8 B w _ g l s B nb p q 18 2 _ HW6 HB0 HL (by omega) (by omega) (by omega)).mono ?_;rintro e w12 ⟨rfl, hW⟩;rw [HCC.out];have HV6 := ae hW;have cc := HV6.out.sup.cells.2.2.2.2.2.1;have ff := HV6.out.sup.free 21;clear hW HW6;have HW7 : Hid (fI B w (w12.setCell ⟨s, 21, none⟩ (.int .i64 (C : Nat))) g l s B nb p q 20 ⟨I, (E : Nat), ⟨(M : Nat), (T : Nat), (R : Nat), mu st, (C : Nat), false⟩⟩) := ae (HV6.out.set 21 _ (vK _ _) HB0);clear HV6;go_wp2_with fail;refine (l8 B w _ g l s B nb p q 20 1 _ HW7 HB0 HL (by omega) (by omega) (by omega)).mono ?_;rintro e w13 ⟨rfl, hW⟩;rw [HGG2.out];have HV7 := ae hW;clear hW HW7 cc ff;have cc := HV7.out.sup.cells.2.2.2.2.2.2;have ff := HV7.out.sup.free 22;have HW8 : Hid (fI B w (w13.setCell ⟨s, 22, none⟩ (.bool gb)) g l s B nb p q 21 ⟨I, (E : Nat), ⟨(M : Nat), (T : Nat), (R : Nat), mu st, (C : Nat), gb⟩⟩) := ae (HV7.out.set 22 _ (vc _ _) HB0);rw [<- HDEF.out] at HW8;have hgg := HGG.out;clear HV7;have HLS := ae HW8.out.sup.range;have HTH := ae (bm (o := 0) (n := 23) HW8.out.res (by rw [aH]; exact ai));have HBB := ae HW8.out.bel;go_upto_region 14 with fail;generalize w13.setCell ⟨s, 22, none⟩ (.bool gb) = w14 at *;clear cc ff;go_wp2_with (first | (refine au rfl (ce (c := cg l) rfl rfl ?_) ?_; (with_reducible exact HLS.out)) | (refine az rfl (cH rfl rfl rfl ?_) ?_; (with_reducible exact HTH.out)) | fail);refine bodyPost_ret (dY (t := 37) (cs := aV (cg l)) rfl _ _ B rfl ?h1 underlying37 rfl ?h2) rfl ⟨rfl, ?h3⟩
 case h1 => exact World.rangeAt_setCells_same _ _ _ _ (by rw [aH]; exact HTH)
 case h2 => rw [aH]; exact ft
 case h3 => rw [HBD.out]; exact below_setCells HBB ai _
theorem oW {ρ : Operand -> Value} {o : Oper} {x y : Operand} {w : World} {l : List UInt8} (hl : l.length = 44) (ho : o.op = .store 162 x y) (hx : ρ x = .pointer (some ⟨w.heap.size, 0, none⟩)) (hy : ρ y = arr l) :
  (execOp ρ o).run prog (w.alloc (.cells (vals z44).toArray 162)) = .ok .skip (w.alloc (.cells (vals l).toArray 162)) :=
 eW (by rw [bi, hl]; exact kz) (by rw [bi, bi, hl, rI]) (gj l) ho hx hy
theorem jG (n : Nat) (w : World) {b : Bool} (h : evB n = b) : Calls prog 118 #[.int .u64 n] w fun e w' => e = .returned (.bool b) /\ Below w.heap.size w w' := by
 subst h;exact (xz n w).mono fun e w' ⟨he, hw⟩ => ⟨he, hw ▸ aj⟩
theorem ol (x : Sup) (w : World) {b : Bool} (h : dW x = b) : Calls prog 119 #[sup x] w fun e w' => e = .returned (.bool b) /\ Below w.heap.size w w' := by
 subst h;exact z7 x w
theorem ab0 (n : Nat) (x : Sup) (w : World) (T : Tab w) (hn : n < 18446744073709551616) (hid : x.id < 18446744073709551616) :
  Calls prog 113 #[.int .u64 n, sup x] w fun e w' => e = .returned (.tuple #[blk (dV n x), .int .i64 (jk n x : Nat)]) /\ Below w.heap.size w w' := by
 obtain ⟨h1, h2, h3⟩ := gn w x;have HS := ae (h1.past (.cells (cel aB).toArray 29));have HB := ae (h2.alloc h2.size (.cells (cel aB).toArray 29));have HT := ae T;have HN := ae hn;have HI := ae hid;have HR : Hid (((w.alloc (.cells (aV x).toArray 37)).alloc (.cells (cel aB).toArray 29)).there (w.heap.size + 1) 0 64) := ae (by
  have := dG (w.alloc (.cells (aV x).toArray 37)) aB 29;rwa [World.size_alloc] at this)
 have HZ : Hid (w.heap.size + 1 < ((w.alloc (.cells (aV x).toArray 37)).alloc (.cells (cel aB).toArray 29)).heap.size) := ae (by simp only [World.size_alloc]; omega);clear h1 h2 h3 T hn hid;go_enter func113, ntmps113;go_wp2_with (first | (refine au rfl (ed rfl rfl) ?_) | (refine au rfl (bq rfl) ?_) | fail)
 try simp only [World.size_alloc]
 generalize (w.alloc (.cells (aV x).toArray 37)).alloc (.cells (cel aB).toArray 29) = w1 at *;refine (xz n w1).mono ?_;rintro e w' ⟨rfl, rfl⟩;by_cases hev : evB n = true
 ·rw [hev];have HEV := ae hev;clear hev;go_wp2_with (first | (refine av (by rfl) (ce (c := x) rfl rfl ?_) ?_; (with_reducible exact HS.out.range)) | fail);refine (z7 x w1).mono ?_;rintro e w2 ⟨rfl, hb⟩;have HS2 := ae (HS.out.below (aW HS) hb);have HB2 := ae (HB.out.trans (hb.mono HB.out.size));have HR2 := ae (bK HR HZ hb);have HZ2 : Hid (w.heap.size + 1 < w2.heap.size) := ae (by have := hb.size; have := HZ.out; omega);clear hb HS HB HR HZ;by_cases hm : dW x = true
  ·rw [hm];have HM := ae hm;clear hm;go_wp2_with (first | (refine au rfl (ce (c := x) rfl rfl ?_) ?_; (with_reducible exact HS2.out.range)) | fail);refine (xO x w2 HI HM).mono ?_;rintro e w3 ⟨rfl, hb⟩;have hb3 := HB2.out.trans (hb.mono HB2.out.size);have HB3 := ae (hb3.alloc hb3.size (.cells (vals (ch x)).toArray 162));have HR3 := ae (bK HR2 HZ2 (hb.alloc hb.size (.cells (vals (ch x)).toArray 162)));have hrd := (cl.new w3 (ch x) 162).rd (p := 0) (k := 44) (by rw [cJ]; omega);rw [jQ (cJ x)] at hrd;have HRD := ae hrd;have HFL := ae (cJ x);have HZ3 : Hid (w.heap.size + 1 < (w3.alloc (.cells (vals (ch x)).toArray 162)).heap.size) := ae (by have := hb.size; have := HZ2.out; simp only [World.size_alloc]; omega);clear hb hb3 hrd HS2 HB2 HR2 HZ2;go_wp2_with (first | (refine au rfl (jl rfl) ?_) | (refine az rfl (oW (l := ch x) HFL.out rfl rfl rfl) ?_) | (refine au rfl (mc rfl rfl) ?_) | fail);generalize hw4 : w3.alloc (.cells (vals (ch x)).toArray 162) = w4 at *;refine (yQ n 44 44 _ _ (ch x) w4 (HT.out.below HB3) HN HRD ai (by unfold maxLen; omega)).mono ?_;rintro e w5 ⟨rfl, hb⟩;rw [nv, iD, fE x HEV.out];have HR5 := ae (bK HR3 HZ3 hb);have HB5 := ae (HB3.out.trans (hb.mono HB3.out.size));have HPB := ae (jB HEV HM);have HPE := ae (iC HEV HM);clear hb hw4 HRD HR3 HZ3 HB3;generalize dO n (dd x) = pb at *;go_wp2_with (first | (refine az rfl (bc (c := pb) rfl rfl rfl ?_) ?_; (with_reducible exact HR5.out)) | fail);refine bodyPost_ret (cp rfl _ _ _ rfl (World.rangeAt_setCells_same _ _ _ _ (by rw [aF]; exact HR5))) rfl ⟨by rw [HPB.out, HPE.out]; rfl, below_setCells HB5 (Nat.le_succ _) _⟩
  ·have hm' : dW x = false := by simpa using hm
   have HPB := ae (jx (n := n) (x := x) (fun h => hm h.2));have HPE := ae (jr (n := n) (x := x) (fun h => hm h.2));rw [hm'];clear hm hm';go_wp2_with (first | (refine au rfl (cr (c := aB) (parts := []) rfl rfl) ?_) | (refine az rfl (bc (c := aB) rfl rfl rfl ?_) ?_; (with_reducible exact HR2.out)) | fail);refine bodyPost_ret (cp rfl _ _ _ rfl (World.rangeAt_setCells_same _ _ _ _ (by rw [aF]; exact HR2))) rfl ⟨by rw [HPB.out, HPE.out]; rfl, below_setCells HB2 (Nat.le_succ _) _⟩
 ·have hev' : evB n = false := by simpa using hev
  have HPB := ae (jx (n := n) (x := x) (fun h => hev h.1));have HPE := ae (jr (n := n) (x := x) (fun h => hev h.1));rw [hev'];clear hev hev';go_wp2_with (first | (refine au rfl (cr (c := aB) (parts := []) rfl rfl) ?_) | (refine az rfl (bc (c := aB) rfl rfl rfl ?_) ?_; (with_reducible exact HR.out)) | fail);refine bodyPost_ret (cp rfl _ _ _ rfl (World.rangeAt_setCells_same _ _ _ _ (by rw [aF]; exact HR))) rfl ⟨by rw [HPB.out, HPE.out]; rfl, below_setCells HB (Nat.le_succ _) _⟩
section
variable {P : Program} {ops : Array Oper} {C : World -> Prop} {Q : Act -> Prop} {a : Act} {o : Oper} {rest l : List Oper} {v : Value}
theorem kI : ∀ (rs : List Oper) (a : Act), unw ops rs a = true -> wpQuiet P ops C Q rest (bj rs a) -> wpQuiet P ops C Q (rs ++ rest) a
 |[], _, _, h => h
 |r :: rs, a, hu, h => by
  simp only [unw, Bool.and_eq_true, Bool.not_eq_true'] at hu;exact yn hu.1 (kI rs _ hu.2 h)
theorem nT (n : Nat) (hw : Region.wanted o (yielded ops a.tmps) = true) (h : ∀ w, C w -> (execOp a.eval o).run P w = .ok (.value v) w) (hu : unw ops (l.take n) (a.put o.dst v) = true) (hr : wpQuiet P ops C Q (l.drop n) (bj (l.take n) (a.put o.dst v))) : wpQuiet P ops C Q (o :: l) a :=
 aS hw h (by have := kI (P := P) (C := C) (Q := Q) (l.take n) _ hu hr; rwa [List.take_append_drop] at this)
end
end Go.Proofs.YtehefifamaofkaaGreatDoor
