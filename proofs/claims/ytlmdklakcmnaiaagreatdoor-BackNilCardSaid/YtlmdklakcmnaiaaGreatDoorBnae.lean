import Derived.Test.YtlmdklakcmnaiaaGreatDoorBnad
import Derived.Laws.EntriesVeiled
namespace Go.Proofs.YtlmdklakcmnaiaaGreatDoor
set_option maxHeartbeats 8000000
open Go.Proofs.Tryz
open Go.RowKit
set_option linter.unusedVariables false
theorem wL (b : List UInt8) (q : Nat) : (dg (val 8 b) q : Nat) = bt b q := by
 unfold dg bt;rw [yT (xD b)]
theorem agY {d : Nat} (h1 : 1 <= d) (h2 : d <= 8) : IntKind.u16.wrap (IntKind.u16.wrap (2 ^ d) - 1) = ((2 ^ d - 1 : Nat) : Int) := by
 rcases wX h1 h2 with rfl | rfl | rfl | rfl | rfl | rfl | rfl | rfl <;> rfl
theorem ue {d y : Nat} (h1 : 1 <= d) (h2 : d <= 8) (hy : y < 65536) : bits .and .u16 (y : Int) (IntKind.u16.wrap (IntKind.u16.wrap (2 ^ d) - 1)) % 256 = ((y % 2 ^ d : Nat) : Int) := by
 have h3 : 2 ^ d <= 2 ^ 8 := Nat.pow_le_pow_right (by omega) h2;have h4 : y % 2 ^ d < 2 ^ d := Nat.mod_lt _ (Nat.pow_pos (by omega));rw [agY h1 h2, u16_and_nat y _ hy (by omega), Nat.and_two_pow_sub_one_eq_mod];omega
theorem yf {d m V j : Nat} (h2 : d <= 8) (hj : j < m) : bt (cp d m V) j = ((V / 2 ^ (j * d) % 2 ^ d : Nat) : Int) := by
 have hl : j < (cp d m V).length := by rw [aS]; exact hj
 rw [eK hl, jo h2 hl, Nat.mul_comm d j]
theorem yK {b : List UInt8} {q ab d j m : Nat} (h1 : 1 <= d) (h2 : d <= 8) (hj : j < m) (hq : j * d / 8 = q) (hab : j * d % 8 = ab) :
  bits .and .u16 (bits .or .u16 (bt b q) (bt b (q + 1) * 256) / 2 ^ ab) (IntKind.u16.wrap (IntKind.u16.wrap (2 ^ d) - 1)) % 256 = bt (cp d m (val 8 b)) j := by
 subst hq hab;rw [<- wL, <- wL];have l1 := kQ (val 8 b) (j * d / 8);have l2 := kQ (val 8 b) (j * d / 8 + 1);have e : ((dg (val 8 b) (j * d / 8 + 1) : Nat) : Int) * 256 = ((dg (val 8 b) (j * d / 8 + 1) * 256 : Nat) : Int) := by omega
 rw [e, u16_or_nat _ _ (by omega) (by omega), Nat.or_comm, nat_join 8 _ _ (Nat.mul_mod_left _ (2 ^ 8)) l1];have e2 : (((dg (val 8 b) (j * d / 8 + 1) * 256 + dg (val 8 b) (j * d / 8) : Nat) : Int) / 2 ^ (j * d % 8)) = (((dg (val 8 b) (j * d / 8) + 2 ^ 8 * dg (val 8 b) (j * d / 8 + 1)) / 2 ^ (j * d % 8) : Nat) : Int) := by
  have e3 : ((2 : Int) ^ (j * d % 8)) = ((2 ^ (j * d % 8) : Nat) : Int) := by push_cast; rfl
  rw [e3, show dg (val 8 b) (j * d / 8 + 1) * 256 + dg (val 8 b) (j * d / 8) = dg (val 8 b) (j * d / 8) + 2 ^ 8 * dg (val 8 b) (j * d / 8 + 1) from by omega]
  rfl
 have l3 : (dg (val 8 b) (j * d / 8) + 2 ^ 8 * dg (val 8 b) (j * d / 8 + 1)) / 2 ^ (j * d % 8) < 65536 := Nat.lt_of_le_of_lt (Nat.div_le_self _ _) (by omega);rw [e2, ue h1 h2 l3, vH h2, yf h2 hj]
theorem rq {b : List UInt8} {q ab d j m : Nat} (h1 : 1 <= d) (h2 : d <= 8) (hj : j < m) (hs : ab + d <= 8) (hq : j * d / 8 = q) (hab : j * d % 8 = ab) :
  bits .and .u16 (bt b q / 2 ^ ab) (IntKind.u16.wrap (IntKind.u16.wrap (2 ^ d) - 1)) % 256 = bt (cp d m (val 8 b)) j := by
 subst hq hab;rw [<- wL];have l1 := kQ (val 8 b) (j * d / 8);have e2 : ((dg (val 8 b) (j * d / 8) : Nat) : Int) / 2 ^ (j * d % 8) = ((dg (val 8 b) (j * d / 8) / 2 ^ (j * d % 8) : Nat) : Int) := by
  have e3 : ((2 : Int) ^ (j * d % 8)) = ((2 ^ (j * d % 8) : Nat) : Int) := by push_cast; rfl
  rw [e3]
  rfl
 have l3 : dg (val 8 b) (j * d / 8) / 2 ^ (j * d % 8) < 65536 := Nat.lt_of_le_of_lt (Nat.div_le_self _ _) (by omega);rw [e2, ue h1 h2 l3, vF hs, yf h2 hj]
theorem zC (A : Option Addr) (n c N d m B : Nat) (b : List UInt8) (w : World) (HB : Hid (B = w.heap.size)) (hb : Rd w N A n b) (hN : N <= B) (hn : n <= 140737488355328) (h1 : 1 <= d) (h2 : d <= 8) (hm : m <= 1048576) (hs : bytesOf m d <= n) :
  Calls prog 178 #[.slice A n c, .int .i64 d, .int .i64 m] w fun e w' => ∃ v, e = .returned (.tuple #[v, .int .i64 0]) /\ Own w' B v (cp d m (val 8 b)) /\ Below B w w' := by
 have hBle : B <= w.heap.size := Nat.le_of_eq HB;have hd30 : decide (n < bytesOf m d) = false := by simpa using hs
 have hd19 : decide ((m : Int) < 0) = false := by simp
 have hd23 : decide (1048576 < (m : Int)) = false := by simp; omega
 have hmk := run_make_row' (P := prog) 208 5 (.int .u8 0) 1 underlying208 vI rfl .i64 .i64 m (by omega) (by omega);go_enter func178, ntmps178;go_wp2_with (first | (go_at_call 166; refine (lW _ _ (by omega) (by omega)).mono ?_; rintro e w' ⟨rfl, rfl⟩));refine (q7 _ _ _ h1 h2 (by omega)).mono ?_;rintro e w' ⟨rfl, rfl⟩;go_wp2;clear hmk;have hr0 := World.rowIs_made w (Value.int .u8 0) m 5;have hbl0 : Below B w (w.alloc (.cells (madeCells #[Value.int .u8 0] m) 5)) := ak.alloc hBle _;generalize w.heap.size = g at hr0 hBle ⊢
 go_loopw [37] (fun i wr => ∃ (j : Nat) (f : Nat -> Int), j <= m /\ i = .int .i64 j /\ wr.rowIs g 5 m (fun k => .int .u8 (f k)) /\ (∀ k, k < j -> f k = bt (cp d m (val 8 b)) k) /\ (∀ k, 0 <= f k /\ f k <= 255) /\ Below B w wr) (fun i _ => m - (intOf i).toNat)
 case atStart => exact ⟨0, fun _ => 0, Nat.zero_le _, rfl, hr0, fun k hk => absurd hk (by omega), fun k => by simp, hbl0⟩
 case round =>
  clear hbl0 hr0;obtain ⟨j, f, hj, rfl, hrow, hf, hr, hbl⟩ := hrel;have HF := ae hf;have HR := ae hr;clear hf hr;by_cases hlt : j < m
  ·go_wp2_with fail;refine (qZ _ _ _ h1 h2 (by omega)).mono ?_;rintro e w' ⟨rfl, rfl⟩;have hab : j * d % 8 <= 7 := by omega
   have hq1 : j * d / 8 < n := by
    unfold bytesOf at hs;have h3 : (j + 1) * d <= m * d := Nat.mul_le_mul_right d hlt;rw [Nat.succ_mul] at h3;omega
   have hq2 : 8 < j * d % 8 + d -> j * d / 8 + 1 < n := by
    unfold bytesOf at hs;have h3 : (j + 1) * d <= m * d := Nat.mul_le_mul_right d hlt;rw [Nat.succ_mul] at h3;omega
   generalize hq : j * d / 8 = q at *;generalize ha : j * d % 8 = ab at *;have HQ := ae hq;have HAB := ae ha;clear hq ha;obtain ⟨bA, oA, rfl, hA, cA⟩ := (hb.below (hbl.mono hN)).2 q hq1;have hlo := kK b q;have hhi := mV b q;have hc1 := hrow.cell hlt;have hf1 := hrow.frozen j;by_cases hsp : 8 < ab + d
   ·have hq3 := hq2 hsp;obtain ⟨bA', oA', hA2, _, cA2⟩ := (hb.below (hbl.mono hN)).2 (q + 1) hq3;injection hA2 with hA2;injection hA2 with hA3 hA4;subst hA3 hA4;have hlo2 := kK b (q + 1);have hhi2 := mV b (q + 1);go_wp2_with fail;refine (n8 _ _ _ (by omega) h2 hsp).mono ?_;rintro e w' ⟨rfl, rfl⟩;go_wp2;go_roundw
    case rel =>
     rw [yK h1 h2 hlt HQ.out HAB.out];refine ⟨j + 1, upd f j (bt (cp d m (val 8 b)) j), by omega, by go_num, yy hrow _, ?_, ?_, hbl.setCell hBle _⟩
     ·intro k hk;by_cases e : k = j
      ·subst e; exact rZ _ _ _
      ·rw [nv _ _ e]; exact HF.out k (by omega)
     ·intro k;by_cases e : k = j
      ·subst e; rw [rZ]; exact ⟨kK _ _, mV _ _⟩
      ·rw [nv _ _ e]; exact HR.out k
    case measure => simp [intOf]; omega
   ·clear hq2;go_wp2_with fail;refine (q9 _ _ _ (by omega) h2 hsp).mono ?_;rintro e w' ⟨rfl, rfl⟩;go_wp2;go_roundw
    case rel =>
     rw [rq h1 h2 hlt (by omega) HQ.out HAB.out];refine ⟨j + 1, upd f j (bt (cp d m (val 8 b)) j), by omega, by go_num, yy hrow _, ?_, ?_, hbl.setCell hBle _⟩
     ·intro k hk;by_cases e : k = j
      ·subst e; exact rZ _ _ _
      ·rw [nv _ _ e]; exact HF.out k (by omega)
     ·intro k;by_cases e : k = j
      ·subst e; rw [rZ]; exact ⟨kK _ _, mV _ _⟩
      ·rw [nv _ _ e]; exact HR.out k
    case measure => simp [intOf]; omega
  ·have e : j = m := by omega
   subst e;go_wp2;go_ret2;exact ⟨_, rfl, Own.vp (aS _ _ _) hBle hrow aj (by unfold maxLen; omega) HF HR, hbl⟩
set_option maxRecDepth 100000
theorem gZ {ρ : Operand -> Value} {o : Oper} {x y : Operand} {w : World} (g : Nat) (ho : o.op = .store 221 x y) (hx : ρ x = .pointer (some ⟨w.heap.size, 0, none⟩)) (hy : ρ y = .agg (fP g)) :
  (execOp ρ o).run prog (w.alloc (.cells #[.slice none 0 0, .slice none 0 0, .slice none 0 0, .slice none 0 0, .slice none 0 0] 221)) = .ok .skip (w.alloc (.cells (fP g) 221)) :=
 kY (by kernel_rfl) rfl rfl ho hx hy
theorem wm (w w1 : World) (hb : Below ((w.alloc (.cells (cel aI).toArray 44)).alloc (.cells (cel aI).toArray 44)).heap.size ((w.alloc (.cells (cel aI).toArray 44)).alloc (.cells (cel aI).toArray 44)) w1) :
  o0 w.heap.size w (w1.alloc (.cells (fP (w.heap.size + 1)) 221)) w.heap.size (w.heap.size + 1) w1.heap.size aI.toList := by
 have h1 := (Below.refl w.heap.size w).alloc aj (.cells (cel aI).toArray 44);have h2 := h1.alloc h1.size (.cells (cel aI).toArray 44);have hs := hb.size;simp only [World.size_alloc] at hs;have hr : cC w1 w.heap.size 44 aI.toList := cC.below ((cC.blk w aI 44).past _) (by simp only [World.size_alloc]; omega) hb;have hg : cC w1 (w.heap.size + 1) 44 aI.toList := cC.below (by have := cC.blk (w.alloc (.cells (cel aI).toArray 44)) aI 44; rwa [World.size_alloc] at this) (by simp only [World.size_alloc]; omega) hb;have hbel : Below w.heap.size w w1 := h2.trans (hb.mono (by simp only [World.size_alloc]; omega));exact ⟨hr.past _, hg.past _, heap_alloc_new w1 _, hbel.alloc (by omega) _, aj, by omega, by omega, by omega⟩
theorem aea (n m c N : Nat) (A : Option Addr) (b : List UInt8) (w : World) (T : Tab w) (hn : n < 18446744073709551616) (h0 : 0 < n) (hb : Rd w N A m b) (hN : N <= w.heap.size) (hm : m <= 44) :
  Calls prog 148 #[.int .u64 n, .slice A m c] w fun e w' => e = .returned (.tuple #[blk (jH n b), .int .i64 (ij n b : Nat)]) /\ Below w.heap.size w w' := by
 have hl := hb.1;have hbl : b.length <= 44 := by omega
 have hE : ij n b = 0 := rl (by omega) hbl;have hB : jH n b = ofL (jb n b) := afm hE;rw [hE, hB];have HS := ae (vf (n := n) hbl);have HH := ae (xh (n := n) hbl);have HL := ae (gG (n := n) hbl);have HL64 := ae (l6 n hbl);have HC := ae (yB (s := 0) (by omega) (gy n b));have HT := ae T;have HR := ae hb;have HB := ae hl;have HN := ae hn;have HNN := ae hN;clear hE hB T hb hl hbl hn hN;have hz : ((n : Int) == 0) = false := by simp; omega
 go_enter func148, ntmps148;go_wp2_with (first | (refine ay rfl (bW rfl) ?_) | fail);refine (lv (w.heap.size + 1) _).mono ?_;rintro e w1 ⟨rfl, hb1⟩;have hW := wm w w1 hb1;have HBW := ae hb1.size;clear hb1;have HFP := HBW.out;obtain ⟨c0, c1, c2, c3, c4⟩ := hW.par.cells;obtain ⟨g, hg⟩ : ∃ g, w.heap.size + 1 = g := ⟨_, rfl⟩;rw [hg] at hW c0 c1 c2 c3 c4;rw [hg];have HGG := ae hg;clear HFP hg;have HW := ae hW;clear hW;go_wp2_with (first | (refine bK rfl (gZ g rfl rfl rfl) ?_) | fail);clear c0 c1 c2 c3 c4 HBW HGG;have HN8 := HN.out;refine (rP g 0 8 n 44 aI.toList _ HW.out.row (by omega) (by omega) (by simp) (by simpa using HN8)).mono ?_;rintro e w2 ⟨rfl, hr2, hg2⟩;have HW2 := ae (HW.out.turn hr2 hg2 aj);clear hr2 hg2 HW;obtain ⟨c0, c1, c2, c3, c4⟩ := HW2.out.par.cells;generalize w1.heap.size = p at *;obtain ⟨r, hr⟩ : ∃ r, r = w.heap.size := ⟨_, rfl⟩;have HRR := ae hr;rw [<- hr] at HNN HW2 ⊢;clear hr;clear HN8;go_wp2_with fail;clear c0 c1 c2 c3 c4;have HN8 := HN.out;refine (rP g 56 8 n 44 _ _ HW2.out.row (by omega) (by omega) (by rw [nw]; omega) (by simpa using HN8)).mono ?_;rintro e w3 ⟨rfl, hr3, hg3⟩;have HW3 := ae (HW2.out.turn hr3 hg3 (Nat.le_of_eq HRR));clear hr3 hg3 HW2 HN8;obtain ⟨c0, c1, c2, c3, c4⟩ := HW3.out.par.cells;have HR3 := ae (HR.out.below (HW3.out.bel.mono HNN));have HL2 := ae (nN n);obtain ⟨l2, hl2⟩ : ∃ l2, splice (splice aI.toList 0 (cp 8 8 n)) 56 (cp 8 8 n) = l2 := ⟨_, rfl⟩;have HNS : Hid (splice l2 8 b = lV n b) := ae (by rw [<- hl2]; rfl);rw [hl2] at HW3 HL2;clear hl2;go_wp2_with (with_reducible refine eR rfl _ _ rfl g 8 44 44 m c N A 44 l2 b rfl rfl HW3.out.row HR3.out hm ?c1 ?_)
 case c1 => rw [HL2.out]; omega
 intro w4 hr4 hg4;rw [HNS.out] at hr4;have HW4 := ae (HW3.out.turn hr4 hg4 (Nat.le_of_eq HRR));clear hr4 hg4 HW3 HR3 HL2 c0 c1 c2 c3 c4;go_wp2_with fail;refine wp_region_held (S := fun w' => Hid (o0 r w w' r g p (lV n b) \/ o0 r w w' r g p (jb n b))) (by kernel_rfl) ?_;change wpAnyH _ _ _ _ _ 7 _ _ w4.drew;have hS : Hid (o0 r w w4.drew r g p (lV n b) \/ o0 r w w4.drew r g p (jb n b)) := ae (.inl HW4.out.draw);refine ajE 0 rfl (fun _ hw => ax rfl ajL agt) hS ?_;refine ajE 1 rfl (fun _ hw => aC rfl ajL (ldS (hw.out.elim (fun h => h.par.cells.2.2.1) (fun h => h.par.cells.2.2.1)))) hS ?_;refine ajE 2 rfl (fun _ hw => ax rfl ajL agU) hS ?_;refine ajE 3 rfl (fun _ hw => aC rfl ajL (ldS (hw.out.elim (fun h => h.par.cells.2.2.2.2) (fun h => h.par.cells.2.2.2.2)))) hS ?_;refine eN 4 rfl (by kernel_rfl) rfl (aA call158 rfl (evc ajL evn)) ?_;have T4 : Tab w4.drew := (HT.out.below (by rw [<- HRR.out]; exact HW4.out.draw.bel));have R4 := HW4.out.draw.row.rd (p := 0) (k := 52) (by rw [HL.out]; omega);rw [HH.out] at R4;refine (aa4 _ 52 52 _ (gy n b) _ T4 R4 (by unfold maxLen; omega)).mono ?_;rintro e w' ⟨rfl, rfl⟩;refine ⟨_, rfl, hS, ?_⟩;simp only [aa];clear T4 R4;refine ajE 5 rfl (fun _ hw => mQ rfl ajL HC) hS ?_;refine eN 6 rfl (by kernel_rfl) rfl (aA call157 rfl (evc ajL (evc ajL evn))) ?_;refine (rP g 52 4 (more 0 (gy n b)) 44 _ _ HW4.out.draw.row (by omega) (by omega) (by rw [HL.out]; omega) (by have := HC.out; simpa using this)).mono ?_;rintro e w5 ⟨rfl, hr5, hg5⟩;rw [HS.out] at hr5;have HW5 := ae (HW4.out.draw.turn hr5 hg5 (Nat.le_of_eq HRR));refine ⟨_, rfl, ae (.inr HW5), ?_⟩;simp only [aa];clear hr5 hg5 hS HW4;refine wpAnyH_done (by kernel_rfl) ?_ _;have HG := ae (HW5.out.row.range HL64);have HTH : Hid (w5.there r 0 64) := ae (zD HW5.out.res.row (by simp));have HBB : Hid (Below w.heap.size w w5) := ae (by rw [<- HRR.out]; exact HW5.out.bel);go_wp2_with (first | (refine ay rfl (bJ rfl rfl HG.out) ?_) | (refine bK rfl (bP rfl rfl rfl HTH.out) ?_) | fail);refine bodyPost_ret (du rfl _ _ _ rfl (World.rangeAt_setCells_same _ _ _ _ (by rw [aM]; exact HTH))) rfl ⟨rfl, below_setCells HBB (Nat.le_of_eq HRR.out.symm) _⟩
theorem aeD (n m c N : Nat) (A : Option Addr) (b : List UInt8) (w : World) (T : Tab w) (hn : n < 18446744073709551616) (hb : Rd w N A m b) (hN : N <= w.heap.size) (hm : m <= maxLen) :
  Calls prog 148 #[.int .u64 n, .slice A m c] w fun e w' => e = .returned (.tuple #[blk (jH n b), .int .i64 (ij n b : Nat)]) /\ Below w.heap.size w w' := by
 by_cases h0 : n = 0
 ·subst h0;exact aeS m c A b w hb.1
 ·by_cases h44 : m <= 44
  ·exact aea n m c N A b w T hn (by omega) hb hN h44
  ·exact ac5 n m c A b w hb.1 (by omega) (by omega) hm
set_option linter.unusedSimpArgs false
def kE (p q : Nat) : Value := .func (.func 163) #[] #[.pointer (some ⟨p, 0, none⟩), .pointer (some ⟨q, 0, none⟩)]
def kh (w : World) (p q : Nat) (S : Value) (k : Nat) : Prop := w.heap[p]? = some (.cells #[.int .i64 (k : Int)] 3 (0, 0)) /\ w.heap[q]? = some (.cells #[S] 208 (0, 0))
theorem pp (S : Value) (A : Option Addr) (n c : Nat) (hS : S = .slice A n c) (w : World) : Calls prog 152 #[S] w fun e w' => ∃ p q, e = .returned (kE p q) /\ kh w' p q S 0 /\ w.heap.size <= p /\ w.heap.size <= q /\ p ≠ q /\ p < w'.heap.size /\ q < w'.heap.size /\ Below w.heap.size w w' := by
 subst hS;have hmf : ∀ (fn : Fn) (first cap : Array Value) (w : World), (Instr.makeFunc fn first cap).run prog w = .ok (.func fn first cap) w := fun _ _ _ _ => rfl
 go_enter func152, ntmps152;go_wp2;go_ret;have e1 := World.size_alloc (w := w) (o := Obj.cells #[Value.slice A n c] 208);refine ⟨w.heap.size + 1, w.heap.size, rfl, ⟨?_, ?_⟩, by omega, by omega, by omega, ?_, ?_, ?_⟩
 ·have := heap_alloc_new (w.alloc (.cells #[.slice A n c] 208)) (.cells #[.int .i64 0] 3);rwa [e1] at this
 ·exact br (heap_alloc_new w _) _
 ·simp only [World.size_alloc]; omega
 ·simp only [World.size_alloc]; omega
 ·exact ((Below.refl _ w).alloc aj _).alloc (by simp only [World.size_alloc]; omega) _
theorem agu (g off n c : Nat) (w : World) {i j : Nat} (h1 : i < j) (h2 : j <= n) (h3 : n <= c) : (Instr.sliceAt 208 (.slice (some ⟨g, off, none⟩) n c) (some (.int .i64 (i : Int))) (some (.int .i64 (j : Int))) (some (.int .i64 (j : Int)))).run prog w = .ok (.slice (some ⟨g, off + i, none⟩) (j - i) (j - i)) w := by
 have e1 : (0 <= (j : Int) /\ (j : Int) <= (c : Int)) := by omega
 have e2 : (0 <= (j : Int) /\ (j : Int) <= (j : Int)) := by omega
 have e3 : (0 <= (i : Int) /\ (i : Int) <= (j : Int)) := by omega
 have e4 : j ≠ i := by omega
 have e5 : i <= j := by omega
 have e6 : j <= c := by omega
 simp [Instr.sliceAt, Instr.slice, Instr.sliceBounds, Instr.sliceBound, Instr.sureAddr, asIntOf, run_underlying underlying208, Tryz.sizeOf5, Addr.add_mid, e1, e2, e3, e4, e5, e6]
theorem aew (p q g off n c k s : Nat) (w : World) (h : kh w p q (.slice (some ⟨g, off, none⟩) n c) k) (hpq : p ≠ q) (hs : 0 < s) (hk : k + s <= n) (hc : n <= c) (hn : n <= 1000000) :
  Calls prog 163 #[.int .i64 (s : Int), .pointer (some ⟨p, 0, none⟩), .pointer (some ⟨q, 0, none⟩)] w fun e w' => e = .returned (.slice (some ⟨g, off + k, none⟩) s s) /\ kh w' p q (.slice (some ⟨g, off, none⟩) n c) (k + s) /\ w.grownBy w' (some p) := by
 obtain ⟨h1, h2⟩ := h;obtain ⟨a1, a2⟩ := cell1 h1;obtain ⟨b1, b2⟩ := cell1 h2;have s1 := set1 h1 (.int .i64 ((k : Int) + s));have s2 : (w.setCell ⟨p, 0, none⟩ (.int .i64 ((k : Int) + s))).heap[q]? = some (.cells #[.slice (some ⟨g, off, none⟩) n c] 208 (0, 0)) := (heap_setCell_other w ⟨p, 0, none⟩ q _ (fun e => hpq e.symm)).trans h2;have d1 := (cell1 s1).1;have d2 := (cell1 s2).1;have hg := qV w p 0 (.int .i64 ((k : Int) + s));have S1 := ae s1;have S2 := ae s2;have HG := ae hg;have HCUT : Hid (∀ w : World, (Instr.sliceAt 208 (.slice (some ⟨g, off, none⟩) n c) (some (.int .i64 (k : Int))) (some (.int .i64 ((k : Int) + (s : Int)))) (some (.int .i64 ((k : Int) + (s : Int))))).run prog w = .ok (.slice (some ⟨g, off + k, none⟩) s s) w) := ae fun w => by
  have := agu g off n c w (i := k) (j := k + s) (by omega) hk hc;rw [show k + s - k = s from by omega] at this;exact this
 clear h1 h2 s1 s2 hg b1 b2;go_enter func163, ntmps163;go_wp2_with (first | (refine av rfl (gH rfl rfl rfl rfl rfl (HCUT.out _)) ?_) | fail);go_ret;exact ⟨rfl, ⟨S1, S2⟩, HG⟩
structure rJ (B : Nat) (w0 w : World) (x : Sup) (sb rb r nb p q g : Nat) (a : List UInt8) : Prop where
 sup : cR w sb x
 ros : bD w rb x.ros
 res : cC w r 205 z44
 nxt : w.heap[nb]? = some (.cells #[kE p q] 214 (0, 0))
 cut : kh w p q (.slice (some ⟨g, 0, none⟩) 44 44) a.length
 row : cC w g 205 (gv a)
 bel : Below B w0 w
 p0 : B <= p
 g0 : B <= g
 dif : sb ≠ p /\ sb ≠ g /\ rb ≠ p /\ rb ≠ g /\ r ≠ p /\ r ≠ g /\ nb ≠ p /\ nb ≠ g /\ p ≠ q /\ p ≠ g /\ q ≠ g
section
variable {B : Nat} {w0 w w' : World} {x : Sup} {sb rb r nb p q g : Nat} {a b : List UInt8}
theorem rJ.keep (h : rJ B w0 w x sb rb r nb p q g a) (hb : Below w.heap.size w w') (hB : B <= w0.heap.size) : rJ B w0 w' x sb rb r nb p q g a :=
 ⟨aB h.sup hb, aB h.ros hb, aB h.res hb, aB h.nxt hb, ⟨aB h.cut.1 hb, aB h.cut.2 hb⟩, aB h.row hb, h.bel.trans (hb.mono (aq hB h.bel.size)), h.p0, h.g0, h.dif⟩
theorem rJ.aic (h : rJ B w0 w x sb rb r nb p q g a) (hc : kh w' p q (.slice (some ⟨g, 0, none⟩) 44 44) b.length) (hr : cC w' g 205 (gv b)) (hg : ∃ w1, w.grownBy w1 (some p) /\ w1.grownBy w' (some g)) (hB : B <= w0.heap.size) : rJ B w0 w' x sb rb r nb p q g b := by
 obtain ⟨w1, k1, k2⟩ := hg;obtain ⟨d1, d2, d3, d4, d5, d6, d7, d8, d9, d10, d11⟩ := h.dif;have hb1 : Below B w0 w1 := h.bel.grown k1 (aq hB h.bel.size) (fun k hk => by injection hk with e; have := h.p0; omega);have hb2 : Below B w0 w' := hb1.grown k2 (aq hB hb1.size) (fun k hk => by injection hk with e; have := h.g0; omega);exact ⟨ci (ci h.sup k1 d1) k2 d2, ci (ci h.ros k1 d3) k2 d4, ci (ci h.res k1 d5) k2 d6, ci (ci h.nxt k1 d7) k2 d8, hc, hr, hb2, h.p0, h.g0, h.dif⟩
end
theorem Made.afF {w w' : World} {B : Nat} {v : Value} {l : List UInt8} {row : Option Nat} (h : Made w B v l) (hg : w.grownBy w' row) (hne : ∀ k, row = Option.some k -> k < B) : Made w' B v l := by
 refine ⟨h.1, ?_⟩;rcases h.2 with hn | ⟨g, cap, cur, rfl, hbg, hgg, rest⟩
 ·exact .inl hn
 ·refine .inr ⟨g, cap, cur, rfl, hbg, ?_, rest⟩;rw [hg.block g (Array.getElem?_eq_some_iff.1 hgg).1 (fun e => by have := hne g e.symm; omega)];exact hgg
theorem vT (B : Nat) (w0 w : World) (x : Sup) (sb rb r nb p q g : Nat) (a : List UInt8) (n k : Nat) (h : rJ B w0 w x sb rb r nb p q g a) (hB : B <= w0.heap.size) (h1 : 1 <= k) (h2 : k <= 8) (hk : a.length + k <= 44) (hn : n < 256 ^ k) :
  Calls prog 153 #[.int .u64 n, .int .i64 k, .pointer (some ⟨nb, 0, none⟩)] w fun e w' => e = .returned (.tuple #[]) /\ rJ B w0 w' x sb rb r nb p q g (a ++ cp 8 k n) := by
 have HH := ae h;have HL := ae (aS 8 k n);have HSP := ae (pd (a := a) (x := cp 8 k n) (by rw [aS]; exact hk));have HPL := ae (fv (b := a) (by omega));have HPP := ae (aT h.cut.1);clear h;go_enter func153, ntmps153;go_wp2_with fail;refine (aa3 n k w h1 h2 hn).mono ?_;rintro e w1 ⟨v, rfl, hv, hb⟩;have hvm := hv.made;obtain ⟨A, c, rfl, _, _, _⟩ := hvm.open_ HL;have HV := ae hvm;have H1 := ae (HH.out.keep hb hB);have c0 := (cell1 H1.out.nxt).1;unfold kE at c0;clear hv hvm hb HH;go_wp2_with fail;refine (aew p q g 0 44 44 a.length k w1 H1.out.cut H1.out.dif.2.2.2.2.2.2.2.2.1 h1 hk aj (by omega)).mono ?_;rintro e w2 ⟨rfl, hc2, hg2⟩;clear c0;have HC2 := ae hc2;have HG2 := ae hg2;have HROW2 : Hid (cC w2 g 205 (gv a)) := ae (ci H1.out.row hg2 (fun e => H1.out.dif.2.2.2.2.2.2.2.2.2.1 e.symm));have HRD2 : Hid (Rd w2 w2.heap.size A k (cp 8 k n)) := ae (by
  have := (HV.out.afF hg2 (fun j hj => by injection hj with e; have := HPP.out; omega)).rd;exact this)
 clear hc2 hg2;go_wp2_with (first | (refine eR rfl _ _ rfl g a.length k k k c _ A 205 (gv a) (cp 8 k n) rfl rfl HROW2 HRD2 aj ?_ ?_) | fail)
 ·rw [HPL.out]; omega
 intro w3 hr3 hg3;rw [HSP.out] at hr3;have hdf := H1.out.dif;have hc3 : kh w3 p q (.slice (some ⟨g, 0, none⟩) 44 44) (a ++ cp 8 k n).length := by
  rw [List.length_append, HL.out];exact ⟨ci HC2.out.1 hg3 hdf.2.2.2.2.2.2.2.2.2.1, ci HC2.out.2 hg3 hdf.2.2.2.2.2.2.2.2.2.2⟩
 have H3 := ae (H1.out.aic hc3 hr3 ⟨w2, HG2, hg3⟩ hB);clear hr3 hg3 hdf hc3;go_wp2_with fail
 go_end0
 exact ⟨rfl, H3⟩
section
variable {ρ : Operand -> Value} {o : Oper} {x z : Operand} {w : World} {g off : Nat}
theorem oR (ho : o.op = .slice 205 x none none none) (hx : ρ x = .pointer (some ⟨g, off, none⟩)) : (execOp ρ o).run prog w = .ok (.value (.slice (some ⟨g, off, none⟩) 44 44)) w := by
 have h : (Instr.sliceAt 205 (.pointer (some ⟨g, off, none⟩)) none none none).run prog w = .ok (.slice (some ⟨g, off, none⟩) 44 44) w := by
  simp [Instr.sliceAt, Instr.sliceBounds, Instr.sliceBound, Instr.sureAddr, asIntOf, run_underlying underlying205, Tryz.sizeOf5, Addr.add_mid]
 unfold execOp;simp only [ho, hx, Option.map_none, Sem.run_bind, h, Result.andThen_ok, Sem.run_pure]
end
theorem bD.ajq {w : World} {b : Nat} {x : Ros} (h : bD w b x) : Rd w w.heap.size (some ⟨b, 3, none⟩) 16 x.st.toList := by
 have := h.rd (m := 16) aj;rwa [List.take_of_length_le (by simp)] at this
theorem wQ {w w1 w2 : World} {x : Sup} {p q : Nat} (HS : cR w1 w.heap.size x) (HB : Below w.heap.size w w1) (HRES : cC w1 (w.heap.size + 1) 205 z44) (HROW : cC w1 (w.heap.size + 1 + 1) 205 z44)
  (hb : Below w1.heap.size w1 w2) (hc : kh w2 p q (.slice (some ⟨w.heap.size + 1 + 1, 0, none⟩) 44 44) 0) (hd : w1.heap.size <= p /\ w1.heap.size <= q /\ p ≠ q /\ p < w2.heap.size /\ q < w2.heap.size) :
  rJ w.heap.size w ((w2.alloc (.cells #[kE p q] 214)).alloc (.cells (aX x.ros).toArray 58)) x w.heap.size (w2.heap.size + 1) (w.heap.size + 1) w2.heap.size p q (w.heap.size + 1 + 1) [] := by
 have e1 := World.size_alloc (w := w2) (o := Obj.cells #[kE p q] 214);have h2 := aT HROW;have h3 := hb.size;have hro := bD.new (w2.alloc (.cells #[kE p q] 214)) x.ros;rw [e1] at hro;have hb2 : Below w.heap.size w w2 := HB.trans (hb.mono HB.size);refine ⟨((HS.below (aT HS) hb).past _).past _, hro, br (br (aB HRES hb) _) _, br (heap_alloc_new w2 _) _, ⟨br (br hc.1 _) _, br (br hc.2 _) _⟩, br (br (aB HROW hb) _) _, (hb2.alloc (by omega) _).alloc (by rw [e1]; omega) _, ?_, ?_, ?_⟩
 ·omega
 ·omega
 ·refine ⟨?_, ?_, ?_, ?_, ?_, ?_, ?_, ?_, ?_, ?_, ?_⟩ <;> omega
theorem yW {a : List UInt8} (h : a.length < 44) : gv (a ++ cp 8 1 0) = gv a := by
 unfold gv;have e : cp 8 1 0 = [0] := by decide
 rw [e, List.append_assoc, List.length_append, List.length_singleton]
 congr 1
 rw [show 44 - a.length = (44 - (a.length + 1)) + 1 from by omega, List.replicate_succ]
 rfl
theorem acU {x : Sup} (h : x.ros.gone = true) : gv (cp 8 8 x.id ++ cp 8 1 x.ros.m.toNat ++ cp 8 2 x.ros.s.toNat ++ cp 8 2 x.ros.r.toNat ++ cp 8 1 x.self.toNat ++ cp 8 4 (val 2 x.ros.st.toList) ++ cp 8 2 x.ros.cur.toNat ++ cp 8 1 1) = dN x := by
 unfold dN jZ abp;rw [h];simp only [List.append_assoc, if_true]
theorem ae7 {x : Sup} (h : x.ros.gone = false) : gv (cp 8 8 x.id ++ cp 8 1 x.ros.m.toNat ++ cp 8 2 x.ros.s.toNat ++ cp 8 2 x.ros.r.toNat ++ cp 8 1 x.self.toNat ++ cp 8 4 (val 2 x.ros.st.toList) ++ cp 8 2 x.ros.cur.toNat) = dN x := by
 rw [<- yW (by simp [aS])];unfold dN jZ abp;rw [h];simp only [List.append_assoc, Bool.false_eq_true, if_false]
theorem adl (x : Sup) (w : World) (hid : x.id < 18446744073709551616) (hx : gF x = true) : Calls prog 147 #[sup x] w fun e w' => e = .returned (arr (dN x)) /\ Below w.heap.size w w' := by
 obtain ⟨_, hf, q1, q2⟩ := adF hx;obtain ⟨hgeo, hsta, _, q3, q4, _⟩ := ef hf;obtain ⟨g1, g2, g3, g4, g5, g6⟩ := ed hgeo;have HNAR : Hid (narrow 2 x.ros.st.toList = true) := ae (by
  unfold narrow;rw [List.all_eq_true];intro u hu
  simpa using ur hsta u hu)
 have HSMALL := ae (aed hsta);obtain ⟨M, hM⟩ : ∃ M : Nat, x.ros.m.toNat = M := ⟨_, rfl⟩;obtain ⟨T, hT⟩ : ∃ T : Nat, x.ros.s.toNat = T := ⟨_, rfl⟩;obtain ⟨R, hR⟩ : ∃ R : Nat, x.ros.r.toNat = R := ⟨_, rfl⟩;obtain ⟨E, hE⟩ : ∃ E : Nat, x.self.toNat = E := ⟨_, rfl⟩;obtain ⟨C, hC⟩ : ∃ C : Nat, x.ros.cur.toNat = C := ⟨_, rfl⟩;have HCR : Hid (∀ w' rb, bD w' rb x.ros -> w'.cell? ⟨rb, 0, none⟩ = some (.int .i64 (M : Nat)) /\ w'.cell? ⟨rb, 1, none⟩ = some (.int .i64 (T : Nat)) /\ w'.cell? ⟨rb, 2, none⟩ = some (.int .i64 (R : Nat)) /\ w'.cell? ⟨rb, 19, none⟩ = some (.int .i64 (C : Nat)) /\ w'.cell? ⟨rb, 20, none⟩ = some (.bool x.ros.gone)) := ae fun w' rb h => by
  have := h.cells;rw [show x.ros.m = (M : Int) from by omega, show x.ros.s = (T : Int) from by omega, show x.ros.r = (R : Int) from by omega, show x.ros.cur = (C : Int) from by omega] at this;exact this
 have HCS : Hid (∀ w' sb, cR w' sb x -> w'.cell? ⟨sb, 0, none⟩ = some (.int .u64 x.id) /\ w'.cell? ⟨sb, 1, none⟩ = some (.int .i64 (E : Nat))) := ae fun w' sb h => by
  have := h.cells;rw [show x.self = (E : Int) from by omega] at this;exact ⟨this.1, this.2.1⟩
 have hM16 : M <= 16 := by omega
 have hT64 : T <= 64 := by omega
 have hR256 : R <= 256 := by omega
 have hE16 : E <= 16 := by omega
 have hC64 : C <= 64 := by omega
 have HYES := fun h => ae (acU (x := x) h)
 have HNO := fun h => ae (ae7 (x := x) h)
 rw [hM, hT, hR, hE, hC] at HYES HNO;clear hf q1 q2 hgeo hsta q3 q4 g1 g2 g3 g4 g5 g6 hM hT hR hE hC hx;have hmf : ∀ (fn : Fn) (first cap : Array Value) (w : World), (Instr.makeFunc fn first cap).run prog w = .ok (.func fn first cap) w := fun _ _ _ _ => rfl
 obtain ⟨h1, h2, h3⟩ := pz w x;have HS := ae ((h1.past (.cells (vals z44).toArray 205)).past (.cells (vals z44).toArray 205));have hb2 := h2.alloc h2.size (.cells (vals z44).toArray 205);have HB := ae (hb2.alloc hb2.size (.cells (vals z44).toArray 205));have hr := cC.new (w.alloc (.cells (bz x).toArray 198)) z44 205;rw [World.size_alloc] at hr;have HRES := ae (hr.past (.cells (vals z44).toArray 205));have hg := cC.new ((w.alloc (.cells (bz x).toArray 198)).alloc (.cells (vals z44).toArray 205)) z44 205;rw [World.size_alloc, World.size_alloc] at hg;have HROW := ae hg;clear h1 h2 h3 hb2 hr hg;go_enter func147, ntmps147;go_wp2_with (first | (refine av rfl (jf rfl rfl) ?_) | (refine av rfl (lj rfl) ?_) | (refine av rfl (oR rfl rfl) ?_) | fail)
 try simp only [World.size_alloc]
 generalize ((w.alloc (.cells (bz x).toArray 198)).alloc (.cells (vals z44).toArray 205)).alloc (.cells (vals z44).toArray 205) = w1 at *;refine (pp (.slice (some ⟨w.heap.size + 1 + 1, 0, none⟩) 44 44) _ 44 44 rfl w1).mono ?_;rintro e w2 ⟨p, q, rfl, hc, hp0, hq0, hpq, hp1, hq1, hb⟩;have hsz : w.heap.size + 1 + 1 < w2.heap.size := by have := aT HROW; have := hb.size; omega
 have HS2 := ae ((HS.out.below (aT HS) hb).past (.cells #[kE p q] 214));have HW0 := ae (wQ HS HB HRES HROW hb hc ⟨hp0, hq0, hpq, hp1, hq1⟩);have HR0 : Hid (w.heap.size <= w.heap.size + 1) := ae (Nat.le_succ _);clear hb hc hp0 hq0 hpq hp1 hq1 HS HB HRES HROW;unfold kE at HS2 HW0 ⊢;go_upto_region 5 with (first | (refine av rfl (bf (c := x.ros) rfl rfl ?_) ?_; (with_reducible exact HS2.out.af8)) | (refine av rfl (cJ rfl) ?_) | (refine aG rfl (lc rfl rfl rfl) ?_) | fail)
 try simp only [World.size_alloc]
 generalize ((w2.alloc (.cells #[Value.func (.func 163) #[] #[.pointer (some ⟨p, 0, none⟩), .pointer (some ⟨q, 0, none⟩)]] 214)).alloc (.cells (aX x.ros).toArray 58)) = w3 at *
 try simp only [World.size_alloc]
 generalize w2.heap.size = nb at *;generalize w.heap.size + 1 + 1 = g at *;generalize w.heap.size + 1 = r at *;obtain ⟨B, hBdef⟩ : ∃ B, w.heap.size = B := ⟨_, rfl⟩;have HBD := ae hBdef;rw [hBdef] at HW0 HR0 ⊢;clear hBdef HS2 hsz;obtain ⟨c0, c1⟩ := HCS.out _ _ HW0.out.sup;obtain ⟨d0, d1, d2, d3, d4⟩ := HCR.out _ _ HW0.out.ros;go_wp2_with fail;refine (vT B w w3 x B (nb + 1) r nb p q g _ x.id 8 HW0 (Nat.le_of_eq HBD.out.symm) (by omega) (by omega) (by simp [aS]) (by simpa using hid)).mono ?_;rintro e w4 ⟨rfl, hW⟩;have HW1 := ae hW;clear hW c0 c1 d0 d1 d2 d3 d4 HW0;obtain ⟨c0, c1⟩ := HCS.out _ _ HW1.out.sup;obtain ⟨d0, d1, d2, d3, d4⟩ := HCR.out _ _ HW1.out.ros;go_wp2_with fail;refine (vT B w w4 x B (nb + 1) r nb p q g _ M 1 HW1 (Nat.le_of_eq HBD.out.symm) (by omega) (by omega) (by simp [aS]) (by omega)).mono ?_;rintro e w5 ⟨rfl, hW⟩;have HW2 := ae hW;clear hW c0 c1 d0 d1 d2 d3 d4 HW1;obtain ⟨c0, c1⟩ := HCS.out _ _ HW2.out.sup;obtain ⟨d0, d1, d2, d3, d4⟩ := HCR.out _ _ HW2.out.ros;go_wp2_with fail;refine (vT B w w5 x B (nb + 1) r nb p q g _ T 2 HW2 (Nat.le_of_eq HBD.out.symm) (by omega) (by omega) (by simp [aS]) (by omega)).mono ?_;rintro e w6 ⟨rfl, hW⟩;have HW3 := ae hW;clear hW c0 c1 d0 d1 d2 d3 d4 HW2;obtain ⟨c0, c1⟩ := HCS.out _ _ HW3.out.sup;obtain ⟨d0, d1, d2, d3, d4⟩ := HCR.out _ _ HW3.out.ros;go_wp2_with fail;refine (vT B w w6 x B (nb + 1) r nb p q g _ R 2 HW3 (Nat.le_of_eq HBD.out.symm) (by omega) (by omega) (by simp [aS]) (by omega)).mono ?_;rintro e w7 ⟨rfl, hW⟩;have HW4 := ae hW;clear hW c0 c1 d0 d1 d2 d3 d4 HW3;obtain ⟨c0, c1⟩ := HCS.out _ _ HW4.out.sup;obtain ⟨d0, d1, d2, d3, d4⟩ := HCR.out _ _ HW4.out.ros;go_wp2_with fail;refine (vT B w w7 x B (nb + 1) r nb p q g _ E 1 HW4 (Nat.le_of_eq HBD.out.symm) (by omega) (by omega) (by simp [aS]) (by omega)).mono ?_;rintro e w8 ⟨rfl, hW⟩;have HW5 := ae hW;clear hW c0 c1 d0 d1 d2 d3 d4 HW4;have HRD := ae HW5.out.ros.ajq;go_wp2_with (first | (refine av rfl (kR rfl rfl) ?_) | fail);refine (aes _ 16 16 _ 2 _ x.ros.st.toList w8 (ae rfl) HRD aj (by omega) (by omega) (by omega) HNAR).mono ?_;rintro e w9 ⟨v, rfl, hv, hb⟩;rw [show bytesOf 16 2 = 4 from rfl] at hv;have hvm := hv.made;obtain ⟨A, c, rfl, _, _, _⟩ := hvm.open_ (aS 8 4 _);have HV := ae hvm;have HW6 := ae (HW5.out.keep hb (Nat.le_of_eq HBD.out.symm));have HPP := ae (aT HW5.out.cut.1);have n0 := (cell1 HW6.out.nxt).1;unfold kE at n0;clear hv hvm hb HRD HW5;go_wp2_with fail;refine (aew p q g 0 44 44 _ 4 w9 HW6.out.cut HW6.out.dif.2.2.2.2.2.2.2.2.1 (by omega) (by simp [aS]) aj (by omega)).mono ?_;rintro e w10 ⟨rfl, hc2, hg2⟩;clear n0;have HC2 := ae hc2;have HG2 := ae hg2;have HROW2 := ae (ci HW6.out.row hg2 (fun e => HW6.out.dif.2.2.2.2.2.2.2.2.2.1 e.symm));have HRD2 : Hid (Rd w10 w10.heap.size A 4 (cp 8 4 (val 2 x.ros.st.toList))) := ae (by
  have := (HV.out.afF hg2 (fun j hj => by injection hj with e; have := HPP.out; omega)).rd;exact this)
 clear hc2 hg2;obtain ⟨a, ha⟩ : ∃ a, [] ++ cp 8 8 x.id ++ cp 8 1 M ++ cp 8 2 T ++ cp 8 2 R ++ cp 8 1 E = a := ⟨_, rfl⟩;have hal : a.length = 14 := by rw [<- ha]; simp [aS]
 rw [ha] at HC2 HROW2 HW6;have HA := ae ha;have HAL := ae hal;clear ha;rw [hal] at HC2;go_wp2_with (first | (refine eR rfl _ _ rfl g 14 4 4 4 c _ A 205 (gv a) (cp 8 4 (val 2 x.ros.st.toList)) rfl rfl HROW2 HRD2 aj ?_ ?_) | fail)
 ·rw [fv (by omega)]; omega
 intro w11 hr3 hg3;rw [<- hal, pd (by rw [hal, aS]; omega)] at hr3;have hdf := HW6.out.dif;have hc3 : kh w11 p q (.slice (some ⟨g, 0, none⟩) 44 44) (a ++ cp 8 4 (val 2 x.ros.st.toList)).length := by
  rw [List.length_append, aS, hal];exact ⟨ci HC2.out.1 hg3 hdf.2.2.2.2.2.2.2.2.2.1, ci HC2.out.2 hg3 hdf.2.2.2.2.2.2.2.2.2.2⟩
 have HW7 := ae (HW6.out.aic hc3 hr3 ⟨w10, HG2, hg3⟩ (Nat.le_of_eq HBD.out.symm));clear hr3 hg3 hdf hc3 HW6 HC2 HG2 HROW2 HRD2 HV HPP;obtain ⟨d0, d1, d2, d3, d4⟩ := HCR.out _ _ HW7.out.ros;go_wp2_with fail;refine (vT B w w11 x B (nb + 1) r nb p q g _ C 2 HW7 (Nat.le_of_eq HBD.out.symm) (by omega) (by omega) (by rw [List.length_append, aS]; omega) (by omega)).mono ?_;rintro e w12 ⟨rfl, hW⟩;have HW8 := ae hW;clear hW d0 d1 d2 d3 d4 HW7;have d4 := (HCR.out _ _ HW8.out.ros).2.2.2.2;cases hgn : x.ros.gone
 ·have HF := HNO hgn;rw [hgn] at d4;have HL := ae HW8.out.row;rw [<- HA.out] at HL;simp only [List.nil_append] at HL;rw [HF.out] at HL;have HLR := ae (aP HL);have HTH := ae (dQ (o := 0) (n := 44) HW8.out.res (by rw [bi]; exact aj));have HBB := ae HW8.out.bel;have HFL := ae (df x);clear HYES HNO HF hgn;go_wp2_with (first | (refine av rfl (iC HFL.out rfl rfl ?_) ?_; (with_reducible exact HLR.out)) | (refine aG rfl (fR (cs := vals (dN x)) ?k1 (ja _) rfl rfl rfl ?k2) ?_; (case k1 => rw [bi, HFL.out]; exact mL); (case k2 => rw [bi, HFL.out]; exact HTH.out)) | fail);refine bodyPost_ret (nD (t := 205) (cs := vals (dN x)) rfl _ _ r rfl ?h1 underlying205 rfl ?h2) rfl ⟨rfl, ?h3⟩
  case h1 => exact World.rangeAt_setCells_same _ _ _ _ (by rw [bi, HFL.out]; exact HTH)
  case h2 => rw [bi, HFL.out]; exact mL
  case h3 => rw [HBD.out]; exact below_setCells HBB HR0 _
 ·have HF := HYES hgn;rw [hgn] at d4;go_wp2_with fail;refine (vT B w w12 x B (nb + 1) r nb p q g _ 1 1 HW8 (Nat.le_of_eq HBD.out.symm) (by omega) (by omega) (by rw [List.length_append, List.length_append, aS, aS]; have := HAL.out; omega) (by omega)).mono ?_;rintro e w13 ⟨rfl, hW⟩;have HW9 := ae hW;clear hW d4 HW8;have HL := ae HW9.out.row;rw [<- HA.out] at HL;simp only [List.nil_append] at HL;rw [HF.out] at HL;have HLR := ae (aP HL);have HTH := ae (dQ (o := 0) (n := 44) HW9.out.res (by rw [bi]; exact aj));have HBB := ae HW9.out.bel;have HFL := ae (df x);clear HYES HNO HF hgn;go_wp2_with (first | (refine av rfl (iC HFL.out rfl rfl ?_) ?_; (with_reducible exact HLR.out)) | (refine aG rfl (fR (cs := vals (dN x)) ?k1 (ja _) rfl rfl rfl ?k2) ?_; (case k1 => rw [bi, HFL.out]; exact mL); (case k2 => rw [bi, HFL.out]; exact HTH.out)) | fail);refine bodyPost_ret (nD (t := 205) (cs := vals (dN x)) rfl _ _ r rfl ?h1 underlying205 rfl ?h2) rfl ⟨rfl, ?h3⟩
  case h1 => exact World.rangeAt_setCells_same _ _ _ _ (by rw [bi, HFL.out]; exact HTH)
  case h2 => rw [bi, HFL.out]; exact mL
  case h3 => rw [HBD.out]; exact below_setCells HBB HR0 _
theorem tS (y : Ros) (j : Nat) (v : Value) : (vals y.st.toList ++ [Value.int .i64 y.cur, Value.bool y.gone]).set (16 + j) v = vals y.st.toList ++ [Value.int .i64 y.cur, Value.bool y.gone].set j v := by
 rw [List.set_append_right _ _ (by simp [bi])]
 congr 2
 simp [bi]
theorem xR (id : Nat) (self m s r : Int) (st : Vector UInt8 16) (cur : Int) (gone : Bool) : bz ⟨id, self, ⟨m, s, r, st, cur, gone⟩⟩ = Value.int .u64 id :: Value.int .i64 self :: Value.int .i64 m :: Value.int .i64 s :: Value.int .i64 r :: (vals st.toList ++ [Value.int .i64 cur, Value.bool gone]) := rfl
section
variable (y : Sup)
theorem ad3 (n : Nat) : (bz y).set 0 (.int .u64 n) = bz { y with id := n } := rfl
theorem aad (n : Int) : (bz y).set 1 (.int .i64 n) = bz { y with self := n } := rfl
theorem agc (n : Int) : (bz y).set 2 (.int .i64 n) = bz { y with ros := { y.ros with m := n } } := rfl
theorem ahc (n : Int) : (bz y).set 3 (.int .i64 n) = bz { y with ros := { y.ros with s := n } } := rfl
theorem agZ (n : Int) : (bz y).set 4 (.int .i64 n) = bz { y with ros := { y.ros with r := n } } := rfl
theorem aba (n : Int) : (bz y).set 21 (.int .i64 n) = bz { y with ros := { y.ros with cur := n } } := by
 show Value.int .u64 y.id :: Value.int .i64 y.self :: Value.int .i64 y.ros.m :: Value.int .i64 y.ros.s :: Value.int .i64 y.ros.r :: (vals y.ros.st.toList ++ [Value.int .i64 y.ros.cur, Value.bool y.ros.gone]).set (16 + 0) (.int .i64 n) = _
 rw [tS]
 rfl
theorem aar (b : Bool) : (bz y).set 22 (.bool b) = bz { y with ros := { y.ros with gone := b } } := by
 show Value.int .u64 y.id :: Value.int .i64 y.self :: Value.int .i64 y.ros.m :: Value.int .i64 y.ros.s :: Value.int .i64 y.ros.r :: (vals y.ros.st.toList ++ [Value.int .i64 y.ros.cur, Value.bool y.ros.gone]).set (16 + 1) (.bool b) = _
 rw [tS]
 rfl
theorem adz {l : List UInt8} (h : l.length = 16) : splice (bz y) 5 (vals l) = bz { y with ros := { y.ros with st := sn l } } := by
 obtain ⟨id, self, m, s, r, st, cur, gone⟩ := y
 show splice (bz ⟨id, self, ⟨m, s, r, st, cur, gone⟩⟩) 5 (vals l) = bz ⟨id, self, ⟨m, s, r, sn l, cur, gone⟩⟩
 have h2 : (vals st.toList).length = 16 := by simp [bi]
 rw [xR, xR, uX h];generalize vals st.toList = z at *;unfold splice;rw [bi, h, show 5 + 16 = 16 + 1 + 1 + 1 + 1 + 1 from rfl];simp only [List.drop_succ_cons, List.take_succ_cons, List.take_zero];rw [List.drop_append_of_le_length (by omega), List.drop_of_length_le (by omega)]
 rfl
end
theorem cR.set {w : World} {s j : Nat} {y y' : Sup} {v : Value} (h : cR w s y) (e : (bz y).set j v = bz y') : cR (w.setCell ⟨s, j, none⟩ v) s y' := by
 have := heap_setCell_same w s j (bz y).toArray 198 v h;rw [List.setIfInBounds_toArray, e] at this;exact this
theorem cR.free {w : World} {s : Nat} {y : Sup} (h : cR w s y) (j : Nat) : w.frozen? ⟨s, j, none⟩ = false := frozen_of_row w s j _ _ h
theorem ry {w : World} {ops : Array Oper} {rest : List Oper} {o : Oper} {a : Act} {Q : Exit -> Act -> World -> Prop} (hgd : o.guard = none) (d s : Operand)
  (ho : o.op = .call { callee := .builtin .copy, args := #[d, s], argTypes := #[208, 208] }) (g off n c c' N : Nat) (A : Option Addr) (t : TypeId) (cs : List Value) (x : List UInt8)
  (hd : a.eval d = .slice (some ⟨g, off, none⟩) n c) (hs : a.eval s = .slice A n c') (hS : w.heap[g]? = some (.cells cs.toArray t (0, 0))) (hr : Rd w N A n x) (hn : 0 < n) (hfit : off + n <= cs.length)
  (h : ∀ w', w'.heap[g]? = some (.cells (splice cs off (vals x)).toArray t (0, 0)) -> w.grownBy w' (some g) -> wpList prog ops Q rest (a.put o.dst (goInt n)) w') : wpList prog ops Q (o :: rest) a w := by
 have hx := hr.1;obtain ⟨ad, rfl⟩ : ∃ ad, A = some ad := by
  obtain ⟨b, off, e, _⟩ := hr.2 0 hn;exact ⟨_, e⟩
 have hcl : (vals x).length = n := by rw [bi, hx]
 refine wpList_copy_own hgd d s _ _ ho 5 underlying208 (by kernel_rfl) g off n c ad n c' hd hs _ t hS (vals x) (by rw [hcl]; exact (Nat.min_self n).symm) (fun j v hj => ?_) (by simp [hcl]; omega) (ja x) ?_
 ·have hlt : j < n := by have := (List.getElem?_eq_some_iff.1 hj).1; omega
  obtain ⟨b, o2, e, _, hc⟩ := hr.2 j hlt;injection e with e;subst e;rw [Addr.add_mid, hc, <- hj, iD (by omega)]
 ·have hrow := setRow_heap w g cs.toArray (cs.toArray.toList.take off ++ (vals x ++ cs.toArray.toList.drop (off + (vals x).length))).toArray t (0, 0) hS;have e : cs.toArray.toList.take off ++ (vals x ++ cs.toArray.toList.drop (off + (vals x).length)) = splice cs off (vals x) := rfl;rw [hcl];rw [hcl] at hrow e;refine h _ ?_ ⟨rfl, rfl, rfl, by simp [World.setRow], fun k hk hne => setRow_other w g k _ (fun e => hne (by rw [e]))⟩;rw [e] at hrow ⊢;exact hrow
structure gQ (B : Nat) (w0 w : World) (g : Nat) (l : List UInt8) (s r nb p q k : Nat) (y : Sup) : Prop where
 row : cC w g 5 l
 sup : cR w s y
 res : cR w r cv
 nxt : w.heap[nb]? = some (.cells #[kE p q] 214 (0, 0))
 cut : kh w p q (.slice (some ⟨g, 0, none⟩) 44 44) k
 bel : Below B w0 w
 p0 : B <= p
 s0 : B <= s
 dif : g ≠ p /\ s ≠ p /\ r ≠ p /\ nb ≠ p /\ p ≠ q /\ g ≠ s /\ r ≠ s /\ nb ≠ s /\ p ≠ s /\ q ≠ s
section
variable {B : Nat} {w0 w w' : World} {g s r nb p q k k' : Nat} {l : List UInt8} {y y' : Sup}
theorem gQ.keep (h : gQ B w0 w g l s r nb p q k y) (hb : Below w.heap.size w w') (hB : B <= w0.heap.size) : gQ B w0 w' g l s r nb p q k y :=
 ⟨aB h.row hb, aB h.sup hb, aB h.res hb, aB h.nxt hb, ⟨aB h.cut.1 hb, aB h.cut.2 hb⟩, h.bel.trans (hb.mono (aq hB h.bel.size)), h.p0, h.s0, h.dif⟩
theorem gQ.step (h : gQ B w0 w g l s r nb p q k y) (hc : kh w' p q (.slice (some ⟨g, 0, none⟩) 44 44) k') (hg : w.grownBy w' (some p)) (hB : B <= w0.heap.size) : gQ B w0 w' g l s r nb p q k' y := by
 obtain ⟨d1, d2, d3, d4, d5, d6, d7, d8, d9, d10⟩ := h.dif;exact ⟨ci h.row hg d1, ci h.sup hg d2, ci h.res hg d3, ci h.nxt hg d4, hc, h.bel.grown hg (aq hB h.bel.size) (fun k hk => by injection hk with e; have := h.p0; omega), h.p0, h.s0, h.dif⟩
theorem gQ.put (h : gQ B w0 w g l s r nb p q k y) (hs : cR w' s y') (hg : w.grownBy w' (some s)) (hB : B <= w0.heap.size) : gQ B w0 w' g l s r nb p q k y' := by
 obtain ⟨d1, d2, d3, d4, d5, d6, d7, d8, d9, d10⟩ := h.dif;exact ⟨ci h.row hg d6, hs, ci h.res hg d7, ci h.nxt hg d8, ⟨ci h.cut.1 hg d9, ci h.cut.2 hg d10⟩, h.bel.grown hg (aq hB h.bel.size) (fun k hk => by injection hk with e; have := h.s0; omega), h.p0, h.s0, h.dif⟩
theorem gQ.set (h : gQ B w0 w g l s r nb p q k y) (j : Nat) (v : Value) (e : (bz y).set j v = bz y') (hB : B <= w0.heap.size) : gQ B w0 (w.setCell ⟨s, j, none⟩ v) g l s r nb p q k y' :=
 h.put (h.sup.set e) (qV w s j v) hB
end
theorem oK (B : Nat) (w0 w : World) (g : Nat) (l : List UInt8) (s r nb p q k n : Nat) (y : Sup) (h : gQ B w0 w g l s r nb p q k y) (hB : B <= w0.heap.size) (hl : l.length = 44) (h1 : 1 <= n) (h2 : n <= 8) (hk : k + n <= 44) :
  Calls prog 176 #[.int .i64 n, .pointer (some ⟨nb, 0, none⟩)] w fun e w' => e = .returned (.int .u64 (val 8 (piece l k n) : Nat)) /\ gQ B w0 w' g l s r nb p q (k + n) y := by
 have HH := ae h;have HL := ae hl;have HP := ae (l8 (b := piece l k n) (n := n) (dM (by omega)));have c0 := (cell1 h.nxt).1;unfold kE at c0;clear h hl;go_enter func176, ntmps176;go_wp2_with fail;refine (aew p q g 0 44 44 k n w HH.out.cut HH.out.dif.2.2.2.2.1 h1 hk aj (by omega)).mono ?_;rintro e w1 ⟨rfl, hc, hg⟩;have H1 := ae (HH.out.step hc hg hB);clear hc hg c0 HH;have HRD := ae (H1.out.row.rd (p := k) (k := n) (by rw [HL.out]; omega));go_wp2_with fail;refine (abB _ n n _ (piece l k n) 0 n w1 HRD (by unfold maxLen; omega) h1 h2 (by omega)).mono ?_;rintro e w2 ⟨rfl, rfl⟩;rw [HP.out];obtain ⟨v, hv⟩ : ∃ v, val 8 (piece l k n) = v := ⟨_, rfl⟩;rw [hv];have HV := ae hv;clear hv;go_wp2_with fail;go_ret;exact ⟨by rw [HV.out]; rfl, H1⟩
def Bod (w : World) (B : Nat) (v : Value) (l : List UInt8) : Prop := (v = .slice none 0 0 /\ l = []) \/ ∃ g, v = .slice (some ⟨g, 0, none⟩) l.length l.length /\ B <= g /\ cC w g 5 l /\ l.length <= maxLen
structure adG (B : Nat) (w w' : World) (g p : Nat) (l : List UInt8) : Prop where
 row : cC w' g 44 l
 par : PartsAt w' p g
 bel : Below B w w'
 tab : Tab w'
theorem adG.below {B : Nat} {w w1 w2 : World} {g p : Nat} {l : List UInt8} (h : adG B w w1 g p l) (hb : Below w1.heap.size w1 w2) (hB : B <= w.heap.size) : adG B w w2 g p l :=
 ⟨h.row.below h.row.lt hb, h.par.below (aT h.par) hb, h.bel.trans (hb.mono (aq hB h.bel.size)), h.tab.below hb⟩
theorem jl (w w1 : World) (b : Blk) (hbA : Below w.heap.size w (w.alloc (.cells (cel b).toArray 44))) (hT : Tab (w.alloc (.cells (cel b).toArray 44))) (hb : Below (w.alloc (.cells (cel b).toArray 44)).heap.size (w.alloc (.cells (cel b).toArray 44)) w1) :
  adG w.heap.size w (w1.alloc (.cells (fP w.heap.size) 221)) w.heap.size w1.heap.size b.toList := by
 have hs := hb.size;simp only [World.size_alloc] at hs;have hr : cC w1 w.heap.size 44 b.toList := (cC.blk w b 44).below (by simp only [World.size_alloc]; omega) hb;have hbel : Below w.heap.size w w1 := hbA.trans (hb.mono (by simp only [World.size_alloc]; omega));exact ⟨hr.past _, heap_alloc_new w1 _, hbel.alloc (by omega) _, (hT.below hb).below (ak.alloc aj _)⟩
theorem nW {W w' : World} {g : Nat} {t : TypeId} {l : List UInt8} (h : cC W g t l) (hb : Below W.heap.size W w') (off k : Nat) (hk : off + k <= l.length) (h1 : 1 <= k) (h8 : k <= 8) :
  Calls prog 175 #[.slice (some ⟨g, off, none⟩) k k] w' fun e w'' => e = .returned (.int .u64 (val 8 (piece l off k) : Nat)) /\ Below w'.heap.size w' w'' :=
 (f6 _ k k _ _ w' ((h.below h.lt hb).rd hk) h1 h8).mono fun e w'' ⟨he, hw⟩ => ⟨he, by subst hw; exact ak⟩
theorem tW {W w' : World} {g : Nat} {t : TypeId} {l : List UInt8} (h : cC W g t l) (T : Tab W) (hb : Below W.heap.size W w') (off k : Nat) (hk : off + k <= l.length) (hm : k <= maxLen) :
  Calls prog 158 #[.slice (some ⟨g, off, none⟩) k k] w' fun e w'' => e = .returned (.int .u32 (more 0 (piece l off k) : Nat)) /\ Below w'.heap.size w' w'' :=
 (aa4 _ k k _ _ w' (T.below hb) ((h.below h.lt hb).rd hk) hm).mono fun e w'' ⟨he, hw⟩ => ⟨he, by subst hw; exact ak⟩
theorem uu {ρ : Operand -> Value} {o : Oper} {x y : Operand} {w : World} {t r : TypeId} {a b : Nat} (c : Bool) (ho : o.op = .binOp .neq t x y r) (hx : ρ x = .int .u64 (a : Int)) (hy : ρ y = .int .u64 (b : Int)) (h : ((a : Int) != (b : Int)) = c) : (execOp ρ o).run prog w = .ok (.value (.bool c)) w := aJ c ho hx hy h
theorem wT (l : List UInt8) (n : Nat) (h : l.length = n) : splice (List.replicate n 0) 0 l = l := by
 subst h;simp [splice]
def ye : List UInt8 := List.replicate 44 0
theorem yU {l : List UInt8} (h : l.length = 44) : splice ye 0 l = l := wT l 44 h
def yi : Array Value := (vals (List.replicate 44 0)).toArray
theorem ahf (w : World) : (Instr.makeSlice 208 (.int .i64 44) (.int .i64 44)).run prog w = .ok (.slice (some ⟨w.heap.size, 0, none⟩) 44 44) (w.alloc (.cells yi 5)) := by kernel_rfl
theorem zN (b : Blk) (B : Nat) (w : World) (HB : Hid (B = w.heap.size)) (T : Tab w) (h0 : il b.toList = 0) :
  Calls prog 171 #[blk b] w fun e w' => ∃ v, e = .returned (.tuple #[.int .u64 (g7 b.toList : Nat), v, .int .i64 (fd b.toList : Nat)]) /\ Bod w' B v (eC b.toList) /\ Below B w w' := by
 have hA := cC.blk w b 44;have hbA := (Below.refl w.heap.size w).alloc aj (.cells (cel b).toArray 44);have HTA := ae (T.below hbA);have HA := ae hA;have HBA := ae hbA;have HL := ae (fU b);have hE := qy (.inl h0);have HE := ae hE;have HN := ae (rX (l := b.toList) (by omega));have HBB := ae (sc (l := b.toList) (by omega));have HX : Hid (val 8 (piece b.toList 0 8) = 0) := ae h0;clear hE h0;clear hA hbA T;go_enter func171, ntmps171;go_wp2_with (first | (refine ay rfl (cP rfl rfl) ?_) | fail);refine (lv w.heap.size _).mono ?_;rintro e w1 ⟨rfl, hb1⟩;have HG := ae (jl w w1 b HBA HTA hb1);clear HTA HA HBA hb1;obtain ⟨g, hg⟩ : ∃ g, w.heap.size = g := ⟨_, rfl⟩;have HGE := ae (Nat.le_of_eq hg.symm);rw [hg] at HG HB;rw [hg];clear hg;obtain ⟨c0, c1, c2, c3, c4⟩ := HG.out.par.cells;go_wp2_with (first | (refine bK rfl (gZ g rfl rfl rfl) ?_) | fail);clear c0 c1 c2 c3 c4;generalize w1.heap.size = p at *;generalize w1.alloc (.cells (fP g) 221) = w2 at *;obtain ⟨c0, c1, c2, c3, c4⟩ := HG.out.par.cells;have hr0 := HG.out.row.rd (p := 0) (k := 8) (by rw [HL.out]; omega);refine (f6 _ 8 8 _ _ _ hr0 (by omega) (by omega)).mono ?_;rintro e w3 ⟨rfl, rfl⟩;clear hr0;rw [HX.out];go_wp2_with fail;refine bodyPost_ret (v := .tuple #[.int .u64 0, .slice none 0 0, .int .i64 5]) (by simp [results, Tryz.results171, go_sem]) rfl ⟨_, by rw [HE.out, HN.out]; rfl, .inl ⟨rfl, HBB⟩, by rw [HB.out]; exact HG.out.bel⟩
theorem tZ (b : Blk) (B : Nat) (w : World) (HB : Hid (B = w.heap.size)) (T : Tab w) (h0 : il b.toList ≠ 0) (h1 : il b.toList ≠ agO b.toList) :
  Calls prog 171 #[blk b] w fun e w' => ∃ v, e = .returned (.tuple #[.int .u64 (g7 b.toList : Nat), v, .int .i64 (fd b.toList : Nat)]) /\ Bod w' B v (eC b.toList) /\ Below B w w' := by
 have hA := cC.blk w b 44;have hbA := (Below.refl w.heap.size w).alloc aj (.cells (cel b).toArray 44);have HTA := ae (T.below hbA);have HA := ae hA;have HBA := ae hbA;have HL := ae (fU b);have hE := qy (.inr h1);have HE := ae hE;have HN := ae (rX (l := b.toList) (by omega));have HBB := ae (sc (l := b.toList) (by omega));obtain ⟨x, hx⟩ : ∃ x, il b.toList = x := ⟨_, rfl⟩;obtain ⟨y, hy⟩ : ∃ y, agO b.toList = y := ⟨_, rfl⟩;rw [hx] at h0 h1;rw [hy] at h1;have hz : ((x : Int) == 0) = false := by simp; omega
 have hn : ((x : Int) != (y : Int)) = true := by simp; omega
 have HX : Hid (val 8 (piece b.toList 0 8) = x) := ae hx;have HY : Hid (val 8 (piece b.toList 56 8) = y) := ae hy;clear hE h0 h1 hx hy;clear hA hbA T;go_enter func171, ntmps171;go_wp2_with (first | (refine ay rfl (cP rfl rfl) ?_) | fail);refine (lv w.heap.size _).mono ?_;rintro e w1 ⟨rfl, hb1⟩;have HG := ae (jl w w1 b HBA HTA hb1);clear HTA HA HBA hb1;obtain ⟨g, hg⟩ : ∃ g, w.heap.size = g := ⟨_, rfl⟩;have HGE := ae (Nat.le_of_eq hg.symm);rw [hg] at HG HB;rw [hg];clear hg;obtain ⟨c0, c1, c2, c3, c4⟩ := HG.out.par.cells;go_wp2_with (first | (refine bK rfl (gZ g rfl rfl rfl) ?_) | fail);clear c0 c1 c2 c3 c4;generalize w1.heap.size = p at *;generalize w1.alloc (.cells (fP g) 221) = w2 at *;obtain ⟨c0, c1, c2, c3, c4⟩ := HG.out.par.cells;have hr0 := HG.out.row.rd (p := 0) (k := 8) (by rw [HL.out]; omega);refine (f6 _ 8 8 _ _ _ hr0 (by omega) (by omega)).mono ?_;rintro e w3 ⟨rfl, rfl⟩;clear hr0;rw [HX.out];go_wp2_with fail;have hr3 := HG.out.row.rd (p := 56) (k := 8) (by rw [HL.out]; omega);refine (f6 _ 8 8 _ _ _ hr3 (by omega) (by omega)).mono ?_;rintro e w3 ⟨rfl, rfl⟩;clear hr3;rw [HY.out];go_wp2_with fail;refine bodyPost_ret (v := .tuple #[.int .u64 0, .slice none 0 0, .int .i64 5]) (by simp [results, Tryz.results171, go_sem]) rfl ⟨_, by rw [HE.out, HN.out]; rfl, .inl ⟨rfl, HBB⟩, by rw [HB.out]; exact HG.out.bel⟩
theorem aco (b : Blk) (B : Nat) (w : World) (HB : Hid (B = w.heap.size)) (T : Tab w) (h0 : il b.toList ≠ 0) (h1 : il b.toList = agO b.toList) (h2 : rW b.toList ≠ rT b.toList) :
  Calls prog 171 #[blk b] w fun e w' => ∃ v, e = .returned (.tuple #[.int .u64 (g7 b.toList : Nat), v, .int .i64 (fd b.toList : Nat)]) /\ Bod w' B v (eC b.toList) /\ Below B w w' := by
 have hA := cC.blk w b 44;have hbA := (Below.refl w.heap.size w).alloc aj (.cells (cel b).toArray 44);have HTA := ae (T.below hbA);have HA := ae hA;have HBA := ae hbA;have HL := ae (fU b);have hE := aaG h0 h1 h2;have HE := ae hE;have HN := ae (rX (l := b.toList) (by omega));have HBB := ae (sc (l := b.toList) (by omega));obtain ⟨x, hx⟩ : ∃ x, il b.toList = x := ⟨_, rfl⟩;rw [hx] at h0;have HX : Hid (val 8 (piece b.toList 0 8) = x) := ae hx;have HY : Hid (val 8 (piece b.toList 56 8) = x) := ae (by rw [<- hx]; exact h1.symm);have HS4 := ae (yt (fU b));have HCL := ae (xV b.toList);have hz : ((x : Int) == 0) = false := by simp; omega
 have hn : ((x : Int) != (x : Int)) = false := by simp
 have hc : ((rW b.toList : Nat) : Int) != ((rT b.toList : Nat) : Int) := by simp; omega
 clear hE h0 h1 hx h2;clear hA hbA T;go_enter func171, ntmps171;go_wp2_with (first | (refine ay rfl (cP rfl rfl) ?_) | fail);refine (lv w.heap.size _).mono ?_;rintro e w1 ⟨rfl, hb1⟩;have HG := ae (jl w w1 b HBA HTA hb1);clear HTA HA HBA hb1;obtain ⟨g, hg⟩ : ∃ g, w.heap.size = g := ⟨_, rfl⟩;have HGE := ae (Nat.le_of_eq hg.symm);rw [hg] at HG HB;rw [hg];clear hg;obtain ⟨c0, c1, c2, c3, c4⟩ := HG.out.par.cells;go_wp2_with (first | (refine bK rfl (gZ g rfl rfl rfl) ?_) | fail);clear c0 c1 c2 c3 c4;generalize w1.heap.size = p at *;generalize w1.alloc (.cells (fP g) 221) = w2 at *;obtain ⟨c0, c1, c2, c3, c4⟩ := HG.out.par.cells;have hr0 := HG.out.row.rd (p := 0) (k := 8) (by rw [HL.out]; omega);refine (f6 _ 8 8 _ _ _ hr0 (by omega) (by omega)).mono ?_;rintro e w3 ⟨rfl, rfl⟩;clear hr0;rw [HX.out];go_wp2_with fail;have hr3 := HG.out.row.rd (p := 56) (k := 8) (by rw [HL.out]; omega);refine (f6 _ 8 8 _ _ _ hr3 (by omega) (by omega)).mono ?_;rintro e w3 ⟨rfl, rfl⟩;clear hr3;rw [HY.out];go_wp2_with fail;clear c0 c1 c2 c3 c4;have hle : w2.heap.size <= w2.heap.size := aj;refine aR (B := w2.heap.size) (by kernel_rfl) ?_;refine ajJ (fun _ hw => ax rfl ajL agt) ?_;refine ajJ (fun _ hw => aC rfl ajL (ldS (HG.out.par.below (aT HG.out.par) hw).cells.2.2.1)) ?_;refine bO rfl (fun _ => aA call175 rfl (evc ajL evn)) (bw hle fun _ hw => nW HG.out.row hw 52 4 (by rw [HL.out]; omega) (by omega) (by omega)) ?_;simp only [aa];refine ajJ (fun _ hw => ax rfl ajL agU) ?_;refine ajJ (fun _ hw => aC rfl ajL (ldS (HG.out.par.below (aT HG.out.par) hw).cells.2.2.2.2)) ?_;refine bO rfl (fun _ => aA call158 rfl (evc ajL evn)) (bw hle fun _ hw => tW HG.out.row HG.out.tab hw 0 52 (by rw [HL.out]; omega) (by unfold maxLen; omega)) ?_;simp only [aa];refine ajJ (fun _ hw => mQ rfl ajL HCL) ?_;refine ajJ (fun _ hw => uu true rfl ajL ajL hc) ?_;refine wpQuiet_nil ?_;intro w3 hb3;have HG3 := ae (HG.out.below hb3 HGE);clear hb3 HG;go_wp2_with fail;refine bodyPost_ret (v := .tuple #[.int .u64 0, .slice none 0 0, .int .i64 6]) (by simp [results, Tryz.results171, go_sem]) rfl ⟨_, by rw [HE.out, HN.out]; rfl, .inl ⟨rfl, HBB⟩, by rw [HB.out]; exact HG3.out.bel⟩
theorem adV (b : Blk) (B : Nat) (w : World) (HB : Hid (B = w.heap.size)) (T : Tab w) (h0 : il b.toList ≠ 0) (h1 : il b.toList = agO b.toList) (h2 : rW b.toList = rT b.toList) :
  Calls prog 171 #[blk b] w fun e w' => ∃ v, e = .returned (.tuple #[.int .u64 (g7 b.toList : Nat), v, .int .i64 (fd b.toList : Nat)]) /\ Bod w' B v (eC b.toList) /\ Below B w w' := by
 have hA := cC.blk w b 44;have hbA := (Below.refl w.heap.size w).alloc aj (.cells (cel b).toArray 44);have HTA := ae (T.below hbA);have HA := ae hA;have HBA := ae hbA;have HL := ae (fU b);have hE := aep h0 h1 h2;have HE := ae hE;have HN := ae (ad0 hE);have HBB := ae (xl hE);obtain ⟨x, hx⟩ : ∃ x, il b.toList = x := ⟨_, rfl⟩;rw [hx] at h0;have HX : Hid (val 8 (piece b.toList 0 8) = x) := ae hx;have HY : Hid (val 8 (piece b.toList 56 8) = x) := ae (by rw [<- hx]; exact h1.symm);have HS4 := ae (yt (fU b));have HCL := ae (xV b.toList);have hz : ((x : Int) == 0) = false := by simp; omega
 have hn : ((x : Int) != (x : Int)) = false := by simp
 have hc : (((rW b.toList : Nat) : Int) != ((rT b.toList : Nat) : Int)) = false := by rw [h2]; simp
 have HXX := ae hx;clear hE h0 h1 hx h2;clear hA hbA T;go_enter func171, ntmps171;go_wp2_with (first | (refine ay rfl (cP rfl rfl) ?_) | fail);refine (lv w.heap.size _).mono ?_;rintro e w1 ⟨rfl, hb1⟩;have HG := ae (jl w w1 b HBA HTA hb1);clear HTA HA HBA hb1;obtain ⟨g, hg⟩ : ∃ g, w.heap.size = g := ⟨_, rfl⟩;have HGE := ae (Nat.le_of_eq hg.symm);rw [hg] at HG HB;rw [hg];clear hg;obtain ⟨c0, c1, c2, c3, c4⟩ := HG.out.par.cells;go_wp2_with (first | (refine bK rfl (gZ g rfl rfl rfl) ?_) | fail);clear c0 c1 c2 c3 c4;generalize w1.heap.size = p at *;generalize w1.alloc (.cells (fP g) 221) = w2 at *;obtain ⟨c0, c1, c2, c3, c4⟩ := HG.out.par.cells;have hr0 := HG.out.row.rd (p := 0) (k := 8) (by rw [HL.out]; omega);refine (f6 _ 8 8 _ _ _ hr0 (by omega) (by omega)).mono ?_;rintro e w3 ⟨rfl, rfl⟩;clear hr0;rw [HX.out];go_wp2_with fail;have hr3 := HG.out.row.rd (p := 56) (k := 8) (by rw [HL.out]; omega);refine (f6 _ 8 8 _ _ _ hr3 (by omega) (by omega)).mono ?_;rintro e w3 ⟨rfl, rfl⟩;clear hr3;rw [HY.out];go_wp2_with fail;clear c0 c1 c2 c3 c4;have hle : w2.heap.size <= w2.heap.size := aj;refine aR (B := w2.heap.size) (by kernel_rfl) ?_;refine ajJ (fun _ hw => ax rfl ajL agt) ?_;refine ajJ (fun _ hw => aC rfl ajL (ldS (HG.out.par.below (aT HG.out.par) hw).cells.2.2.1)) ?_;refine bO rfl (fun _ => aA call175 rfl (evc ajL evn)) (bw hle fun _ hw => nW HG.out.row hw 52 4 (by rw [HL.out]; omega) (by omega) (by omega)) ?_;simp only [aa];refine ajJ (fun _ hw => ax rfl ajL agU) ?_;refine ajJ (fun _ hw => aC rfl ajL (ldS (HG.out.par.below (aT HG.out.par) hw).cells.2.2.2.2)) ?_;refine bO rfl (fun _ => aA call158 rfl (evc ajL evn)) (bw hle fun _ hw => tW HG.out.row HG.out.tab hw 0 52 (by rw [HL.out]; omega) (by unfold maxLen; omega)) ?_;simp only [aa];refine ajJ (fun _ hw => mQ rfl ajL HCL) ?_;refine ajJ (fun _ hw => uu false rfl ajL ajL hc) ?_;refine wpQuiet_nil ?_;intro w3 hb3;have HG3 := ae (HG.out.below hb3 HGE);clear hb3 HG;have HG4 := ae (HG3.out.below ((Below.refl w3.heap.size w3).alloc aj (.cells yi 5)) HGE);obtain ⟨c0, c1, c2, c3, c4⟩ := HG4.out.par.cells;have HNEW : Hid (cC (w3.alloc (.cells yi 5)) w3.heap.size 5 ye) := ae (cC.new w3 ye _);have HSRC := ae (HG4.out.row.rd (p := 8) (k := 44) (by rw [HL.out]; omega));have HPL : Hid ((piece b.toList 8 44).length = 44) := ae (dM (by rw [HL.out]; omega));have HW3 := ae (aq HGE HG3.out.bel.size);clear HG3;obtain ⟨q, hq⟩ : ∃ q, w3.heap.size = q := ⟨_, rfl⟩;rw [hq] at HNEW HW3;have HQ := ae hq;generalize hw4 : w3.alloc (.cells yi 5) = w4 at *;have HM : Hid (∀ w : World, w = w3 -> (Instr.makeSlice 208 (.int .i64 44) (.int .i64 44)).run prog w = .ok (.slice (some ⟨q, 0, none⟩) 44 44) w4) := ae (fun w e => by subst e; rw [ahf, hq, hw4]);have hmk := HM.out w3 rfl;clear hq hw4;go_wp2_with (with_reducible refine eR rfl _ _ rfl q 0 44 44 44 44 _ _ 5 _ (piece b.toList 8 44) rfl rfl HNEW.out HSRC.out (Nat.le_refl _) ?c1 ?_)
 case c1 => simp [ye]
 intro w5 hr5 hg5;rw [yU HPL.out] at hr5;have HB5 := ae (HG4.out.bel.grown hg5 (aq HGE HG4.out.bel.size) (fun k hk => by injection hk with e; subst e; exact HW3));have HR5 := ae hr5;clear hr5 hg5 c0 c1 c2 c3 c4;go_wp2_with fail;refine bodyPost_ret (v := .tuple #[.int .u64 (x : Int), .slice (some ⟨q, 0, none⟩) 44 44, .int .i64 0]) (by simp [results, Tryz.results171, go_sem]) rfl ⟨_, by rw [HE.out, HN.out, HXX.out]; rfl, .inr ⟨q, ?_, ?_, ?_, ?_⟩, ?_⟩
 ·rw [HBB.out, HPL.out]
 ·rw [HB.out]; exact HW3
 ·rw [HBB.out]; exact HR5
 ·rw [HBB.out, HPL.out]; unfold maxLen; omega
 ·rw [HB.out]; exact HB5
theorem jQ (b : Blk) (B : Nat) (w : World) (HB : Hid (B = w.heap.size)) (T : Tab w) : Calls prog 171 #[blk b] w fun e w' => ∃ v, e = .returned (.tuple #[.int .u64 (g7 b.toList : Nat), v, .int .i64 (fd b.toList : Nat)]) /\ Bod w' B v (eC b.toList) /\ Below B w w' := by
 by_cases h0 : il b.toList = 0
 ·exact zN b B w HB T h0
 ·by_cases h1 : il b.toList = agO b.toList
  ·by_cases h2 : rW b.toList = rT b.toList
   ·exact adV b B w HB T h0 h1 h2
   ·exact aco b B w HB T h0 h1 h2
  ·exact tZ b B w HB T h0 h1
theorem vP {w w2 : World} {g p q : Nat} {l : List UInt8} (HR : cC w g 5 l) (hb : Below (w.alloc (.cells (bz cv).toArray 198)).heap.size (w.alloc (.cells (bz cv).toArray 198)) w2)
  (hc : kh w2 p q (.slice (some ⟨g, 0, none⟩) 44 44) 0) (hd : w.heap.size + 1 <= p /\ w.heap.size + 1 <= q /\ p ≠ q /\ p < w2.heap.size /\ q < w2.heap.size) :
  gQ w.heap.size w ((w2.alloc (.cells #[kE p q] 214)).alloc (.cells (bz cv).toArray 198)) g l (w2.heap.size + 1) w.heap.size w2.heap.size p q 0 cv := by
 have e0 := World.size_alloc (w := w) (o := Obj.cells (bz cv).toArray 198);have e1 := World.size_alloc (w := w2) (o := Obj.cells #[kE p q] 214);have h1 := aT HR;have h3 := hb.size;rw [e0] at h3;have hro := cR.new (w2.alloc (.cells #[kE p q] 214)) cv;rw [e1] at hro;have hb1 := (Below.refl w.heap.size w).alloc aj (.cells (bz cv).toArray 198);have hb2 : Below w.heap.size w w2 := hb1.trans (hb.mono hb1.size);refine ⟨((HR.past _).below (by rw [e0]; omega) hb).past _ |>.past _, hro, br (br (aB (heap_alloc_new w _) hb) _) _, br (heap_alloc_new w2 _) _, ⟨br (br hc.1 _) _, br (br hc.2 _) _⟩, (hb2.alloc (by omega) _).alloc (by rw [e1]; omega) _, ?_, ?_, ?_⟩
 ·omega
 ·omega
 ·refine ⟨?_, ?_, ?_, ?_, ?_, ?_, ?_, ?_, ?_, ?_⟩ <;> omega
theorem xw (g : Nat) (l : List UInt8) (w : World) (hl : l.length = 44) (hr : cC w g 5 l) : Calls prog 172 #[.slice (some ⟨g, 0, none⟩) 44 44] w fun e w' => e = .returned (sup (cH l)) /\ Below w.heap.size w w' := by
 have hmf : ∀ (fn : Fn) (first cap : Array Value) (w : World), (Instr.makeFunc fn first cap).run prog w = .ok (.func fn first cap) w := fun _ _ _ _ => rfl
 have HL := ae hl;have HR := ae hr;obtain ⟨I, hI⟩ : ∃ I : Nat, val 8 (piece l 0 8) = I := ⟨_, rfl⟩;obtain ⟨M, hM⟩ : ∃ M : Nat, val 8 (piece l 8 1) = M := ⟨_, rfl⟩;have bM : M < 256 := by rw [<- hM]; exact dx (b := l) (p := 8) (k := 1) (by omega)
 obtain ⟨T, hT⟩ : ∃ T : Nat, val 8 (piece l 9 2) = T := ⟨_, rfl⟩;have bT : T < 65536 := by rw [<- hT]; exact dx (b := l) (p := 9) (k := 2) (by omega)
 obtain ⟨R, hR⟩ : ∃ R : Nat, val 8 (piece l 11 2) = R := ⟨_, rfl⟩;have bR : R < 65536 := by rw [<- hR]; exact dx (b := l) (p := 11) (k := 2) (by omega)
 obtain ⟨E, hE⟩ : ∃ E : Nat, val 8 (piece l 13 1) = E := ⟨_, rfl⟩;have bE : E < 256 := by rw [<- hE]; exact dx (b := l) (p := 13) (k := 1) (by omega)
 obtain ⟨C, hC⟩ : ∃ C : Nat, val 8 (piece l 18 2) = C := ⟨_, rfl⟩;have bC : C < 65536 := by rw [<- hC]; exact dx (b := l) (p := 18) (k := 2) (by omega)
 obtain ⟨G, hG⟩ : ∃ G : Nat, val 8 (piece l 20 1) = G := ⟨_, rfl⟩;have bG : G < 256 := by rw [<- hG]; exact dx (b := l) (p := 20) (k := 1) (by omega)
 obtain ⟨gb, hgb⟩ : ∃ gb, decide (G = 1) = gb := ⟨_, rfl⟩;have hgg : ((G : Int) == 1) = gb := by rw [<- hgb, Bool.eq_iff_iff]; simp; omega
 obtain ⟨st, hst⟩ : ∃ st, cp 2 16 (val 8 (piece l 14 4)) = st := ⟨_, rfl⟩;have HST := ae hst;have HSL : Hid (st.length = 16) := ae (by rw [<- hst, aS]);have HDEF : Hid (cH l = ⟨I, (E : Nat), ⟨(M : Nat), (T : Nat), (R : Nat), sn st, (C : Nat), gb⟩⟩) := ae (by unfold cH; rw [hI, hM, hT, hR, hE, hC, hG, hgb, hst]);have HII := ae hI;have HMM := ae hM;have HTT := ae hT;have HRR := ae hR;have HEE := ae hE;have HCC := ae hC;have HGG2 := ae hG;have HGG := ae hgg;clear hI hM hT hR hE hC hG hgb hst hl hr hgg;go_enter func172, ntmps172;go_wp2_with (first | (refine av rfl (cg rfl) ?_) | fail);refine (pp (.slice (some ⟨g, 0, none⟩) 44 44) _ 44 44 rfl _).mono ?_;rintro e w2 ⟨p, q, rfl, hc, hp0, hq0, hpq, hp1, hq1, hb⟩;have HW0 := ae (vP HR hb hc (by rw [World.size_alloc] at hp0 hq0; exact ⟨hp0, hq0, hpq, hp1, hq1⟩));clear hb hc hp0 hq0 hpq hp1 hq1 HR;unfold kE at HW0 ⊢;go_upto_region 5 with (first | (refine av rfl (cg rfl) ?_) | fail)
 try simp only [World.size_alloc]
 generalize ((w2.alloc (.cells #[Value.func (.func 163) #[] #[.pointer (some ⟨p, 0, none⟩), .pointer (some ⟨q, 0, none⟩)]] 214)).alloc (.cells (bz cv).toArray 198)) = w3 at *
 try simp only [World.size_alloc]
 generalize w2.heap.size = nb at *;obtain ⟨B, hBdef⟩ : ∃ B, w.heap.size = B := ⟨_, rfl⟩;have HBD := ae hBdef;rw [hBdef] at HW0 ⊢;clear hBdef;have HSN : Hid (nb + 1 ≠ nb) := ae (by omega);obtain ⟨s, hs⟩ : ∃ s, nb + 1 = s := ⟨_, rfl⟩;rw [hs] at HW0 ⊢;clear hs;have HB0 : Hid (B <= w.heap.size) := ae (Nat.le_of_eq HBD.out.symm);go_wp2_with fail;refine (oK B w _ g l s B nb p q 0 8 _ HW0 HB0 HL (by omega) (by omega) (by omega)).mono ?_;rintro e w4 ⟨rfl, hW⟩;rw [HII.out];have HV0 := ae hW;have cc := HV0.out.sup.cells.1;have ff := HV0.out.sup.free 0;clear hW;have HW1 : Hid (gQ B w (w4.setCell ⟨s, 0, none⟩ (.int .u64 (I : Nat))) g l s B nb p q 8 ⟨I, 0, ⟨0, 0, 0, bF.st, 0, false⟩⟩) := ae (HV0.out.set 0 _ (ad3 _ _) HB0);clear HV0;go_wp2_with fail;refine (oK B w _ g l s B nb p q 8 1 _ HW1 HB0 HL (by omega) (by omega) (by omega)).mono ?_;rintro e w5 ⟨rfl, hW⟩;rw [HMM.out];have HV1 := ae hW;have cc := HV1.out.sup.cells.2.2.1;have ff := HV1.out.sup.free 2;clear hW HW1;have HW2 : Hid (gQ B w (w5.setCell ⟨s, 2, none⟩ (.int .i64 (M : Nat))) g l s B nb p q 9 ⟨I, 0, ⟨(M : Nat), 0, 0, bF.st, 0, false⟩⟩) := ae (HV1.out.set 2 _ (agc _ _) HB0);clear HV1;go_wp2_with fail;refine (oK B w _ g l s B nb p q 9 2 _ HW2 HB0 HL (by omega) (by omega) (by omega)).mono ?_;rintro e w6 ⟨rfl, hW⟩;rw [HTT.out];have HV2 := ae hW;have cc := HV2.out.sup.cells.2.2.2.1;have ff := HV2.out.sup.free 3;clear hW HW2;have HW3 : Hid (gQ B w (w6.setCell ⟨s, 3, none⟩ (.int .i64 (T : Nat))) g l s B nb p q 11 ⟨I, 0, ⟨(M : Nat), (T : Nat), 0, bF.st, 0, false⟩⟩) := ae (HV2.out.set 3 _ (ahc _ _) HB0);clear HV2;go_wp2_with fail;refine (oK B w _ g l s B nb p q 11 2 _ HW3 HB0 HL (by omega) (by omega) (by omega)).mono ?_;rintro e w7 ⟨rfl, hW⟩;rw [HRR.out];have HV3 := ae hW;have cc := HV3.out.sup.cells.2.2.2.2.1;have ff := HV3.out.sup.free 4;clear hW HW3;have HW4 : Hid (gQ B w (w7.setCell ⟨s, 4, none⟩ (.int .i64 (R : Nat))) g l s B nb p q 13 ⟨I, 0, ⟨(M : Nat), (T : Nat), (R : Nat), bF.st, 0, false⟩⟩) := ae (HV3.out.set 4 _ (agZ _ _) HB0);clear HV3;go_wp2_with fail;refine (oK B w _ g l s B nb p q 13 1 _ HW4 HB0 HL (by omega) (by omega) (by omega)).mono ?_;rintro e w8 ⟨rfl, hW⟩;rw [HEE.out];have HV4 := ae hW;have cc := HV4.out.sup.cells.2.1;have ff := HV4.out.sup.free 1;clear hW HW4;have HW5 : Hid (gQ B w (w8.setCell ⟨s, 1, none⟩ (.int .i64 (E : Nat))) g l s B nb p q 14 ⟨I, (E : Nat), ⟨(M : Nat), (T : Nat), (R : Nat), bF.st, 0, false⟩⟩) := ae (HV4.out.set 1 _ (aad _ _) HB0);clear HV4;have n0 := (cell1 HW5.out.nxt).1;unfold kE at n0;go_wp2_with fail;refine (aew p q g 0 44 44 14 4 _ HW5.out.cut HW5.out.dif.2.2.2.2.1 (by omega) (by omega) aj (by omega)).mono ?_;rintro e w9 ⟨rfl, hc, hg⟩;have HV5 := ae (HW5.out.step hc hg HB0);clear hc hg n0 HW5 cc ff;have HRD := ae (HV5.out.row.rd (p := 14) (k := 4) (by rw [HL.out]; omega));go_wp2_with fail;refine (zC _ 4 4 _ 2 16 _ (piece l 14 4) w9 (ae rfl) HRD aj (by omega) (by omega) (by omega) (by omega) (by decide)).mono ?_;rintro e w10 ⟨v, rfl, hv, hb⟩;rw [HST.out] at hv;have hvm := hv.made;obtain ⟨A, c, rfl, hrd, _, _⟩ := hvm.open_ HSL;have HV6 := ae (HV5.out.keep hb HB0);have HRD2 := ae hrd;clear hv hvm hrd hb HRD HV5;go_wp2_with (first | (refine av rfl (kR rfl rfl) ?_) | (refine ry rfl _ _ rfl s 5 16 16 c _ A 198 (bz _) st rfl rfl HV6.out.sup HRD2 (by omega) ?_ ?_) | fail)
 ·rw [a7]; omega
 intro w11 hs11 hg11;rw [adz _ HSL.out] at hs11;have HW6 : Hid (gQ B w w11 g l s B nb p q 18 ⟨I, (E : Nat), ⟨(M : Nat), (T : Nat), (R : Nat), sn st, 0, false⟩⟩) := ae (HV6.out.put hs11 hg11 HB0);clear hs11 hg11 HV6 HRD2;go_wp2_with fail;refine (oK B w _ g l s B nb p q 18 2 _ HW6 HB0 HL (by omega) (by omega) (by omega)).mono ?_;rintro e w12 ⟨rfl, hW⟩;rw [HCC.out];have HV6 := ae hW;have cc := HV6.out.sup.cells.2.2.2.2.2.1;have ff := HV6.out.sup.free 21;clear hW HW6;have HW7 : Hid (gQ B w (w12.setCell ⟨s, 21, none⟩ (.int .i64 (C : Nat))) g l s B nb p q 20 ⟨I, (E : Nat), ⟨(M : Nat), (T : Nat), (R : Nat), sn st, (C : Nat), false⟩⟩) := ae (HV6.out.set 21 _ (aba _ _) HB0);clear HV6;go_wp2_with fail;refine (oK B w _ g l s B nb p q 20 1 _ HW7 HB0 HL (by omega) (by omega) (by omega)).mono ?_;rintro e w13 ⟨rfl, hW⟩;rw [HGG2.out];have HV7 := ae hW;clear hW HW7 cc ff;have cc := HV7.out.sup.cells.2.2.2.2.2.2;have ff := HV7.out.sup.free 22;have HW8 : Hid (gQ B w (w13.setCell ⟨s, 22, none⟩ (.bool gb)) g l s B nb p q 21 ⟨I, (E : Nat), ⟨(M : Nat), (T : Nat), (R : Nat), sn st, (C : Nat), gb⟩⟩) := ae (HV7.out.set 22 _ (aar _ _) HB0);rw [<- HDEF.out] at HW8;have hgg := HGG.out;clear HV7;have HLS := ae HW8.out.sup.range;have HTH := ae (dQ (o := 0) (n := 23) HW8.out.res (by rw [a7]; exact aj));have HBB := ae HW8.out.bel;go_upto_region 14 with fail;generalize w13.setCell ⟨s, 22, none⟩ (.bool gb) = w14 at *;clear cc ff;go_wp2_with (first | (refine av rfl (dp (c := cH l) rfl rfl ?_) ?_; (with_reducible exact HLS.out)) | (refine aG rfl (eh rfl rfl rfl ?_) ?_; (with_reducible exact HTH.out)) | fail);refine bodyPost_ret (nD (t := 198) (cs := bz (cH l)) rfl _ _ B rfl ?h1 underlying198 rfl ?h2) rfl ⟨rfl, ?h3⟩
 case h1 => exact World.rangeAt_setCells_same _ _ _ _ (by rw [a7]; exact HTH)
 case h2 => rw [a7]; exact jV
 case h3 => rw [HBD.out]; exact below_setCells HBB aj _
theorem tf {ρ : Operand -> Value} {o : Oper} {x y : Operand} {w : World} {l : List UInt8} (hl : l.length = 44) (ho : o.op = .store 205 x y) (hx : ρ x = .pointer (some ⟨w.heap.size, 0, none⟩)) (hy : ρ y = arr l) :
  (execOp ρ o).run prog (w.alloc (.cells (vals z44).toArray 205)) = .ok .skip (w.alloc (.cells (vals l).toArray 205)) :=
 fx (by rw [bi, hl]; exact mL) (by rw [bi, bi, hl, wj]) (ja l) ho hx hy
theorem lR (n : Nat) (w : World) {b : Bool} (h : evB n = b) : Calls prog 145 #[.int .u64 n] w fun e w' => e = .returned (.bool b) /\ Below w.heap.size w w' := by
 subst h;exact (ac6 n w).mono fun e w' ⟨he, hw⟩ => ⟨he, hw ▸ ak⟩
theorem rY (x : Sup) (w : World) {b : Bool} (h : gF x = b) : Calls prog 146 #[sup x] w fun e w' => e = .returned (.bool b) /\ Below w.heap.size w w' := by
 subst h;exact afB x w
theorem aid (n : Nat) (x : Sup) (w : World) (T : Tab w) (hn : n < 18446744073709551616) (hid : x.id < 18446744073709551616) :
  Calls prog 142 #[.int .u64 n, sup x] w fun e w' => e = .returned (.tuple #[blk (gi n x), .int .i64 (xm n x : Nat)]) /\ Below w.heap.size w w' := by
 obtain ⟨h1, h2, h3⟩ := pz w x;have HS := ae (h1.past (.cells (cel aI).toArray 44));have HB := ae (h2.alloc h2.size (.cells (cel aI).toArray 44));have HT := ae T;have HN := ae hn;have HI := ae hid;have HR : Hid (((w.alloc (.cells (bz x).toArray 198)).alloc (.cells (cel aI).toArray 44)).there (w.heap.size + 1) 0 64) := ae (by
  have := fq (w.alloc (.cells (bz x).toArray 198)) aI 44;rwa [World.size_alloc] at this)
 have HZ : Hid (w.heap.size + 1 < ((w.alloc (.cells (bz x).toArray 198)).alloc (.cells (cel aI).toArray 44)).heap.size) := ae (by simp only [World.size_alloc]; omega);clear h1 h2 h3 T hn hid;go_enter func142, ntmps142;go_wp2_with (first | (refine av rfl (jf rfl rfl) ?_) | (refine av rfl (bW rfl) ?_) | fail)
 try simp only [World.size_alloc]
 generalize (w.alloc (.cells (bz x).toArray 198)).alloc (.cells (cel aI).toArray 44) = w1 at *;refine (ac6 n w1).mono ?_;rintro e w' ⟨rfl, rfl⟩;by_cases hev : evB n = true
 ·rw [hev];have HEV := ae hev;clear hev;go_wp2_with (first | (refine ay (by rfl) (dp (c := x) rfl rfl ?_) ?_; (with_reducible exact HS.out.range)) | fail);refine (afB x w1).mono ?_;rintro e w2 ⟨rfl, hb⟩;have HS2 := ae (HS.out.below (aT HS) hb);have HB2 := ae (HB.out.trans (hb.mono HB.out.size));have HR2 := ae (cd HR HZ hb);have HZ2 : Hid (w.heap.size + 1 < w2.heap.size) := ae (by have := hb.size; have := HZ.out; omega);clear hb HS HB HR HZ;by_cases hm : gF x = true
  ·rw [hm];have HM := ae hm;clear hm;go_wp2_with (first | (refine av rfl (dp (c := x) rfl rfl ?_) ?_; (with_reducible exact HS2.out.range)) | fail);refine (adl x w2 HI HM).mono ?_;rintro e w3 ⟨rfl, hb⟩;have hb3 := HB2.out.trans (hb.mono HB2.out.size);have HB3 := ae (hb3.alloc hb3.size (.cells (vals (dN x)).toArray 205));have HR3 := ae (cd HR2 HZ2 (hb.alloc hb.size (.cells (vals (dN x)).toArray 205)));have hrd := (cC.new w3 (dN x) 205).rd (p := 0) (k := 44) (by rw [df]; omega);rw [l8 (df x)] at hrd;have HRD := ae hrd;have HFL := ae (df x);have HZ3 : Hid (w.heap.size + 1 < (w3.alloc (.cells (vals (dN x)).toArray 205)).heap.size) := ae (by have := hb.size; have := HZ2.out; simp only [World.size_alloc]; omega);clear hb hb3 hrd HS2 HB2 HR2 HZ2;go_wp2_with (first | (refine av rfl (lj rfl) ?_) | (refine aG rfl (tf (l := dN x) HFL.out rfl rfl rfl) ?_) | (refine av rfl (oR rfl rfl) ?_) | fail);generalize hw4 : w3.alloc (.cells (vals (dN x)).toArray 205) = w4 at *;refine (aeD n 44 44 _ _ (dN x) w4 (HT.out.below HB3) HN HRD aj (by unfold maxLen; omega)).mono ?_;rintro e w5 ⟨rfl, hb⟩;rw [qT, kq, qu x HEV.out];have HR5 := ae (cd HR3 HZ3 hb);have HB5 := ae (HB3.out.trans (hb.mono HB3.out.size));have HPB := ae (ab0 HEV HM);have HPE := ae (uS HEV HM);clear hb hw4 HRD HR3 HZ3 HB3;generalize jH n (jZ x) = pb at *;go_wp2_with (first | (refine aG rfl (bP (c := pb) rfl rfl rfl ?_) ?_; (with_reducible exact HR5.out)) | fail);refine bodyPost_ret (du rfl _ _ _ rfl (World.rangeAt_setCells_same _ _ _ _ (by rw [aM]; exact HR5))) rfl ⟨by rw [HPB.out, HPE.out]; rfl, below_setCells HB5 (Nat.le_succ _) _⟩
  ·have hm' : gF x = false := by simpa using hm
   have HPB := ae (tE (n := n) (x := x) (fun h => hm h.2));have HPE := ae (sZ (n := n) (x := x) (fun h => hm h.2));rw [hm'];clear hm hm';go_wp2_with (first | (refine av rfl (dn (c := aI) (parts := []) rfl rfl) ?_) | (refine aG rfl (bP (c := aI) rfl rfl rfl ?_) ?_; (with_reducible exact HR2.out)) | fail);refine bodyPost_ret (du rfl _ _ _ rfl (World.rangeAt_setCells_same _ _ _ _ (by rw [aM]; exact HR2))) rfl ⟨by rw [HPB.out, HPE.out]; rfl, below_setCells HB2 (Nat.le_succ _) _⟩
 ·have hev' : evB n = false := by simpa using hev
  have HPB := ae (tE (n := n) (x := x) (fun h => hev h.1));have HPE := ae (sZ (n := n) (x := x) (fun h => hev h.1));rw [hev'];clear hev hev';go_wp2_with (first | (refine av rfl (dn (c := aI) (parts := []) rfl rfl) ?_) | (refine aG rfl (bP (c := aI) rfl rfl rfl ?_) ?_; (with_reducible exact HR.out)) | fail);refine bodyPost_ret (du rfl _ _ _ rfl (World.rangeAt_setCells_same _ _ _ _ (by rw [aM]; exact HR))) rfl ⟨by rw [HPB.out, HPE.out]; rfl, below_setCells HB (Nat.le_succ _) _⟩
section
variable {P : Program} {ops : Array Oper} {C : World -> Prop} {Q : Act -> Prop} {a : Act} {o : Oper} {rest l : List Oper} {v : Value}
theorem mY : ∀ (rs : List Oper) (a : Act), unw ops rs a = true -> wpQuiet P ops C Q rest (bH rs a) -> wpQuiet P ops C Q (rs ++ rest) a
 |[], _, _, h => h
 |r :: rs, a, hu, h => by
  simp only [unw, Bool.and_eq_true, Bool.not_eq_true'] at hu;exact ad1 hu.1 (mY rs _ hu.2 h)
theorem gA (n : Nat) (hw : Region.wanted o (yielded ops a.tmps) = true) (h : ∀ w, C w -> (execOp a.eval o).run P w = .ok (.value v) w) (hu : unw ops (l.take n) (a.put o.dst v) = true) (hr : wpQuiet P ops C Q (l.drop n) (bH (l.take n) (a.put o.dst v))) : wpQuiet P ops C Q (o :: l) a :=
 aK hw h (by have := mY (P := P) (C := C) (Q := Q) (l.take n) _ hu hr; rwa [List.take_append_drop] at this)
end
theorem uy {ρ : Operand -> Value} {o : Oper} {x : Operand} {w : World} {g c : Nat} (ho : o.op = .sliceToArrayPointer 205 x) (hx : ρ x = .slice (some ⟨g, 0, none⟩) 44 c) : (execOp ρ o).run prog w = .ok (.value (.pointer (some ⟨g, 0, none⟩))) w := by
 unfold execOp;simp [ho, hx, Instr.arrayAt, run_underlying underlying205]
section
variable (b : Blk) (w : World)
structure SgW (w w3 : World) (b : Blk) (g s : Nat) (l : List UInt8) (y : Sup) : Prop where
 row : cC w3 g 5 l
 sup : cR w3 s y
 res : w3.there (w.heap.size + 1) 0 23
 bel : Below w.heap.size w w3
 lt : w.heap.size + 1 < w3.heap.size
theorem SgW.keep {w w3 w4 : World} {b : Blk} {g s : Nat} {l : List UInt8} {y : Sup} (h : SgW w w3 b g s l y) (hb : Below w3.heap.size w3 w4) : SgW w w4 b g s l y :=
 ⟨h.row.below h.row.lt hb, h.sup.below (aT h.sup) hb, cd h.res h.lt hb, h.bel.trans (hb.mono h.bel.size), ar h.lt hb.size⟩
end
theorem vN (b : Blk) (w : World) (T : Tab w) (h : fd b.toList ≠ 0) : Calls prog 159 #[blk b] w fun e w' => e = .returned (.tuple #[.int .u64 (0 : Nat), sup cv, .int .i64 (fd b.toList : Nat)]) /\ Below w.heap.size w w' := by
 obtain ⟨n, hn⟩ : ∃ n, g7 b.toList = n := ⟨_, rfl⟩;obtain ⟨l, hl⟩ : ∃ l, eC b.toList = l := ⟨_, rfl⟩;have h1 := (Below.refl w.heap.size w).alloc aj (.cells (cel b).toArray 44);have h2 := h1.alloc h1.size (.cells (bz cv).toArray 198);have HA : Hid (((w.alloc (.cells (cel b).toArray 44)).alloc (.cells (bz cv).toArray 198)).rangeAt w.heap.size 0 (cel b)) := ae (World.rangeAt_alloc (dK w (cel b) 44) _);have hsn := cR.new (w.alloc (.cells (cel b).toArray 44)) cv;rw [World.size_alloc] at hsn;have HR := ae (dQ (o := 0) (n := 23) hsn (by rw [a7]; exact aj));have HZ := ae (aT hsn);have HB := ae h2;have HT := ae (T.below h2);have HN := ae hn;have HL := ae hl;clear h1 h2 hsn T;obtain ⟨E, hE⟩ : ∃ E, fd b.toList = E := ⟨_, rfl⟩;rw [hE] at h;have HE := ae hE;have hne : ((E : Int) != 0) = true := by simp; omega
 clear hE hn hl;go_enter func159, ntmps159;go_wp2_with (first | (refine av rfl (cP rfl rfl) ?_) | (refine av rfl (cg rfl) ?_) | (refine av rfl (bJ (c := b) rfl rfl ?_) ?_; (with_reducible exact HA.out)) | fail)
 try simp only [World.size_alloc]
 generalize (w.alloc (.cells (cel b).toArray 44)).alloc (.cells (bz cv).toArray 198) = w0 at *;refine (jQ b _ w0 (ae rfl) HT).mono ?_;rintro e w1 ⟨v, rfl, hv, hb⟩;rw [HN.out];rw [HE.out];have HR1 := ae (cd HR HZ hb);have HB1 := ae (HB.out.trans (hb.mono HB.out.size));clear hv hb HA HR HB;go_wp2_with (first | (refine av rfl (kC rfl) ?_) | (refine aG rfl (eh (c := cv) rfl rfl rfl ?_) ?_; (with_reducible exact HR1.out)) | fail);refine bodyPost_ret (lG (t := 198) (cs := bz cv) rfl _ _ _ rfl ?h1 underlying198 rfl ?h2) rfl ⟨by rw [HE.out]; rfl, ?h3⟩
 case h1 => exact World.rangeAt_setCells_same _ _ _ _ (by rw [a7]; exact HR1)
 case h2 => rw [a7]; exact jV
 case h3 => exact below_setCells HB1 (Nat.le_succ _) _
theorem aaw (b : Blk) (w : World) (T : Tab w) (h0 : fd b.toList = 0) (hev : evB (g7 b.toList) = false) : Calls prog 159 #[blk b] w fun e w' => e = .returned (.tuple #[.int .u64 (0 : Nat), sup cv, .int .i64 (5 : Nat)]) /\ Below w.heap.size w w' := by
 obtain ⟨n, hn⟩ : ∃ n, g7 b.toList = n := ⟨_, rfl⟩;obtain ⟨l, hl⟩ : ∃ l, eC b.toList = l := ⟨_, rfl⟩;have h1 := (Below.refl w.heap.size w).alloc aj (.cells (cel b).toArray 44);have h2 := h1.alloc h1.size (.cells (bz cv).toArray 198);have HA : Hid (((w.alloc (.cells (cel b).toArray 44)).alloc (.cells (bz cv).toArray 198)).rangeAt w.heap.size 0 (cel b)) := ae (World.rangeAt_alloc (dK w (cel b) 44) _);have hsn := cR.new (w.alloc (.cells (cel b).toArray 44)) cv;rw [World.size_alloc] at hsn;have HR := ae (dQ (o := 0) (n := 23) hsn (by rw [a7]; exact aj));have HZ := ae (aT hsn);have HB := ae h2;have HT := ae (T.below h2);have HN := ae hn;have HL := ae hl;clear h1 h2 hsn T;rw [hn] at hev;have HEV := ae hev;clear hev;clear hn hl;go_enter func159, ntmps159;go_wp2_with (first | (refine av rfl (cP rfl rfl) ?_) | (refine av rfl (cg rfl) ?_) | (refine av rfl (bJ (c := b) rfl rfl ?_) ?_; (with_reducible exact HA.out)) | fail)
 try simp only [World.size_alloc]
 generalize (w.alloc (.cells (cel b).toArray 44)).alloc (.cells (bz cv).toArray 198) = w0 at *;refine (jQ b _ w0 (ae rfl) HT).mono ?_;rintro e w1 ⟨v, rfl, hv, hb⟩;rw [HN.out];rw [h0];have hll : l.length = 44 := by rw [<- HL.out]; exact lq h0
 have HLL := ae hll;rw [HL.out] at hv;obtain ⟨g, hve, hrow⟩ : ∃ g, v = .slice (some ⟨g, 0, none⟩) 44 44 /\ cC w1 g 5 l := by
  rcases hv with ⟨_, rfl⟩ | ⟨g, e, _, hr, _⟩
  ·simp at hll
  ·rw [hll] at e; exact ⟨g, e, hr⟩
 subst hve;have HR1 := ae (cd HR HZ hb);have HB1 := ae (HB.out.trans (hb.mono HB.out.size));have HZ1 : Hid (w.heap.size + 1 < w1.heap.size) := ae (ar HZ hb.size);have HRW := ae hrow;clear hv hb HA HR HB HZ hll h0 hrow;go_wp2_with fail;refine (xw g l w1 HLL HRW).mono ?_;rintro e w2 ⟨rfl, hb⟩;have hb3 := hb.alloc hb.size (.cells (bz (cH l)).toArray 198);have HW3 : Hid (SgW w (w2.alloc (.cells (bz (cH l)).toArray 198)) b g w2.heap.size l (cH l)) := ae ⟨HRW.out.below HRW.out.lt hb3, cR.new w2 _, cd HR1 HZ1 hb3, HB1.out.trans (hb3.mono HB1.out.size), ar HZ1 hb3.size⟩;have HI : Hid ((cH l).id < 18446744073709551616) := ae (jq (by rw [HLL.out]; omega));clear hb hb3 HRW HR1 HB1 HZ1;obtain ⟨y, hy⟩ : ∃ y, cH l = y := ⟨_, rfl⟩;have HY := ae hy;rw [hy] at HW3 HI;rw [hy];clear hy;have HFL := ae (df y);go_upto_region 5 with (first | (refine av rfl (cg rfl) ?_) | (refine aG rfl (dX rfl rfl rfl) ?_) | fail);generalize w2.alloc (.cells (bz y).toArray 198) = w3 at *;have HS3 := ae HW3.out.sup;have HR3 := ae HW3.out.row;generalize w2.heap.size = s at *;refine aR (B := w3.heap.size) (by kernel_rfl) ?_;refine cy 1 ?_;refine bO rfl (fun _ => aA call145 rfl (evc ajL evn)) (bw aj fun w' hw => lR n w' HEV) ?_;simp only [aa];refine cy 1 ?_;refine gA 3 rfl (fun _ hw => aL rfl ajL) (by kernel_rfl) ?_;simp only [bH, ac, aa];refine cy 1 ?_;refine gA 6 rfl (fun _ hw => aL rfl ajL) (by kernel_rfl) ?_;simp only [bH, ac, aa];refine cy 1 ?_;refine wpQuiet_nil ?_;intro w4 hw;have HW4 := ae (HW3.out.keep hw);have HR4 := ae HW4.out.res;have HB4 := ae HW4.out.bel;clear HW3 HS3 HR3 hw;go_wp2_with (first | (refine av rfl (kC rfl) ?_) | (refine aG rfl (eh (c := cv) rfl rfl rfl ?_) ?_; (with_reducible exact HR4.out)) | fail);refine bodyPost_ret (lG (t := 198) (cs := bz cv) rfl _ _ _ rfl ?h1 underlying198 rfl ?h2) rfl ⟨rfl, ?h3⟩
 case h1 => exact World.rangeAt_setCells_same _ _ _ _ (by rw [a7]; exact HR4)
 case h2 => rw [a7]; exact jV
 case h3 => exact below_setCells HB4 (Nat.le_succ _) _
theorem yZ (b : Blk) (w : World) (T : Tab w) (h0 : fd b.toList = 0) (hev : evB (g7 b.toList) = true) (hm : gF (cH (eC b.toList)) = false) : Calls prog 159 #[blk b] w fun e w' => e = .returned (.tuple #[.int .u64 (0 : Nat), sup cv, .int .i64 (5 : Nat)]) /\ Below w.heap.size w w' := by
 obtain ⟨n, hn⟩ : ∃ n, g7 b.toList = n := ⟨_, rfl⟩;obtain ⟨l, hl⟩ : ∃ l, eC b.toList = l := ⟨_, rfl⟩;have h1 := (Below.refl w.heap.size w).alloc aj (.cells (cel b).toArray 44);have h2 := h1.alloc h1.size (.cells (bz cv).toArray 198);have HA : Hid (((w.alloc (.cells (cel b).toArray 44)).alloc (.cells (bz cv).toArray 198)).rangeAt w.heap.size 0 (cel b)) := ae (World.rangeAt_alloc (dK w (cel b) 44) _);have hsn := cR.new (w.alloc (.cells (cel b).toArray 44)) cv;rw [World.size_alloc] at hsn;have HR := ae (dQ (o := 0) (n := 23) hsn (by rw [a7]; exact aj));have HZ := ae (aT hsn);have HB := ae h2;have HT := ae (T.below h2);have HN := ae hn;have HL := ae hl;clear h1 h2 hsn T;rw [hn] at hev;rw [hl] at hm;have HEV := ae hev;have HM0 := ae hm;clear hev hm;clear hn hl;go_enter func159, ntmps159;go_wp2_with (first | (refine av rfl (cP rfl rfl) ?_) | (refine av rfl (cg rfl) ?_) | (refine av rfl (bJ (c := b) rfl rfl ?_) ?_; (with_reducible exact HA.out)) | fail)
 try simp only [World.size_alloc]
 generalize (w.alloc (.cells (cel b).toArray 44)).alloc (.cells (bz cv).toArray 198) = w0 at *;refine (jQ b _ w0 (ae rfl) HT).mono ?_;rintro e w1 ⟨v, rfl, hv, hb⟩;rw [HN.out];rw [h0];have hll : l.length = 44 := by rw [<- HL.out]; exact lq h0
 have HLL := ae hll;rw [HL.out] at hv;obtain ⟨g, hve, hrow⟩ : ∃ g, v = .slice (some ⟨g, 0, none⟩) 44 44 /\ cC w1 g 5 l := by
  rcases hv with ⟨_, rfl⟩ | ⟨g, e, _, hr, _⟩
  ·simp at hll
  ·rw [hll] at e; exact ⟨g, e, hr⟩
 subst hve;have HR1 := ae (cd HR HZ hb);have HB1 := ae (HB.out.trans (hb.mono HB.out.size));have HZ1 : Hid (w.heap.size + 1 < w1.heap.size) := ae (ar HZ hb.size);have HRW := ae hrow;clear hv hb HA HR HB HZ hll h0 hrow;go_wp2_with fail;refine (xw g l w1 HLL HRW).mono ?_;rintro e w2 ⟨rfl, hb⟩;have hb3 := hb.alloc hb.size (.cells (bz (cH l)).toArray 198);have HW3 : Hid (SgW w (w2.alloc (.cells (bz (cH l)).toArray 198)) b g w2.heap.size l (cH l)) := ae ⟨HRW.out.below HRW.out.lt hb3, cR.new w2 _, cd HR1 HZ1 hb3, HB1.out.trans (hb3.mono HB1.out.size), ar HZ1 hb3.size⟩;have HI : Hid ((cH l).id < 18446744073709551616) := ae (jq (by rw [HLL.out]; omega));clear hb hb3 HRW HR1 HB1 HZ1;obtain ⟨y, hy⟩ : ∃ y, cH l = y := ⟨_, rfl⟩;have HY := ae hy;rw [hy] at HW3 HI HM0;have HM := HM0;rw [hy];clear hy;have HFL := ae (df y);go_upto_region 5 with (first | (refine av rfl (cg rfl) ?_) | (refine aG rfl (dX rfl rfl rfl) ?_) | fail);generalize w2.alloc (.cells (bz y).toArray 198) = w3 at *;have HS3 := ae HW3.out.sup;have HR3 := ae HW3.out.row;generalize w2.heap.size = s at *;refine aR (B := w3.heap.size) (by kernel_rfl) ?_;refine cy 1 ?_;refine bO rfl (fun _ => aA call145 rfl (evc ajL evn)) (bw aj fun w' hw => lR n w' HEV) ?_;simp only [aa];refine cy 2 ?_;refine ajK (fun _ hw => dp (c := y) rfl ajL ((HS3.out.below (aT HS3) hw).range)) ?_;refine bO ajw (fun _ => aA call146 rfl (evc ajL evn)) (bw aj fun w' hw => rY y w' HM) ?_;simp only [aa];refine cy 2 ?_;refine gA 6 rfl (fun _ hw => aL rfl ajL) (by kernel_rfl) ?_;simp only [bH, ac, aa];refine cy 1 ?_;refine wpQuiet_nil ?_;intro w4 hw;have HW4 := ae (HW3.out.keep hw);have HR4 := ae HW4.out.res;have HB4 := ae HW4.out.bel;clear HW3 HS3 HR3 hw;go_wp2_with (first | (refine av rfl (kC rfl) ?_) | (refine aG rfl (eh (c := cv) rfl rfl rfl ?_) ?_; (with_reducible exact HR4.out)) | fail);refine bodyPost_ret (lG (t := 198) (cs := bz cv) rfl _ _ _ rfl ?h1 underlying198 rfl ?h2) rfl ⟨rfl, ?h3⟩
 case h1 => exact World.rangeAt_setCells_same _ _ _ _ (by rw [a7]; exact HR4)
 case h2 => rw [a7]; exact jV
 case h3 => exact below_setCells HB4 (Nat.le_succ _) _
theorem abf (b : Blk) (w : World) (T : Tab w) (h0 : fd b.toList = 0) (hev : evB (g7 b.toList) = true) (hm : gF (cH (eC b.toList)) = true) (hd : dN (cH (eC b.toList)) ≠ eC b.toList) : Calls prog 159 #[blk b] w fun e w' => e = .returned (.tuple #[.int .u64 (0 : Nat), sup cv, .int .i64 (5 : Nat)]) /\ Below w.heap.size w w' := by
 obtain ⟨n, hn⟩ : ∃ n, g7 b.toList = n := ⟨_, rfl⟩;obtain ⟨l, hl⟩ : ∃ l, eC b.toList = l := ⟨_, rfl⟩;have h1 := (Below.refl w.heap.size w).alloc aj (.cells (cel b).toArray 44);have h2 := h1.alloc h1.size (.cells (bz cv).toArray 198);have HA : Hid (((w.alloc (.cells (cel b).toArray 44)).alloc (.cells (bz cv).toArray 198)).rangeAt w.heap.size 0 (cel b)) := ae (World.rangeAt_alloc (dK w (cel b) 44) _);have hsn := cR.new (w.alloc (.cells (cel b).toArray 44)) cv;rw [World.size_alloc] at hsn;have HR := ae (dQ (o := 0) (n := 23) hsn (by rw [a7]; exact aj));have HZ := ae (aT hsn);have HB := ae h2;have HT := ae (T.below h2);have HN := ae hn;have HL := ae hl;clear h1 h2 hsn T;rw [hn] at hev;rw [hl] at hm hd;have HEV := ae hev;have HM0 := ae hm;have HD0 : Hid (decide (dN (cH l) = l) = false) := ae (am hd);clear hev hm hd;clear hn hl;go_enter func159, ntmps159;go_wp2_with (first | (refine av rfl (cP rfl rfl) ?_) | (refine av rfl (cg rfl) ?_) | (refine av rfl (bJ (c := b) rfl rfl ?_) ?_; (with_reducible exact HA.out)) | fail)
 try simp only [World.size_alloc]
 generalize (w.alloc (.cells (cel b).toArray 44)).alloc (.cells (bz cv).toArray 198) = w0 at *;refine (jQ b _ w0 (ae rfl) HT).mono ?_;rintro e w1 ⟨v, rfl, hv, hb⟩;rw [HN.out];rw [h0];have hll : l.length = 44 := by rw [<- HL.out]; exact lq h0
 have HLL := ae hll;rw [HL.out] at hv;obtain ⟨g, hve, hrow⟩ : ∃ g, v = .slice (some ⟨g, 0, none⟩) 44 44 /\ cC w1 g 5 l := by
  rcases hv with ⟨_, rfl⟩ | ⟨g, e, _, hr, _⟩
  ·simp at hll
  ·rw [hll] at e; exact ⟨g, e, hr⟩
 subst hve;have HR1 := ae (cd HR HZ hb);have HB1 := ae (HB.out.trans (hb.mono HB.out.size));have HZ1 : Hid (w.heap.size + 1 < w1.heap.size) := ae (ar HZ hb.size);have HRW := ae hrow;clear hv hb HA HR HB HZ hll h0 hrow;go_wp2_with fail;refine (xw g l w1 HLL HRW).mono ?_;rintro e w2 ⟨rfl, hb⟩;have hb3 := hb.alloc hb.size (.cells (bz (cH l)).toArray 198);have HW3 : Hid (SgW w (w2.alloc (.cells (bz (cH l)).toArray 198)) b g w2.heap.size l (cH l)) := ae ⟨HRW.out.below HRW.out.lt hb3, cR.new w2 _, cd HR1 HZ1 hb3, HB1.out.trans (hb3.mono HB1.out.size), ar HZ1 hb3.size⟩;have HI : Hid ((cH l).id < 18446744073709551616) := ae (jq (by rw [HLL.out]; omega));clear hb hb3 HRW HR1 HB1 HZ1;obtain ⟨y, hy⟩ : ∃ y, cH l = y := ⟨_, rfl⟩;have HY := ae hy;rw [hy] at HW3 HI HM0 HD0;have HM := HM0;have HD := HD0;rw [hy];clear hy;have HFL := ae (df y);go_upto_region 5 with (first | (refine av rfl (cg rfl) ?_) | (refine aG rfl (dX rfl rfl rfl) ?_) | fail);generalize w2.alloc (.cells (bz y).toArray 198) = w3 at *;have HS3 := ae HW3.out.sup;have HR3 := ae HW3.out.row;generalize w2.heap.size = s at *;refine aR (B := w3.heap.size) (by kernel_rfl) ?_;refine cy 1 ?_;refine bO rfl (fun _ => aA call145 rfl (evc ajL evn)) (bw aj fun w' hw => lR n w' HEV) ?_;simp only [aa];refine cy 2 ?_;refine ajK (fun _ hw => dp (c := y) rfl ajL ((HS3.out.below (aT HS3) hw).range)) ?_;refine bO ajw (fun _ => aA call146 rfl (evc ajL evn)) (bw aj fun w' hw => rY y w' HM) ?_;simp only [aa];refine cy 3 ?_;refine ajK (fun _ hw => dp (c := y) rfl ajL ((HS3.out.below (aT HS3) hw).range)) ?_;refine bO ajw (fun _ => aA call147 rfl (evc ajL evn)) (bw aj fun w' hw => adl y w' HI HM) ?_;simp only [aa];refine cy 1 ?_;refine ajK (fun _ hw => uy rfl ajL) ?_;refine ajK (fun _ hw => iC HLL rfl ajL (aP (HR3.out.below HR3.out.lt hw))) ?_;refine ajK (fun _ hw => q6 false HFL HLL rfl ajL ajL HD) ?_;refine cy 1 ?_;refine wpQuiet_nil ?_;intro w4 hw;have HW4 := ae (HW3.out.keep hw);have HR4 := ae HW4.out.res;have HB4 := ae HW4.out.bel;clear HW3 HS3 HR3 hw;go_wp2_with (first | (refine av rfl (kC rfl) ?_) | (refine aG rfl (eh (c := cv) rfl rfl rfl ?_) ?_; (with_reducible exact HR4.out)) | fail);refine bodyPost_ret (lG (t := 198) (cs := bz cv) rfl _ _ _ rfl ?h1 underlying198 rfl ?h2) rfl ⟨rfl, ?h3⟩
 case h1 => exact World.rangeAt_setCells_same _ _ _ _ (by rw [a7]; exact HR4)
 case h2 => rw [a7]; exact jV
 case h3 => exact below_setCells HB4 (Nat.le_succ _) _
theorem aam (b : Blk) (w : World) (T : Tab w) (h0 : fd b.toList = 0) (hev : evB (g7 b.toList) = true) (hm : gF (cH (eC b.toList)) = true) (hd : dN (cH (eC b.toList)) = eC b.toList) : Calls prog 159 #[blk b] w fun e w' => e = .returned (.tuple #[.int .u64 (g7 b.toList : Nat), sup (cH (eC b.toList)), .int .i64 (0 : Nat)]) /\ Below w.heap.size w w' := by
 obtain ⟨n, hn⟩ : ∃ n, g7 b.toList = n := ⟨_, rfl⟩;obtain ⟨l, hl⟩ : ∃ l, eC b.toList = l := ⟨_, rfl⟩;have h1 := (Below.refl w.heap.size w).alloc aj (.cells (cel b).toArray 44);have h2 := h1.alloc h1.size (.cells (bz cv).toArray 198);have HA : Hid (((w.alloc (.cells (cel b).toArray 44)).alloc (.cells (bz cv).toArray 198)).rangeAt w.heap.size 0 (cel b)) := ae (World.rangeAt_alloc (dK w (cel b) 44) _);have hsn := cR.new (w.alloc (.cells (cel b).toArray 44)) cv;rw [World.size_alloc] at hsn;have HR := ae (dQ (o := 0) (n := 23) hsn (by rw [a7]; exact aj));have HZ := ae (aT hsn);have HB := ae h2;have HT := ae (T.below h2);have HN := ae hn;have HL := ae hl;clear h1 h2 hsn T;rw [hn] at hev;rw [hl] at hm hd;have HEV := ae hev;have HM0 := ae hm;have HD0 : Hid (decide (dN (cH l) = l) = true) := ae (ao hd);clear hev hm hd;clear hn hl;go_enter func159, ntmps159;go_wp2_with (first | (refine av rfl (cP rfl rfl) ?_) | (refine av rfl (cg rfl) ?_) | (refine av rfl (bJ (c := b) rfl rfl ?_) ?_; (with_reducible exact HA.out)) | fail)
 try simp only [World.size_alloc]
 generalize (w.alloc (.cells (cel b).toArray 44)).alloc (.cells (bz cv).toArray 198) = w0 at *;refine (jQ b _ w0 (ae rfl) HT).mono ?_;rintro e w1 ⟨v, rfl, hv, hb⟩;rw [HN.out];rw [h0];have hll : l.length = 44 := by rw [<- HL.out]; exact lq h0
 have HLL := ae hll;rw [HL.out] at hv;obtain ⟨g, hve, hrow⟩ : ∃ g, v = .slice (some ⟨g, 0, none⟩) 44 44 /\ cC w1 g 5 l := by
  rcases hv with ⟨_, rfl⟩ | ⟨g, e, _, hr, _⟩
  ·simp at hll
  ·rw [hll] at e; exact ⟨g, e, hr⟩
 subst hve;have HR1 := ae (cd HR HZ hb);have HB1 := ae (HB.out.trans (hb.mono HB.out.size));have HZ1 : Hid (w.heap.size + 1 < w1.heap.size) := ae (ar HZ hb.size);have HRW := ae hrow;clear hv hb HA HR HB HZ hll h0 hrow;go_wp2_with fail;refine (xw g l w1 HLL HRW).mono ?_;rintro e w2 ⟨rfl, hb⟩;have hb3 := hb.alloc hb.size (.cells (bz (cH l)).toArray 198);have HW3 : Hid (SgW w (w2.alloc (.cells (bz (cH l)).toArray 198)) b g w2.heap.size l (cH l)) := ae ⟨HRW.out.below HRW.out.lt hb3, cR.new w2 _, cd HR1 HZ1 hb3, HB1.out.trans (hb3.mono HB1.out.size), ar HZ1 hb3.size⟩;have HI : Hid ((cH l).id < 18446744073709551616) := ae (jq (by rw [HLL.out]; omega));clear hb hb3 HRW HR1 HB1 HZ1;obtain ⟨y, hy⟩ : ∃ y, cH l = y := ⟨_, rfl⟩;have HY := ae hy;rw [hy] at HW3 HI HM0 HD0;have HM := HM0;have HD := HD0;rw [hy];clear hy;have HFL := ae (df y);go_upto_region 5 with (first | (refine av rfl (cg rfl) ?_) | (refine aG rfl (dX rfl rfl rfl) ?_) | fail);generalize w2.alloc (.cells (bz y).toArray 198) = w3 at *;have HS3 := ae HW3.out.sup;have HR3 := ae HW3.out.row;generalize w2.heap.size = s at *;refine aR (B := w3.heap.size) (by kernel_rfl) ?_;refine cy 1 ?_;refine bO rfl (fun _ => aA call145 rfl (evc ajL evn)) (bw aj fun w' hw => lR n w' HEV) ?_;simp only [aa];refine cy 2 ?_;refine ajK (fun _ hw => dp (c := y) rfl ajL ((HS3.out.below (aT HS3) hw).range)) ?_;refine bO ajw (fun _ => aA call146 rfl (evc ajL evn)) (bw aj fun w' hw => rY y w' HM) ?_;simp only [aa];refine cy 3 ?_;refine ajK (fun _ hw => dp (c := y) rfl ajL ((HS3.out.below (aT HS3) hw).range)) ?_;refine bO ajw (fun _ => aA call147 rfl (evc ajL evn)) (bw aj fun w' hw => adl y w' HI HM) ?_;simp only [aa];refine cy 1 ?_;refine ajK (fun _ hw => uy rfl ajL) ?_;refine ajK (fun _ hw => iC HLL rfl ajL (aP (HR3.out.below HR3.out.lt hw))) ?_;refine ajK (fun _ hw => q6 true HFL HLL rfl ajL ajL HD) ?_;refine cy 1 ?_;refine wpQuiet_nil ?_;intro w4 hw;have HW4 := ae (HW3.out.keep hw);have HR4 := ae HW4.out.res;have HB4 := ae HW4.out.bel;have HLD := ae HW4.out.sup.range;clear HW3 HS3 HR3 hw;go_wp2_with fail;refine wp_region_still_tail 3 (by kernel_rfl) (by kernel_rfl) ?_;simp only [ac];refine aN rfl (aL rfl ajL) ?_;simp only [aa];refine aN rfl (dp (c := y) rfl ajL HLD) ?_;simp only [aa];refine aN rfl (eA rfl ajL) ?_;simp only [aa];refine wpStill_nil ?_;change wpList _ _ _ _ _ (World.drew _);refine bK rfl (eh (c := y) rfl (ev rfl) (ev rfl) HR4.out) ?_;simp only [aa];refine aF 1 ?_;go_wp2_with fail;refine bodyPost_ret (lG (t := 198) (cs := bz y) rfl _ _ _ rfl ?h1 underlying198 rfl ?h2) rfl ⟨by rw [HN.out, HL.out, HY.out]; rfl, ?h3⟩
 case h1 => exact World.rangeAt_setCells_same _ _ _ _ (by rw [a7]; exact HR4)
 case h2 => rw [a7]; exact jV
 case h3 => exact below_setCells (bd HB4) (Nat.le_succ _) _
theorem xr (b : Blk) (w : World) (T : Tab w) : Calls prog 159 #[blk b] w fun e w' => e = .returned (.tuple #[.int .u64 (gsN b : Nat), sup (gsS b), .int .i64 (gsE b : Nat)]) /\ Below w.heap.size w w' := by
 by_cases h0 : fd b.toList = 0
 ·by_cases hev : evB (g7 b.toList) = true
  ·by_cases hm : gF (cH (eC b.toList)) = true
   ·by_cases hd : dN (cH (eC b.toList)) = eC b.toList
    ·have hE := ahL h0 ⟨hev, hm, hd⟩;rw [ahp hE, agL hE, hE];exact aam b w T h0 hev hm hd
    ·have hE := oF h0 (fun h => hd h.2.2);rw [r6 (by omega), rI (by omega), hE];exact abf b w T h0 hev hm hd
   ·have hE := oF h0 (fun h => hm h.2.1);rw [r6 (by omega), rI (by omega), hE];exact yZ b w T h0 hev (by simpa using hm)
  ·have hE := oF h0 (fun h => hev h.1);rw [r6 (by omega), rI (by omega), hE];exact aaw b w T h0 (by simpa using hev)
 ·have hE := acR h0;rw [r6 (by omega), rI (by omega), hE];exact vN b w T h0
end Go.Proofs.YtlmdklakcmnaiaaGreatDoor
