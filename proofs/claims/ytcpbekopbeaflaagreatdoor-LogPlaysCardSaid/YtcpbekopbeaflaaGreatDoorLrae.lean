import Derived.Test.YtcpbekopbeaflaaGreatDoorLrad
namespace Go.Proofs.YtcpbekopbeaflaaGreatDoor
set_option maxHeartbeats 8000000
open Go.Proofs.Tryz
open Go.RowKit
set_option linter.unusedVariables false
set_option maxRecDepth 100000
theorem zl (m c : Nat) (A : Option Addr) (b : List UInt8) (w : World) :
  Calls prog 153 #[.int .u64 0, .slice A m c] w fun e w' => e = .returned (.tuple #[blk (fo 0 b), .int .i64 (fE 0 b : Nat)]) /\ Below w.heap.size w w' := by
 have hA := (Below.refl w.heap.size w).alloc aj (.cells (cel aE).toArray 64);have HT := af (dj w aE 64);have HA := af hA;clear hA;rw [show fo 0 b = aE from rfl, show fE 0 b = 2 from rfl];go_enter func153, ntmps153;go_wp2_with (first | (refine ax rfl (aV rfl) ?_) | (refine ax rfl (ca (c := aE) (parts := []) rfl rfl) ?_) | (refine aW rfl (aX rfl rfl rfl HT.out) ?_));refine bodyPost_ret (b9 rfl _ _ _ rfl (World.rangeAt_setCells_same _ _ _ _ (by rw [aG]; exact HT))) rfl ⟨rfl, below_setCells HA aj _⟩
theorem xS (n m c : Nat) (A : Option Addr) (b : List UInt8) (w : World) (hb : b.length = m) (h0 : 0 < n) (hm : 44 < m) (hm2 : m <= maxLen) :
  Calls prog 153 #[.int .u64 n, .slice A m c] w fun e w' => e = .returned (.tuple #[blk (fo n b), .int .i64 (fE n b : Nat)]) /\ Below w.heap.size w w' := by
 have hA := (Below.refl w.heap.size w).alloc aj (.cells (cel aE).toArray 64);have HT := af (dj w aE 64);have HA := af hA;have hE : fE n b = 3 := by unfold fE; rw [if_neg (by omega), if_pos (by omega)]
 have hB : fo n b = aE := by unfold fo; rw [hE]; rfl
 rw [hE, hB];unfold maxLen at hm2;clear hA hE hB hb;have hz : ((n : Int) == 0) = false := by simp; omega
 go_enter func153, ntmps153;go_wp2_with (first | (refine ax rfl (aV rfl) ?_) | (refine ax rfl (ca (c := aE) (parts := []) rfl rfl) ?_) | (refine aW rfl (aX rfl rfl rfl HT.out) ?_));refine bodyPost_ret (b9 rfl _ _ _ rfl (World.rangeAt_setCells_same _ _ _ _ (by rw [aG]; exact HT))) rfl ⟨rfl, below_setCells HA aj _⟩
theorem iu (n k B : Nat) (w : World) (HB : Hid (B = w.heap.size)) (hn : n < 18446744073709551616) (h1 : 1 <= k) (h2 : k <= 8) (hk : n < 2 ^ (8 * k)) :
  Calls prog 152 #[.int .u64 n, .int .i64 k] w fun e w' => ∃ v, e = .returned (.tuple #[v, .int .i64 0]) /\ Made w' B v (bw 8 k n) /\ Below B w w' :=
 (acj n k B w HB hn h1 h2).mono fun e w' ⟨⟨hy, _⟩, hb⟩ => by
  obtain ⟨v, he, hm⟩ := hy hk;exact ⟨v, he, hm, hb⟩
def qu (n : Nat) (b : List UInt8) (k : Nat) : List UInt8 := bw 8 8 n ++ b ++ List.replicate k 0
theorem kI (n : Nat) (b : List UInt8) (k : Nat) : (qu n b k).length = 8 + b.length + k := by simp [qu, aL]; omega
theorem zS (n : Nat) (b : List UInt8) : qu n b 0 = bw 8 8 n ++ b := by simp [qu]
theorem aaD (n : Nat) (b : List UInt8) (k : Nat) : qu n b k ++ [0] = qu n b (k + 1) := by simp [qu, List.replicate_succ']
theorem zM (n : Nat) (b : List UInt8) (k : Nat) (h : 8 + b.length + k = 52) : qu n b k = eW n b := by
 unfold qu eW di;rw [show 44 - b.length = k from by omega, List.append_assoc]
def aj1 : Value -> Nat
 |.slice _ n _ => n
 |_ => 0
def ai9 (n m : Nat) (b : List UInt8) (B : Nat) (w1 : World) (v : Value) (wr : World) : Prop := ∃ k : Nat, 8 + m + k <= 52 /\ Made wr B v (qu n b k) /\ Below B w1 wr
theorem afO (w : World) : Rd (w.alloc (.cells #[.int .u8 0] 5)) (w.heap.size + 1) (some ⟨w.heap.size, 0, none⟩) 1 [0] := ahr w [0] #[.int .u8 0] rfl
theorem aa1 (n m c N : Nat) (A : Option Addr) (b : List UInt8) (w : World) (hn : n < 18446744073709551616) (h0 : 0 < n) (hb : Rd w N A m b) (hN : N <= w.heap.size) (hm : m <= 44) :
  Calls prog 153 #[.int .u64 n, .slice A m c] w fun e w' => e = .returned (.tuple #[blk (fo n b), .int .i64 (fE n b : Nat)]) /\ Below w.heap.size w w' := by
 have hl := hb.1;have hbl : b.length <= 44 := by omega
 have hE : fE n b = 0 := sN (by omega) hbl;have hB : fo n b = ofL (gq n b) := y6 hE;rw [hE, hB];have hA := (Below.refl w.heap.size w).alloc aj (.cells (cel aE).toArray 64);have HA := af hA;have HR := af (hb.below (hA.mono hN));have HRES := af (ci.blk w aE 64);have HLB := af hl;have HN := af hn;have HNN := af hN;have HL64 := af (j4 n hbl);have HH52 := af (ix n hbl);have HC := af (oW (s := 0) (by omega) (eW n b));clear hl hbl hE hB hA hn hb hN;have hz : ((n : Int) == 0) = false := by simp; omega
 go_enter func153, ntmps153;go_wp2_with (first | (refine ax rfl (aV rfl) ?_) | fail);have hn := HN.out;refine (iu n 8 _ _ (af rfl) hn (by omega) (by omega) hn).mono ?_;rintro e w1 ⟨v1, rfl, hm1, hb1⟩;obtain ⟨A1, c1, rfl, hr1, hcc1, hcc2⟩ := hm1.open_ (aL 8 8 n);clear hn hm1 hcc1 hcc2;have hs1 := hb1.size;have HRES1 := af (ci.below HRES (by simp only [World.size_alloc]; omega) hb1);have HR1 := af (HR.out.below (hb1.mono (by have := HNN.out; simp only [World.size_alloc]; omega)));have HB1 := af (HA.out.trans (hb1.mono (by simp only [World.size_alloc]; omega)));have HD1 := af hr1;have HS1 : Hid (w.heap.size + 1 <= w1.heap.size) := af (by simpa only [World.size_alloc] using hs1);clear hr1 hb1 hs1 HR HRES HA;obtain ⟨r, hr⟩ : ∃ r, w.heap.size = r := ⟨_, rfl⟩;have HRR := af hr;rw [hr] at HRES1 HS1 HNN;rw [hr];clear hr;go_wp2_with fail;obtain ⟨B, hB⟩ : ∃ B, B = w1.heap.size := ⟨_, rfl⟩;have HB := af hB;rw [<- hB] at HD1 HS1;clear hB;refine (iM A1 8 c1 B B (bw 8 8 n) _ HB HD1 aj (by omega)).mono ?_;rintro e w2 ⟨v2, rfl, hm2, hb2⟩;have hR2 := HR1.out.below (hb2.mono (by have := HNN.out; have := HS1.out; omega));have HBle := af (show B <= w2.heap.size from ap (Nat.le_of_eq HB) hb2.size);go_wp2_with (at_builtin; refine fK rfl _ _ rfl B N m c _ (bw 8 8 n) b A rfl rfl hm2 hR2 HBle ?c1 ?_)
 case c1 => rw [aL]; omega
 intro v3 w3 hm3 hg3;have hb3 : Below B w1 w3 := hb2.grown hg3 HBle (fun k hk => (hm2.lt k hk).1);rw [<- zS] at hm3;have HM3 := af hm3;have HB3 := af hb3;clear hm2 hb2 hR2 hm3 hg3 hb3 HBle;go_wp2
 go_loopw [8] (fun v wr => ai9 n m b B w1 v wr) (fun v _ => 52 - aj1 v)
 case atStart => exact ⟨0, by omega, HM3, HB3⟩
 case round =>
  obtain ⟨k, hk, hmr, hbr⟩ := hrel;obtain ⟨A', c', rfl, hr', hc1, hc2⟩ := hmr.open_ (n := 8 + m + k) (by rw [kI, HLB.out]);unfold maxLen at hc2;have hBr : B <= wr.heap.size := ap (Nat.le_of_eq HB) hbr.size;have HMR := af hmr;have HBR := af hbr;have HRR' := af hr';by_cases hlt : 8 + m + k < 52
  ·have hma := hmr.below ((Below.refl wr.heap.size wr).alloc aj (.cells #[.int .u8 0] 5));have hba : Below B w1 (wr.alloc (.cells #[.int .u8 0] 5)) := hbr.alloc hBr _;have hra := afO wr;clear hmr hbr hr';go_wp2_with (at_builtin; refine fK rfl _ _ rfl B _ 1 1 _ (qu n b k) [0] _ rfl rfl hma hra ?c2 ?c3 ?_)
   case c2 => simp only [World.size_alloc]; omega
   case c3 => rw [kI, HLB.out]; omega
   intro v4 w4 hm4 hg4;rw [aaD] at hm4;have HM4 := af hm4;have HB4 := af (hba.grown hg4 (by simp only [World.size_alloc]; omega) (fun k hk => (hma.lt k hk).1));obtain ⟨A5, c5, rfl, _, _, _⟩ := hm4.open_ (n := 8 + m + (k + 1)) (by rw [kI, HLB.out]);clear hm4 hg4 hma hba hra;go_wp2;go_roundw
   case rel => exact ⟨k + 1, by omega, HM4, HB4⟩
   case measure => simp [aj1]; omega
  ·have hk52 : 8 + m + k = 52 := by omega
   have HPK := af (zM n b k (by rw [HLB.out]; exact hk52));rw [hk52] at HMR HRR' hc1 ⊢;rw [HPK.out] at HMR HRR';clear hmr hbr hr' hlt hk hk52 HPK;go_wp2_with fail;refine (nN A' 52 c' _ (eW n b) _ HRR' (by unfold maxLen; omega)).mono ?_;rintro e w5 ⟨rfl, rfl⟩;obtain ⟨s, hs⟩ : ∃ s, more 0 (eW n b) = s := ⟨_, rfl⟩;have hs32 := HC.out;rw [hs] at hs32 ⊢;have HSS := af hs;clear hs;go_wp2_with fail;refine (iu s 4 _ _ (af rfl) (by omega) (by omega) (by omega) (by omega)).mono ?_;rintro e w5 ⟨v5, rfl, hm5, hb5⟩;obtain ⟨A5, c5, rfl, hr5, hcc1, hcc2⟩ := hm5.open_ (aL 8 4 s);have hmr5 := HMR.out.below hb5;have hbr5 : Below B w1 w5 := HBR.out.trans (hb5.mono hBr);have hB5 : B <= w5.heap.size := ap hBr hb5.size;clear hm5 hb5 hcc1 hcc2 hs32;go_wp2_with (at_builtin; refine fK rfl _ _ rfl B _ 4 c5 _ (eW n b) (bw 8 4 s) A5 rfl rfl hmr5 hr5 hB5 ?c4 ?_)
   case c4 => rw [HH52.out]; omega
   intro v6 w6 hm6 hg6;have HM6 := af hm6;have HB6 := af (hbr5.grown hg6 hB5 (fun k hk => (hmr5.lt k hk).1));clear hmr5 hbr5 hm6 hg6 hr5;have hB6 : B <= w6.heap.size := ap (Nat.le_of_eq HB) HB6.out.size;have hm6 := HM6.out;have hr6 := HD1.out.below HB6;go_wp2_with (at_builtin; refine fK rfl _ _ rfl B B 8 c1 _ (eW n b ++ bw 8 4 s) (bw 8 8 n) A1 rfl rfl hm6 hr6 hB6 ?c5 ?_)
   case c5 => rw [List.length_append, HH52.out, aL]; omega
   intro v7 w7 hm7 hg7;have hseal : eW n b ++ (bw 8 4 s ++ bw 8 8 n) = gq n b := by rw [<- HSS.out]; rfl
   rw [hseal] at hm7;obtain ⟨q, c7, rfl, hq7, hc71, hc72⟩ := hm7.smn (by rw [HL64.out]; omega);rw [HL64.out] at hm7 hc71 ⊢;unfold maxLen at hc72;have hrd7 := hm7.rd;have HB7 := af (HB6.out.grown hg7 hB6 (fun k hk => (hm6.lt k hk).1));have HRD7 := af hrd7;clear hm7 hg7 hm6 hr6 hseal hrd7 HM6 HB6 HMR HRR' HBR;have hO := yk w7 aE 64;have hb8 := (Below.refl w7.heap.size w7).alloc aj (.cells (cel aE).toArray 64);go_wp2_with (first | (refine ax rfl (aV rfl) ?_) | fail);generalize hg2 : w7.heap.size = g2 at *;have HG2 := af hg2;have HB8 := af hb8;have HO := af hO;clear hg2 hb8 hO
   go_loopw [12] (fun i wr => ∃ (j : Nat) (f : Nat -> Int), j <= 64 /\ i = .int .i64 j /\ wr.rowIs g2 64 64 (fun j => .int .u8 (f j)) /\ (∀ m, m < j -> f m = bt (gq n b) m) /\ Below g2 w7 wr) (fun i _ => 64 - (intOf i).toNat)
   case atStart => exact ⟨0, byt aE, by omega, rfl, HO, fun m hm => absurd hm (by omega), HB8⟩
   case round =>
    clear HO HB8;obtain ⟨j, f, hj, rfl, hrow, hf, hbl⟩ := hrel;have HF := af hf;clear hf;by_cases hlt : j < 64
    ·have hc1 := hrow.cell (i := j) (by omega);have hfr := hrow.frozen j;have hrd := (HRD7.out.below hbl).2 j hlt;obtain ⟨bA, oA, hA1, hA2, hA3⟩ := hrd;injection hA1 with hA1;injection hA1 with e1 e2;subst e1 e2;rw [Nat.zero_add] at hA3;go_wp2_with fail;go_roundw
     case rel =>
      refine ⟨j + 1, upd f j (bt (gq n b) j), by omega, by go_num, yl hrow _, ?_, hbl.setCell (by simp) _⟩;intro m hm;by_cases e : m = j
      ·subst e; exact xp _ _ _
      ·rw [s9 _ _ e]; exact HF.out m (by omega)
     case measure => simp [intOf]; omega
    ·have hj64 : j = 64 := by omega
     subst hj64;have hr := rF (c := ofL (gq n b)) (o := 0) hrow (by omega) (fun m hm => by rw [Nat.zero_add, HF.out m hm, o6 _ hm]);have HR2 := af hr;have hBX : Below B w1 wr := HB7.out.trans (hbl.mono (by rw [<- HG2.out]; exact ap (Nat.le_of_eq HB) HB7.out.size));have HRX := HRES1.out.below (by have := HS1.out; omega) hBX;have HTH : Hid (wr.there r 0 64) := af (rI HRX.row (by simp));have HBB : Hid (Below w.heap.size w wr) := af (HB1.out.trans (hBX.mono (by rw [HRR.out]; have := HS1.out; omega)));clear hr hbl hrow hBX HRX;go_wp2_with (first | (refine ax rfl (aU rfl rfl HR2.out) ?_) | (refine aW rfl (aX rfl rfl rfl HTH.out) ?_) | fail);refine bodyPost_ret (b9 rfl _ _ _ rfl (World.rangeAt_setCells_same _ _ _ _ (by rw [aG]; exact HTH))) rfl ⟨rfl, below_setCells HBB (Nat.le_of_eq HRR) _⟩
theorem rO (n m c N : Nat) (A : Option Addr) (b : List UInt8) (w : World) (hn : n < 18446744073709551616) (hb : Rd w N A m b) (hN : N <= w.heap.size) (hm : m <= maxLen) :
  Calls prog 153 #[.int .u64 n, .slice A m c] w fun e w' => e = .returned (.tuple #[blk (fo n b), .int .i64 (fE n b : Nat)]) /\ Below w.heap.size w w' := by
 by_cases h0 : n = 0
 ·subst h0;exact zl m c A b w
 ·by_cases h44 : m <= 44
  ·exact aa1 n m c N A b w hn (by omega) hb hN h44
  ·exact xS n m c A b w hb.1 (by omega) (by omega) hm
theorem zm (w : World) (ty B N m c : Nat) (v : Value) (l l' : List UInt8) (ad : Addr) (hm : Made w B v l) (hr : Rd w N (some ad) m l') (h0 : 0 < m) (hsum : l.length + m <= 140737488355328) :
  ∀ v' w', (Builtin.append_ #[143, 143] ty #[v, .slice (some ad) m c]).run prog w = .ok v' w' -> v'.ownBlock = v.ownBlock \/ v'.ownBlock = some w.heap.size := by
 obtain ⟨i0, hi, hz0, hz1, hz2⟩ := info_parts sy;intro v' w' hrun;have hl : (l'.map fun u => Value.int .u8 (u.toNat : Int)).length = m * i0.size := by rw [hz1, List.length_map, hr.1, Nat.mul_one]
 have h1 : ∀ u ∈ l'.map (fun u => Value.int .u8 (u.toNat : Int)), u.oneCell' = true := by
  intro u hu;simp at hu;obtain ⟨x, _, rfl⟩ := hu
  rfl
 rcases hm.2 with ⟨rfl, hn⟩ | ⟨g, cap, cur, rfl, _, hg, hnc, _, hcs, _⟩
 ·rw [run_append_nil (P := prog) w 143 ty 5 i0 _ underlying143 hi hz0 ad m c _ hl (jn hr) h0 (by omega) (by rw [hz2]; omega)] at hrun;injection hrun with e1 e2;subst e1;exact .inr rfl
 ·by_cases hroom : l.length + m <= cap
  ·rw [run_append_room (P := prog) w 143 ty 5 i0 underlying143 hi g l.length cap cur hg ad m c _ hl (jn hr) h1 hroom (by rw [hl, hz1, hcs]; omega)] at hrun;injection hrun with e1 e2;subst e1;exact .inl rfl
  ·have hown := hm;rw [run_append_grow (P := prog) w 143 ty 5 i0 _ underlying143 hi hz0 ⟨g, 0, none⟩ l.length cap (l.map fun u => Value.int .u8 (u.toNat : Int)) (by rw [hz1]; simp) (World.ownsRow.cells hm (g := g) rfl) ad m c _ hl (jn hr) (by omega) (by omega) (by rw [hz2]; exact growslice_fits (by omega) (by omega))] at hrun;injection hrun with e1 e2;subst e1;exact .inr rfl
theorem i4 {w : World} {ops : Array Oper} {rest : List Oper} {o : Oper} {a : Act} {Q : Exit -> Act -> World -> Prop} (hgd : o.guard = none) (s x : Operand)
  (ho : o.op = .call { callee := .builtin .append, args := #[s, x], argTypes := #[143, 143] })
  (B N m c : Nat) (v : Value) (l l' : List UInt8) (A : Option Addr) (hs : a.eval s = v) (hx : a.eval x = .slice A m c) (hm : Made w B v l) (hr : Rd w N A m l') (h0 : 0 < m) (hB : B <= w.heap.size) (hsum : l.length + m <= 140737488355328)
  (h : ∀ v' w', Made w' B v' (l ++ l') -> w.grownBy w' v.ownBlock -> (v'.ownBlock = v.ownBlock \/ v'.ownBlock = some w.heap.size) -> wpList prog ops Q rest (a.put o.dst v') w') : wpList prog ops Q (o :: rest) a w := by
 refine wpList_plain hgd fun K hK => ?_
 obtain ⟨v', w', hrun, h1, h2⟩ := yI w o.type B N m c v l l' A hm hr hB hsum;obtain ⟨ad, rfl⟩ : ∃ ad, A = some ad := by
  obtain ⟨b, off, e, _⟩ := hr.2 0 h0;exact ⟨_, e⟩
 have h3 := zm w o.type B N m c v l l' ad hm hr h0 hsum v' w' hrun;unfold Oper.wp;simp [execOp, ho, resolve, invoke, builtin, hs, hx, hrun, Result.andThen];exact hK _ _ (h v' w' h1 h2 h3)
theorem Made.apart {w w' : World} {B : Nat} {v : Value} {l : List UInt8} {row : Option Nat} (h : Made w B v l) (hg : w.grownBy w' row) (hne : ∀ k, v.ownBlock = some k -> row ≠ some k) : Made w' B v l := by
 refine World.ownsRow.kept h hg ?_;rcases hv : v.ownBlock with _ | k
 ·exact .inl rfl
 ·exact .inr (fun e => hne k hv e.symm)
set_option linter.unusedSimpArgs false
theorem ad0 (x : Mrk) {R : Nat} (h : x.ring.toNat = R) : bw 8 8 x.id ++ (bw 8 2 R ++ (bw 8 8 x.first ++ bw 8 8 x.pos)) = fb x := by
 unfold fb;rw [h]
theorem ah4 (x : Mrk) (w : World) (hf : x.fit) (hx : d9 x = true) : Calls prog 171 #[mrk x] w fun e w' => ∃ v, e = .returned v /\ Made w' w.heap.size v (fb x) /\ Below w.heap.size w w' := by
 obtain ⟨h1, h2, h3⟩ := gk w x;have HS0 := af h1;have HB0 := af h2;have HZ0 := af h3;obtain ⟨-, q1, q2, -, -, -⟩ := kr hx;obtain ⟨f1, f2, f3⟩ := hf;obtain ⟨R, hR⟩ : ∃ R : Nat, x.ring.toNat = R := ⟨_, rfl⟩;have HBD := af (ad0 x hR);have hR256 : R <= 256 := by omega
 have HC : Hid (∀ w' s, cq w' s x -> w'.cell? ⟨s, 0, none⟩ = some (.int .u64 x.id) /\ w'.cell? ⟨s, 1, none⟩ = some (.int .i64 (R : Nat)) /\ w'.cell? ⟨s, 2, none⟩ = some (.int .u64 x.first) /\ w'.cell? ⟨s, 3, none⟩ = some (.int .u64 x.pos)) := af fun w' s h => by
  have := h.cells;rw [show x.ring = (R : Int) from by omega] at this;exact this
 have HF1 := af f1;have HF2 := af f2;have HF3 := af f3;clear h1 h2 h3 q1 q2 f1 f2 f3 hR hx;go_enter func171, ntmps171;go_upto_region 1 with (first | (refine au rfl (gA rfl rfl) ?_) | fail);generalize w.alloc (.cells (bJ x).toArray 95) = w0 at *;obtain ⟨s, hs⟩ : ∃ s, w.heap.size = s := ⟨_, rfl⟩;have HSD := af hs;rw [hs] at HS0 HB0 HZ0 ⊢;clear hs;obtain ⟨c0, c1, c2, c3⟩ := HC.out _ _ HS0;go_wp2_with fail;clear c0 c1 c2 c3;refine (iu x.id 8 _ w0 (af rfl) HF1 (by omega) (by omega) (by have := HF1.out; simpa using this)).mono ?_;rintro e w1 ⟨v1, rfl, hm, hb⟩;have HM1 := af hm;have HU1 : Hid (∀ k, v1.ownBlock = some k -> k < w1.heap.size) := af fun k hk => (hm.lt k hk).2
 have HS1 := af (HS0.out.below HZ0 hb);have HB1 := af (HB0.out.trans (hb.mono (Nat.le_of_lt HZ0)));have HZ1 : Hid (s < w1.heap.size) := af (aq HZ0 hb.size);have HL1 := af hb.size;clear hm hb HS0 HB0;obtain ⟨c0, c1, c2, c3⟩ := HC.out _ _ HS1;go_wp2_with fail;clear c0 c1 c2 c3;refine (iu R 2 _ w1 (af rfl) (by omega) (by omega) (by omega) (by omega)).mono ?_;rintro e w2 ⟨v2, rfl, hm, hb⟩;have HM2 := af hm;have HM1 := af (HM1.out.below hb);have HS2 := af (HS1.out.below HZ1 hb);have HB2 := af (HB1.out.trans (hb.mono (Nat.le_of_lt HZ1)));have HZ2 : Hid (s < w2.heap.size) := af (aq HZ1 hb.size);have HL2 := af hb.size;clear hm hb HS1 HB1;obtain ⟨c0, c1, c2, c3⟩ := HC.out _ _ HS2;go_wp2_with fail;clear c0 c1 c2 c3;refine (iu x.first 8 _ w2 (af rfl) HF2 (by omega) (by omega) (by have := HF2.out; simpa using this)).mono ?_;rintro e w3 ⟨v3, rfl, hm, hb⟩;have HM3 := af hm;have HU3 : Hid (∀ k, v3.ownBlock = some k -> w2.heap.size <= k) := af fun k hk => (hm.lt k hk).1
 have HM1 := af (HM1.out.below hb);have HM2 := af (HM2.out.below hb);have HS3 := af (HS2.out.below HZ2 hb);have HB3 := af (HB2.out.trans (hb.mono (Nat.le_of_lt HZ2)));have HZ3 : Hid (s < w3.heap.size) := af (aq HZ2 hb.size);have HL3 := af hb.size;clear hm hb HS2 HB2;obtain ⟨c0, c1, c2, c3⟩ := HC.out _ _ HS3;go_wp2_with fail;clear c0 c1 c2 c3;refine (iu x.pos 8 _ w3 (af rfl) HF3 (by omega) (by omega) (by have := HF3.out; simpa using this)).mono ?_;rintro e w4 ⟨v4, rfl, hm, hb⟩;have HM4 := af hm;have HU4 : Hid (∀ k, v4.ownBlock = some k -> w3.heap.size <= k /\ k < w4.heap.size) := af fun k hk => hm.lt k hk
 have HM1 := af (HM1.out.below hb);have HM2 := af (HM2.out.below hb);have HM3 := af (HM3.out.below hb);have HS4 := af (HS3.out.below HZ3 hb);have HB4 := af (HB3.out.trans (hb.mono (Nat.le_of_lt HZ3)));have HZ4 : Hid (s < w4.heap.size) := af (aq HZ3 hb.size);have HL4 := af hb.size;clear hm hb HS3 HB3;have HG1 : Hid (Made w4 s v1 (bw 8 8 x.id)) := af (HM1.out.base (Nat.le_of_lt HZ0));have HE2 := af (aL 8 2 R);have HE3 := af (aL 8 8 x.first);have HE4 := af (aL 8 8 x.pos);have HE1 := af (aL 8 8 x.id);obtain ⟨A2, c2, rfl, hr2, _, _⟩ := HM2.out.open_ HE2;have HR2 := af hr2;clear hr2;have HW4 : Hid (s <= w4.heap.size) := af (Nat.le_of_lt HZ4);go_wp2_with (first | (refine i4 rfl _ _ rfl s _ 2 c2 v1 (bw 8 8 x.id) (bw 8 2 R) A2 rfl rfl HG1 HR2 (by omega) HW4 (by rw [HE1.out]; omega) ?_) | fail);intro u1 w5 hm hg hw;have HG2 := af hm;have HM3' := af (HM3.out.apart hg (fun k hk e => by have := HU1.out k e; have := HU3.out k hk; have := HL2.out; omega));have HM4' := af (HM4.out.apart hg (fun k hk e => by have := HU1.out k e; have := HU4.out k hk; have := HL2.out; have := HL3.out; omega));have HB5 : Hid (Below s w w5) := af (HB4.out.grown hg HW4 (fun k hk => (HG1.out.lt k hk).1));have HV : Hid (∀ k, u1.ownBlock = some k -> k < w1.heap.size \/ k = w4.heap.size) := af fun k hk => by
  rcases hw with h | h
  ·rw [h] at hk; exact .inl (HU1.out k hk)
  ·rw [h] at hk; injection hk with e; exact .inr e.symm
 have HW5 : Hid (s <= w5.heap.size) := af (ap HW4 hg.size);clear hm hg hw HG1 HR2 HB4 HM1 HM2 HM3 HM4;obtain ⟨A3, c3, rfl, hr3, _, _⟩ := HM3'.out.open_ HE3;have HR3 := af hr3;clear hr3;go_wp2_with (first | (refine i4 rfl _ _ rfl s _ 8 c3 u1 (bw 8 8 x.id ++ bw 8 2 R) (bw 8 8 x.first) A3 rfl rfl HG2 HR3 (by omega) HW5 (by rw [List.length_append, HE1.out, HE2.out]; omega) ?_) | fail);intro u2 w6 hm hg hw;have HG3 := af hm;have HM4 := af (HM4'.out.apart hg (fun k hk e => by have := HV.out k e; have := HU4.out k hk; have := HL2.out; have := HL3.out; omega));have HB6 : Hid (Below s w w6) := af (HB5.out.grown hg HW5 (fun k hk => (HG2.out.lt k hk).1));have HW6 : Hid (s <= w6.heap.size) := af (ap HW5 hg.size);clear hm hg hw HG2 HR3 HB5 HM3' HM4' HV;obtain ⟨A4, c4, rfl, hr4, _, _⟩ := HM4.out.open_ HE4;have HR4 := af hr4;clear hr4;go_wp2_with (first | (refine i4 rfl _ _ rfl s _ 8 c4 u2 (bw 8 8 x.id ++ bw 8 2 R ++ bw 8 8 x.first) (bw 8 8 x.pos) A4 rfl rfl HG3 HR4 (by omega) HW6 (by rw [List.length_append, List.length_append, HE1.out, HE2.out, HE3.out]; omega) ?_) | fail);intro u3 w7 hm hg hw;rw [HBD.out] at hm;have HG4 := af hm;have HB7 : Hid (Below s w w7) := af (HB6.out.grown hg HW6 (fun k hk => (HG3.out.lt k hk).1));clear hm hg hw HG3 HB6 HR4 HM4;go_wp2_with fail;go_ret;exact ⟨_, rfl, by rw [HSD.out]; exact HG4, by rw [HSD.out]; exact HB7⟩
theorem agJ (n : Nat) (x : Mrk) (w : World) (hn : n < 18446744073709551616) (hf : x.fit) :
  Calls prog 127 #[.int .u64 n, mrk x] w fun e w' => e = .returned (.tuple #[blk (bf.pB ⟨n, x⟩), .int .i64 (bf.pE ⟨n, x⟩ : Nat)]) /\ Below w.heap.size w w' := by
 obtain ⟨h1, h2, h3⟩ := gk w x;have HS := af (h1.past (.cells (cel aE).toArray 64));have HB := af (h2.alloc h2.size (.cells (cel aE).toArray 64));have HN := af hn;have HI := af hf;have HR : Hid (((w.alloc (.cells (bJ x).toArray 95)).alloc (.cells (cel aE).toArray 64)).there (w.heap.size + 1) 0 64) := af (by
  have := dj (w.alloc (.cells (bJ x).toArray 95)) aE 64;rwa [World.size_alloc] at this)
 have HZ : Hid (w.heap.size + 1 < ((w.alloc (.cells (bJ x).toArray 95)).alloc (.cells (cel aE).toArray 64)).heap.size) := af (by simp only [World.size_alloc]; omega);clear h1 h2 h3 hn hf;go_enter func127, ntmps127;go_upto_region 1 with (first | (refine au rfl (gA rfl rfl) ?_) | (refine au rfl (aV rfl) ?_) | fail)
 try simp only [World.size_alloc]
 generalize (w.alloc (.cells (bJ x).toArray 95)).alloc (.cells (cel aE).toArray 64) = w1 at *;by_cases k0 : n < 1
 ·have H0 : Hid (decide ((n : Int) < 1) = true) := af (ao (by omega));have hmay : ¬ bf.may ⟨n, x⟩ = true := by rw [eL, show evB n = false from am (by omega), Bool.false_and]; decide
  have HPB := af (bf.ql hmay);have HPE := af (bf.pG hmay);clear k0 hmay;refine aY 1 ?_;refine ak1 (a8 true rfl alb evk H0) ?_;refine aI 2 rfl (aB rfl alb) (by kernel_rfl) ?_;simp only [aP, ae, aa];refine runs 1 ?_;refine aI 3 rfl (aB rfl alb) (by kernel_rfl) ?_;simp only [aP, ae, aa];refine aQ 1 ?_;go_wp2_with (first | (refine au rfl (ca (c := aE) (parts := []) rfl rfl) ?_) | (refine aH rfl (aX (c := aE) rfl rfl rfl ?_) ?_; (with_reducible exact HR.out)) | fail);refine bodyPost_ret (b9 rfl _ _ _ rfl (World.rangeAt_setCells_same _ _ _ _ (by rw [aG]; exact HR))) rfl ⟨by rw [HPB.out, HPE.out]; rfl, below_setCells HB (Nat.le_succ _) _⟩
 ·have H0 : Hid (decide ((n : Int) < 1) = false) := af (am (by omega));refine aY 1 ?_;refine ak1 (a8 false rfl alb evk H0) ?_;refine runs 2 ?_;by_cases k1 : 4611686018427387904 < n
  ·have H1 : Hid (decide ((4611686018427387904 : Int) < (n : Int)) = true) := af (ao (by omega));have hmay : ¬ bf.may ⟨n, x⟩ = true := by rw [eL, show evB n = false from am (by omega), Bool.false_and]; decide
   have HPB := af (bf.ql hmay);have HPE := af (bf.pG hmay);clear k0 k1 hmay;refine ak8 (bM true rfl alb evk H1) ?_;refine runs 1 ?_;refine aI 3 rfl (aB rfl alb) (by kernel_rfl) ?_;simp only [aP, ae, aa];refine aQ 1 ?_;go_wp2_with (first | (refine au rfl (ca (c := aE) (parts := []) rfl rfl) ?_) | (refine aH rfl (aX (c := aE) rfl rfl rfl ?_) ?_; (with_reducible exact HR.out)) | fail);refine bodyPost_ret (b9 rfl _ _ _ rfl (World.rangeAt_setCells_same _ _ _ _ (by rw [aG]; exact HR))) rfl ⟨by rw [HPB.out, HPE.out]; rfl, below_setCells HB (Nat.le_succ _) _⟩
  ·have H1 : Hid (decide ((4611686018427387904 : Int) < (n : Int)) = false) := af (am (by omega));have HEV : Hid (evB n = true) := af (ao (by omega));have HN0 : Hid (n ≠ 0) := af (by omega);clear k0 k1;refine ak8 (bM false rfl alb evk H1) ?_;refine runs 2 ?_;refine ak8 (bN (c := x) rfl alb HS.out.range) ?_;refine aD akW (aC call161 rfl (evc alb evn)) ?_;by_cases hm : d9 x = true
   ·have HM := af hm;have hmay : bf.may ⟨n, x⟩ = true := by rw [eL, HEV.out, hm]; rfl
    have HPB : Hid (bf.pB ⟨n, x⟩ = fo n (fb x)) := af (bf.yX hmay);have HPE := af (bf.qo hmay);clear hm hmay;refine (o5 x _ HM).mono ?_;rintro e w2 ⟨rfl, hb⟩;refine bp ?_;refine aQ 2 ?_;have HS2 := af (HS.out.below (aR HS) hb);have HB2 := af (HB.out.trans (hb.mono HB.out.size));have HR2 := af (aS HR HZ hb);have HZ2 : Hid (w.heap.size + 1 < w2.heap.size) := af (by have := hb.size; have := HZ.out; omega);clear hb HS HB HR HZ;go_wp2_with (first | (refine au rfl (bN (c := x) rfl rfl ?_) ?_; (with_reducible exact HS2.out.range)) | fail);refine (ah4 x w2 HI HM).mono ?_;rintro e w3 ⟨v, rfl, hv, hb⟩;obtain ⟨A, c, rfl, hrd, _, _⟩ := hv.open_ (j1 x);have HRD := af hrd;have HB3 := af (HB2.out.trans (hb.mono HB2.out.size));have HR3 := af (aS HR2 HZ2 hb);have HZ3 : Hid (w.heap.size + 1 < w3.heap.size) := af (by have := hb.size; have := HZ2.out; omega);clear hb hv hrd HS2 HB2 HR2 HZ2;go_wp2_with fail;refine (rO n 26 c _ A (fb x) w3 HN HRD aj (by unfold maxLen; omega)).mono ?_;rintro e w5 ⟨rfl, hb⟩;rw [show fE n (fb x) = 0 from bf.k7 ⟨n, x⟩ HN0.out];have HR5 := af (aS HR3 HZ3 hb);have HB5 := af (HB3.out.trans (hb.mono HB3.out.size));clear hb HRD HR3 HZ3 HB3;generalize fo n (fb x) = pb at *;go_wp2_with (first | (refine aH rfl (aX (c := pb) rfl rfl rfl ?_) ?_; (with_reducible exact HR5.out)) | fail);refine bodyPost_ret (b9 rfl _ _ _ rfl (World.rangeAt_setCells_same _ _ _ _ (by rw [aG]; exact HR5))) rfl ⟨by rw [HPB.out, HPE.out]; rfl, below_setCells HB5 (Nat.le_succ _) _⟩
   ·have hm' : d9 x = false := by simpa using hm
    have HM := af hm';have hmay : ¬ bf.may ⟨n, x⟩ = true := by rw [eL, hm', Bool.and_false]; decide
    have HPB := af (bf.ql hmay);have HPE := af (bf.pG hmay);clear hm hm' hmay;refine (o5 x _ HM).mono ?_;rintro e w2 ⟨rfl, hb⟩;refine bp ?_;refine aQ 2 ?_;have HB2 := af (HB.out.trans (hb.mono HB.out.size));have HR2 := af (aS HR HZ hb);clear hb HS HB HR HZ;go_wp2_with (first | (refine au rfl (ca (c := aE) (parts := []) rfl rfl) ?_) | (refine aH rfl (aX (c := aE) rfl rfl rfl ?_) ?_; (with_reducible exact HR2.out)) | fail);refine bodyPost_ret (b9 rfl _ _ _ rfl (World.rangeAt_setCells_same _ _ _ _ (by rw [aG]; exact HR2))) rfl ⟨by rw [HPB.out, HPE.out]; rfl, below_setCells HB2 (Nat.le_succ _) _⟩
section
variable {P : Program} {ops : Array Oper} {Q : Exit -> Act -> World -> Prop} {md : Region.Mode} {S : World -> Prop} {z : Nat}
def cu (P : Program) (md : Region.Mode) (ops : Array Oper) (Q : Exit -> Act -> World -> Prop) (S : World -> Prop) (z : Nat) : Nat -> Array Bool -> Act -> World -> Prop
 |0, listed, a, w => Region.ready md ops listed = [] /\ Q .normal a w
 |fuel + 1, listed, a, w =>
  (Region.ready md ops listed = [] -> Q .normal a w) /\
  ∀ i ∈ Region.ready md ops listed, wpOp P ops Q i (fun a' w' => (i ≠ z -> S w') /\ cu P md ops Q S z fuel (listed.setIfInBounds i true) a' w') a w
theorem pq : ∀ (fuel : Nat) (listed : Array Bool) (a : Act) (w : World), cu P md ops Q S z fuel listed a w -> wpAny P md ops Q fuel listed a w
 |0, _, _, _, h => h
 |fuel + 1, _, _, _, h => ⟨h.1, fun i hi => wpOp_mono (fun a' w' h' => pq fuel _ a' w' h'.2) (h.2 i hi)⟩
def js (md : Region.Mode) (ops : Array Oper) (z i : Nat) : Bool := match ops[z]? with
 |some o => o.after.any fun e => Region.binds md e && decide (e.on = i)
 |none => false
theorem p7 {listed : Array Bool} {i : Nat} (h : js md ops z i = true) (hi : listed.getD i false = false) : z ∉ Region.ready md ops listed := by
 intro hz;obtain ⟨_, o, ho, hall⟩ := mem_ready.1 hz;unfold js at h;rw [ho] at h;simp only [Array.any_eq_true, Bool.and_eq_true, decide_eq_true_eq] at h;obtain ⟨k, hk, hb, he⟩ := h;have := hall _ (Array.getElem_mem hk) hb;rw [he, hi] at this;cases this
theorem yB {listed : Array Bool} {i : Nat} (h : listed.getD i true = false) : listed.getD i false = false := by
 rcases Nat.lt_or_ge i listed.size with h' | h'
 ·simpa [h'] using h
 ·simp [Array.getElem?_eq_none h']
theorem sX {i : Nat} {oi : Oper} {v : Value} (hi : ops[i]? = some oi) (hsel : ∀ (j : Nat) (o : Oper) cs b, ops[j]? = some o -> o.op ≠ .select cs b)
  (hQ : ∀ c a w, Q (.panic c) (a.put oi.dst v) w -> Q (.panic c) a w) (hiz : i ≠ z) (hwz : js md ops z i = true) :
  ∀ (fuel : Nat) (listed : Array Bool) (a : Act) (w : World),
   (∀ j oj, ops[j]? = some oj -> j ≠ i -> listed.getD j true = false -> (∀ e ∈ oj.after, Region.binds md e = true -> e.on ≠ i) -> oi.apart ops oj = true) ->
   i ∈ Region.ready md ops listed -> YieldsIf P ops S oi v a -> S w ->
   cu P md ops Q S z fuel (listed.setIfInBounds i true) (a.put oi.dst v) w -> cu P md ops Q S z (fuel + 1) listed a w := by
 intro fuel
 induction fuel with
 |zero =>
  intro listed a w _ hr hy hS H;refine ⟨fun h => (by rw [h] at hr; cases hr), fun j hj => ?_⟩;by_cases hji : j = i
  ·subst hji; exact hy.wpOp hi hS ⟨fun _ => hS, H⟩
  ·have := ready_mono hj hji;rw [H.1] at this;cases this
 |succ fuel ih =>
  intro listed a w hfree hr hy hS H;refine ⟨fun h => (by rw [h] at hr; cases hr), fun j hj => ?_⟩;by_cases hji : j = i
  ·subst hji; exact hy.wpOp hi hS ⟨fun _ => hS, H⟩
  ·have h1 := H.2 j (ready_mono hj hji);obtain ⟨hjun, oj, hoj, hall⟩ := mem_ready.1 hj;have hjz : j ≠ z := fun e => by
    subst e;exact p7 hwz (yB (mem_ready.1 hr).1) hj
   have hnot : ∀ e ∈ oj.after, Region.binds md e = true -> e.on ≠ i := fun e he hb heq => by
    have h1 := hall e he hb;rw [heq, yB (mem_ready.1 hr).1] at h1;cases h1
   have h2 := wpOp_putIf hoj (hfree j oj hoj hji hjun hnot) (fun cs b => hsel i oi cs b hi) (fun cs b => hsel j oj cs b hoj) hQ hy h1;have hfree' : ∀ k ok, ops[k]? = some ok -> k ≠ i -> (listed.setIfInBounds j true).getD k true = false ->
     (∀ e ∈ ok.after, Region.binds md e = true -> e.on ≠ i) -> oi.apart ops ok = true := fun k ok hk hki hun hno => by
    refine hfree k ok hk hki ?_ hno;by_cases hjk : j = k
    ·subst hjk; exact hjun
    ·rw [getD_set_ne true hjk] at hun; exact hun
   refine wpOp_mono (fun a' w' h3 => ⟨h3.2.1, ih (listed.setIfInBounds j true) a' w' hfree' (ready_mono hr (Ne.symm hji)) h3.1 (h3.2.1 hjz) ?_⟩) h2;rw [Array.setIfInBounds_comm _ _ hji];exact h3.2.2
theorem lM {rs : List Nat} {fuel : Nat} {listed : Array Bool} {a : Act} {w : World} (hr : Region.ready md ops listed = rs) (hne : rs ≠ [])
  (h : ∀ i ∈ rs, wpOp P ops Q i (fun a' w' => (i ≠ z -> S w') /\ cu P md ops Q S z fuel (listed.setIfInBounds i true) a' w') a w) : cu P md ops Q S z (fuel + 1) listed a w :=
 ⟨fun h0 => absurd (hr ▸ h0) hne, hr ▸ h⟩
theorem bK {listed : Array Bool} {a : Act} {w : World} (hr : Region.ready md ops listed = []) (h : Q .normal a w) :
  ∀ fuel, cu P md ops Q S z fuel listed a w
 |0 => ⟨hr, h⟩
 |_ + 1 => ⟨fun _ => h, by rw [hr]; simp⟩
theorem bk {id : Nat} {a : Act} {w : World} (S : World -> Prop) (z : Nat) (hm : P.follows .mixedOrders = true)
  (h : cu P .any ops Q S z ops.size (Array.replicate ops.size false) a w.drew) : (Code.region id ops true).wp P Q a w :=
 wp_region_any hm (pq _ _ _ _ h)
end
section
variable {P : Program} {md : Region.Mode} {l : List Oper} {Q : Exit -> Act -> World -> Prop} {S : World -> Prop} {z fuel : Nat} {listed : Array Bool} {a : Act} {w w' : World} {o : Oper} {v : Value}
theorem ay (i : Nat) (hi : l[i]? = some o) (hs : Region.noSelect l.toArray = true) (hf : Region.free md l.toArray listed i = true) (hr : (Region.ready md l.toArray listed).contains i = true) (hiz : i ≠ z) (hwz : js md l.toArray z i = true)
  (hw : Region.wanted o (yielded l.toArray a.tmps) = true) (h : ∀ w, S w -> (execOp a.eval o).run P w = .ok (.value v) w) (hQ : ∀ c a w, Q (.panic c) (a.put o.dst v) w -> Q (.panic c) a w) (hS : S w)
  (hk : cu P md l.toArray Q S z fuel (listed.setIfInBounds i true) (a.put o.dst v) w) : cu P md l.toArray Q S z (fuel + 1) listed a w :=
 sX (by simpa using hi) (Region.noSelect_spec hs) hQ hiz hwz fuel listed a w (Region.free_spec (by simpa using hi) hf) (by simpa using hr) (.inl ⟨hw, h⟩) hS hk
theorem akY (i : Nat) (hi : l[i]? = some o) (h : ∀ w, S w -> (execOp a.eval o).run P w = .ok (.value v) w) (hS : S w) (hk : cu P md l.toArray Q S z fuel (listed.setIfInBounds i true) (a.put o.dst v) w) (hs : Region.noSelect l.toArray = true := by kernel_rfl) (hf : Region.free md l.toArray listed i = true := by kernel_rfl) (hr : (Region.ready md l.toArray listed).contains i = true := by kernel_rfl) (hiz : i ≠ z := by decide) (hwz : js md l.toArray z i = true := by kernel_rfl) (hw : Region.wanted o (yielded l.toArray a.tmps) = true := by exact rfl) (hQ : ∀ c a w, Q (.panic c) (a.put o.dst v) w -> Q (.panic c) a w := by exact fun _ _ _ h => h) : cu P md l.toArray Q S z (fuel + 1) listed a w := ay i hi hs hf hr hiz hwz hw h hQ hS hk
theorem ak5 {l0 l1 : List Value} {ds0 : List Deferred} {i0 : Nat} (i : Nat) (hi : l[i]? = some o) (h : ∀ w, S w -> (execOp (Act.mk l0.toArray ds0).eval o).run P w = .ok (.value v) w) (hS : S w) (hk : cu P md l.toArray Q S z fuel (listed.setIfInBounds i true) ⟨l1.toArray, ds0⟩ w) (hd : o.dst = some i0 := by exact rfl) (hl : l0.set i0 v = l1 := by simp only [ai] <;> rfl) (hs : Region.noSelect l.toArray = true := by kernel_rfl) (hf : Region.free md l.toArray listed i = true := by kernel_rfl) (hr : (Region.ready md l.toArray listed).contains i = true := by kernel_rfl) (hiz : i ≠ z := by decide) (hwz : js md l.toArray z i = true := by kernel_rfl) (hw : Region.wanted o (yielded l.toArray l0.toArray) = true := by exact rfl) (hQ : ∀ c a w, Q (.panic c) (a.put o.dst v) w -> Q (.panic c) a w := by exact fun _ _ _ h => h) : cu P md l.toArray Q S z (fuel + 1) listed ⟨l0.toArray, ds0⟩ w := akY i hi h hS (by have e : Act.put (Act.mk l0.toArray ds0) o.dst v = ⟨l1.toArray, ds0⟩ := (by rw [hd, <- hl]; show Act.mk (l0.toArray.setIfInBounds i0 v) ds0 = _; rw [List.setIfInBounds_toArray]); rw [e]; exact hk) hs hf hr hiz hwz hw hQ
theorem bh (i : Nat) (hi : l[i]? = some o) (hr : Region.ready md l.toArray listed = [i]) (hw : Region.wanted o (yielded l.toArray a.tmps) = true) (h : (execOp a.eval o).run P w = .ok (.value v) w')
  (hS : i ≠ z -> S w') (hk : cu P md l.toArray Q S z fuel (listed.setIfInBounds i true) (a.put o.dst v) w') : cu P md l.toArray Q S z (fuel + 1) listed a w :=
 lM hr (by simp) fun j hj => by
  obtain rfl : j = i := by simpa using hj
  unfold wpOp;simp only [List.getElem?_toArray, hi, hw, if_true];refine .inl ?_;unfold Oper.wp;rw [h];exact ⟨hS, hk⟩
theorem bT (i : Nat) {f : FuncId} {vs : Array Value} (hi : l[i]? = some o) (hr : Region.ready md l.toArray listed = [i]) (hw : Region.wanted o (yielded l.toArray a.tmps) = true) (h : (execOp a.eval o).run P w = .ok (.enter f vs) w)
  (hc : Calls P f vs w fun e w' => ∃ v, e = .returned v /\ (i ≠ z -> S w') /\ cu P md l.toArray Q S z fuel (listed.setIfInBounds i true) (a.put o.dst v) w') : cu P md l.toArray Q S z (fuel + 1) listed a w :=
 lM hr (by simp) fun j hj => by
  obtain rfl : j = i := by simpa using hj
  unfold wpOp;simp only [List.getElem?_toArray, hi, hw, if_true];refine .inl ?_;unfold Oper.wp;rw [h];exact hc.mono fun e w' ⟨v, he, hk⟩ => by subst he; exact hk
theorem fd (i : Nat) (hi : l[i]? = some o) (hr : Region.ready md l.toArray listed = [i]) (hw : Region.wanted o (yielded l.toArray a.tmps) = true) (h : (execOp a.eval o).run P w = .ok .skip w')
  (hS : i ≠ z -> S w') (hk : cu P md l.toArray Q S z fuel (listed.setIfInBounds i true) (a.put o.dst undef) w') : cu P md l.toArray Q S z (fuel + 1) listed a w :=
 lM hr (by simp) fun j hj => by
  obtain rfl : j = i := by simpa using hj
  unfold wpOp;simp only [List.getElem?_toArray, hi, hw, if_true];refine .inl ?_;unfold Oper.wp;rw [h];exact ⟨hS, hk⟩
end
section
variable {w : World} {b : Nat}
theorem jI : (Instr.fieldAt 107 (.pointer (some ⟨b, 0, none⟩)) 0).run prog w = .ok (.pointer (some ⟨b, 0, none⟩)) w := by kernel_rfl
theorem lI : (Instr.fieldAt 107 (.pointer (some ⟨b, 0, none⟩)) 1).run prog w = .ok (.pointer (some ⟨b, 1, none⟩)) w := by kernel_rfl
theorem kE : (Instr.fieldAt 107 (.pointer (some ⟨b, 0, none⟩)) 2).run prog w = .ok (.pointer (some ⟨b, 2, none⟩)) w := by kernel_rfl
theorem yy : (Instr.fieldAt 107 (.pointer (some ⟨b, 0, none⟩)) 3).run prog w = .ok (.pointer (some ⟨b, 3, none⟩)) w := by kernel_rfl
theorem aed {ad : Addr} {k : Int} (h : w.cell? ad = some (.int .u32 k)) : (Instr.loadAt 105 (.pointer (some ad))).run prog w = .ok (.int .u32 k) w := by simp [go_sem, h]
end
section
variable {ρ : Operand -> Value} {o : Oper} {x y z u : Operand} {w : World} {t r : TypeId}
theorem mS {a b c : Int} (ho : o.op = .binOp .add t x y r) (hx : ρ x = .int .u64 a) (hy : ρ y = .int .u64 b) (h : IntKind.u64.wrap (a + b) = c) : (execOp ρ o).run prog w = .ok (.value (.int .u64 c)) w := by
 unfold execOp;simp [ho, hx, hy, eqGuard, binOp, Op.intArith, h]
theorem iN {a b : Nat} (ho : o.op = .binOp .add t x y r) (hx : ρ x = .int .u64 (a : Nat)) (hy : ρ y = .int .u64 (b : Nat)) (h : a + b < 18446744073709551616) : (execOp ρ o).run prog w = .ok (.value (.int .u64 ((a + b : Nat) : Int))) w :=
 mS ho hx hy (by rw [<- Int.natCast_add]; exact IntWalk.u64_in _ ⟨by omega, by omega⟩)
theorem jQ {n : Nat} (ho : o.op = .convert 3 35 x) (hx : ρ x = .int .i64 (n : Int)) (hn : n < 18446744073709551616) : (execOp ρ o).run prog w = .ok (.value (.int .u64 (n : Int))) w := by
 have h : IntKind.u64.wrap (n : Int) = (n : Int) := IntWalk.u64_in _ ⟨by omega, by omega⟩;have hc : (convert 3 35 (.int .i64 (n : Int))).run prog w = .ok (.int .u64 (n : Int)) w := by simp [convert, go_sem, h]
 unfold execOp;simp only [ho, hx, Sem.run_bind, hc, Result.andThen_ok, Sem.run_pure]
theorem aaZ {q : Value} {y0 y1 y2 y3 : Value} (ho : o.op = .build t #[(0, x), (1, y), (2, z), (3, u)]) (h0 : ρ x = y0) (h1 : ρ y = y1) (h2 : ρ z = y2) (h3 : ρ u = y3)
  (h : (Instr.build t #[(0, y0), (1, y1), (2, y2), (3, y3)]).run prog w = .ok q w) : (execOp ρ o).run prog w = .ok (.value q) w := by
 subst h0 h1 h2 h3;unfold execOp;simp only [ho, List.map_toArray, List.map_cons, List.map_nil, Sem.run_bind, h, Result.andThen_ok, Sem.run_pure]
theorem xH (a b : Nat) (c : Int) (d : Nat) : (Instr.build 107 #[(0, .int .u64 a), (1, .int .u64 b), (2, .int .i64 c), (3, .int .u32 d)]).run prog w = .ok (nte ⟨a, b, c, d⟩) w := by kernel_rfl
theorem jm (a b : Nat) (c : Int) (d : Nat) (ho : o.op = .build 107 #[(0, x), (1, y), (2, z), (3, u)]) (h0 : ρ x = .int .u64 a) (h1 : ρ y = .int .u64 b) (h2 : ρ z = .int .i64 c) (h3 : ρ u = .int .u32 d) : (execOp ρ o).run prog w = .ok (.value (nte ⟨a, b, c, d⟩)) w :=
 aaZ ho h0 h1 h2 h3 (xH a b c d)
end
def rp (c : Int) : Bool := decide (1 <= c /\ c <= 32)
theorem agX (n : Nat) (w : World) : Calls prog 187 #[.int .u64 n] w fun e w' => e = .returned (.bool (evB n)) /\ w = w' := by
 by_cases h : 1 <= n
 ·go_enter func187, ntmps187;go_wp2;go_ret;refine ⟨bL ?_, rfl⟩;unfold evB;rw [decide_eq_decide];omega
 ·have h0 : n = 0 := by omega
  subst h0;go_enter func187, ntmps187;go_wp2;go_ret;exact ⟨rfl, rfl⟩
theorem ve (n : Nat) (w : World) {b : Bool} (h : evB n = b) : Calls prog 187 #[.int .u64 n] w fun e w' => e = .returned (.bool b) /\ w = w' := by
 subst h;exact agX n w
theorem aiH (r : Int) (w : World) : Calls prog 188 #[.int .i64 r] w fun e w' => e = .returned (.bool (rp r)) /\ w = w' := by
 by_cases h : 1 <= r
 ·go_enter func188, ntmps188;go_wp2;go_ret;refine ⟨bL ?_, rfl⟩;unfold rp;rw [decide_eq_decide];omega
 ·go_enter func188, ntmps188;go_wp2;go_ret;refine ⟨bL ?_, rfl⟩;unfold rp;exact (am (by omega)).symm
theorem tP (r : Int) (w : World) {b : Bool} (h : rp r = b) : Calls prog 188 #[.int .i64 r] w fun e w' => e = .returned (.bool b) /\ w = w' := by
 subst h;exact aiH r w
theorem oV (n : Nat) (w : World) (hn : n < 18446744073709551616) : Calls prog 106 #[.int .u64 n] w fun e w' => e = .returned (.int .i64 ((n % 8 : Nat) : Int)) /\ w = w' := by
 go_enter func106, ntmps106;go_wp2;go_ret;exact ⟨br (by omega), rfl⟩
theorem yw (n : Nat) (w : World) (hn : n < 18446744073709551616) : Calls prog 59 #[.int .u64 n] w fun e w' => e = .returned (.int .i64 ((n % 8 : Nat) : Int)) /\ w = w' := by
 go_enter func59, ntmps59;go_wp2;go_ret;exact ⟨br (by omega), rfl⟩
theorem adh (m : Nte) (w : World) : Calls prog 159 #[nte m] w fun e w' => e = .returned (.bool (fU m)) /\ Below w.heap.size w w' := by
 obtain ⟨h1, h2, _⟩ := dY w m;have HM := af h1;have HB := af h2;clear h1 h2;go_enter func159, ntmps159;go_upto_region 1 with (first | (refine au rfl (dv rfl rfl) ?_) | fail);generalize w.alloc (.cells (bj m).toArray 107) = w1 at *;refine ag ?_;refine ak1 (av rfl alb jI) ?_;refine ak1 (aA rfl alb (b7 HM.out.cells.1)) ?_;refine aD rfl (aC call187 rfl (evc alb evn)) ?_;by_cases k0 : 1 <= m.seq /\ m.seq <= 4611686018427387904
 ·have H0 : Hid (evB m.seq = true) := af (ao k0);refine (ve m.seq _ H0).mono ?_;rintro e w' ⟨rfl, rfl⟩;refine bp ?_;refine runs 1 ?_;refine ak8 (av rfl alb lI) ?_;refine ak8 (aA rfl alb (b7 HM.out.cells.2.1)) ?_;by_cases k1 : m.pos <= 4611686018427387904
  ·have H1 : Hid (decide ((m.pos : Int) <= 4611686018427387904) = true) := af (ao (by omega));refine ak8 (dR true rfl alb evk H1) ?_;refine runs 2 ?_;refine ak8 (av rfl alb kE) ?_;refine ak8 (aA rfl alb (bm HM.out.cells.2.2.1)) ?_;refine aD akW (aC call188 rfl (evc alb evn)) ?_;by_cases k2 : 1 <= m.cells /\ m.cells <= 32
   ·have H2 : Hid (rp m.cells = true) := af (ao k2);have HV : Hid (fU m = true) := af (ao (by omega));clear k0 k1 k2;refine (tP m.cells _ H2).mono ?_;rintro e w' ⟨rfl, rfl⟩;refine bp ?_;refine aQ 2 ?_;go_wp2_with fail;go_ret;exact ⟨bL (by rw [HV.out]), HB⟩
   ·have H2 : Hid (rp m.cells = false) := af (am k2);have HV : Hid (fU m = false) := af (am (by omega));clear k0 k1 k2;refine (tP m.cells _ H2).mono ?_;rintro e w' ⟨rfl, rfl⟩;refine bp ?_;refine aQ 2 ?_;go_wp2_with fail;go_ret;exact ⟨bL (by rw [HV.out]), HB⟩
  ·have H1 : Hid (decide ((m.pos : Int) <= 4611686018427387904) = false) := af (am (by omega));have HV : Hid (fU m = false) := af (am (by omega));clear k0 k1;refine ak8 (dR false rfl alb evk H1) ?_;refine runs 1 ?_;refine aI 3 rfl (aB rfl alb) (by kernel_rfl) ?_;simp only [aP, ae, aa];refine aQ 2 ?_;go_wp2_with fail;go_ret;exact ⟨bL (by rw [HV.out]), HB⟩
 ·have H0 : Hid (evB m.seq = false) := af (am k0);have HV : Hid (fU m = false) := af (am (by omega));clear k0;refine (ve m.seq _ H0).mono ?_;rintro e w' ⟨rfl, rfl⟩;refine bp ?_;refine aI 3 rfl (aB rfl alb) (by kernel_rfl) ?_;simp only [aP, ae, aa];refine runs 1 ?_;refine aI 3 rfl (aB rfl alb) (by kernel_rfl) ?_;simp only [aP, ae, aa];refine aQ 2 ?_;go_wp2_with fail;go_ret;exact ⟨bL (by rw [HV.out]), HB⟩
theorem pe (m : Nte) (w : World) {b : Bool} (h : fU m = b) : Calls prog 159 #[nte m] w fun e w' => e = .returned (.bool b) /\ Below w.heap.size w w' := by
 subst h;exact adh m w
theorem adb (m : Nte) (w : World) : Calls prog 113 #[nte m] w fun e w' => e = .returned (.bool (fU m)) /\ Below w.heap.size w w' := by
 obtain ⟨h1, h2, _⟩ := dY w m;have HM := af h1;have HB := af h2;clear h1 h2;go_enter func113, ntmps113;go_upto_region 1 with (first | (refine au rfl (dv rfl rfl) ?_) | fail);generalize w.alloc (.cells (bj m).toArray 107) = w1 at *;refine ag ?_;refine ak1 (av rfl alb jI) ?_;refine ak1 (aA rfl alb (b7 HM.out.cells.1)) ?_;by_cases k0 : 1 <= m.seq
 ·have H0 : Hid (decide ((1 : Int) <= (m.seq : Int)) = true) := af (ao (by omega));refine ak1 (cz true rfl alb evk H0) ?_;refine runs 1 ?_;refine ak8 (av rfl alb jI) ?_;refine ak8 (aA rfl alb (b7 HM.out.cells.1)) ?_;by_cases k1 : m.seq <= 4611686018427387904
  ·have H1 : Hid (decide ((m.seq : Int) <= 4611686018427387904) = true) := af (ao (by omega));refine ak8 (dR true rfl alb evk H1) ?_;refine runs 2 ?_;refine ak8 (av rfl alb lI) ?_;refine ak8 (aA rfl alb (b7 HM.out.cells.2.1)) ?_;by_cases k2 : m.pos <= 4611686018427387904
   ·have H2 : Hid (decide ((m.pos : Int) <= 4611686018427387904) = true) := af (ao (by omega));refine ak8 (dR true rfl alb evk H2) ?_;refine runs 2 ?_;refine ak8 (av rfl alb kE) ?_;refine ak8 (aA rfl alb (bm HM.out.cells.2.2.1)) ?_;by_cases k3 : 1 <= m.cells
    ·have H3 : Hid (decide ((1 : Int) <= m.cells) = true) := af (ao (by omega));refine ak8 (cz true rfl alb evk H3) ?_;refine runs 2 ?_;refine ak8 (av rfl alb kE) ?_;refine ak8 (aA rfl alb (bm HM.out.cells.2.2.1)) ?_;by_cases k4 : m.cells <= 32
     ·have H4 : Hid (decide (m.cells <= (32 : Int)) = true) := af (ao (by omega));have HV : Hid (fU m = true) := af (ao (by omega));clear k0 k1 k2 k3 k4;refine ak8 (dR true rfl alb evk H4) ?_;refine aQ 2 ?_;go_wp2_with fail;go_ret;exact ⟨bL (by rw [HV.out]), HB⟩
     ·have H4 : Hid (decide (m.cells <= (32 : Int)) = false) := af (am (by omega));have HV : Hid (fU m = false) := af (am (by omega));clear k0 k1 k2 k3 k4;refine ak8 (dR false rfl alb evk H4) ?_;refine aQ 2 ?_;go_wp2_with fail;go_ret;exact ⟨bL (by rw [HV.out]), HB⟩
    ·have H3 : Hid (decide ((1 : Int) <= m.cells) = false) := af (am (by omega));have HV : Hid (fU m = false) := af (am (by omega));clear k0 k1 k2 k3;refine ak8 (cz false rfl alb evk H3) ?_;refine runs 1 ?_;refine aI 3 rfl (aB rfl alb) (by kernel_rfl) ?_;simp only [aP, ae, aa];refine aQ 2 ?_;go_wp2_with fail;go_ret;exact ⟨bL (by rw [HV.out]), HB⟩
   ·have H2 : Hid (decide ((m.pos : Int) <= 4611686018427387904) = false) := af (am (by omega));have HV : Hid (fU m = false) := af (am (by omega));clear k0 k1 k2;refine ak8 (dR false rfl alb evk H2) ?_;refine runs 1 ?_;refine aI 3 rfl (aB rfl alb) (by kernel_rfl) ?_;simp only [aP, ae, aa];refine runs 1 ?_;refine aI 3 rfl (aB rfl alb) (by kernel_rfl) ?_;simp only [aP, ae, aa];refine aQ 2 ?_;go_wp2_with fail;go_ret;exact ⟨bL (by rw [HV.out]), HB⟩
  ·have H1 : Hid (decide ((m.seq : Int) <= 4611686018427387904) = false) := af (am (by omega));have HV : Hid (fU m = false) := af (am (by omega));clear k0 k1;refine ak8 (dR false rfl alb evk H1) ?_;refine runs 1 ?_;refine aI 3 rfl (aB rfl alb) (by kernel_rfl) ?_;simp only [aP, ae, aa];refine runs 1 ?_;refine aI 3 rfl (aB rfl alb) (by kernel_rfl) ?_;simp only [aP, ae, aa];refine runs 1 ?_;refine aI 3 rfl (aB rfl alb) (by kernel_rfl) ?_;simp only [aP, ae, aa];refine aQ 2 ?_;go_wp2_with fail;go_ret;exact ⟨bL (by rw [HV.out]), HB⟩
 ·have H0 : Hid (decide ((1 : Int) <= (m.seq : Int)) = false) := af (am (by omega));have HV : Hid (fU m = false) := af (am (by omega));clear k0;refine ak1 (cz false rfl alb evk H0) ?_;refine aI 3 rfl (aB rfl alb) (by kernel_rfl) ?_;simp only [aP, ae, aa];refine runs 1 ?_;refine aI 3 rfl (aB rfl alb) (by kernel_rfl) ?_;simp only [aP, ae, aa];refine runs 1 ?_;refine aI 3 rfl (aB rfl alb) (by kernel_rfl) ?_;simp only [aP, ae, aa];refine runs 1 ?_;refine aI 3 rfl (aB rfl alb) (by kernel_rfl) ?_;simp only [aP, ae, aa];refine aQ 2 ?_;go_wp2_with fail;go_ret;exact ⟨bL (by rw [HV.out]), HB⟩
theorem zj (x : Nte) {R : Nat} (h : x.cells.toNat = R) : bw 8 8 x.pos ++ (bw 8 2 R ++ bw 8 4 x.sum) = eq x := by
 unfold eq;rw [h]
theorem ah3 (x : Nte) (w : World) (hf : x.fit) :
  Calls prog 100 #[nte x] w fun e w' => e = .returned (.tuple #[blk (a9.pB x), .int .i64 (a9.pE x : Nat)]) /\ Below w.heap.size w w' := by
 obtain ⟨h1, h2, h3⟩ := dY w x;have HS := af (h1.past (.cells (cel aE).toArray 64));have HB := af (h2.alloc h2.size (.cells (cel aE).toArray 64));have HI := af hf;have HR : Hid (((w.alloc (.cells (bj x).toArray 107)).alloc (.cells (cel aE).toArray 64)).there (w.heap.size + 1) 0 64) := af (by
  have := dj (w.alloc (.cells (bj x).toArray 107)) aE 64;rwa [World.size_alloc] at this)
 have HZ : Hid (w.heap.size + 1 < ((w.alloc (.cells (bj x).toArray 107)).alloc (.cells (cel aE).toArray 64)).heap.size) := af (by simp only [World.size_alloc]; omega);clear h1 h2 h3 hf;go_enter func100, ntmps100;go_wp2_with (first | (refine au rfl (dv rfl rfl) ?_) | (refine au rfl (aV rfl) ?_) | (refine au rfl (bI (c := x) rfl rfl ?_) ?_; (with_reducible exact HS.out.range)) | fail)
 try simp only [World.size_alloc]
 generalize (w.alloc (.cells (bj x).toArray 107)).alloc (.cells (cel aE).toArray 64) = w1 at *;refine (adb x w1).mono ?_;rintro e a0 ⟨rfl, hb⟩;have HS0 := af (HS.out.below (aR HS) hb);have HB2 := af (HB.out.trans (hb.mono HB.out.size));have HR2 := af (aS HR HZ hb);have HZ2 : Hid (w.heap.size + 1 < a0.heap.size) := af (by have := hb.size; have := HZ.out; omega);clear hb HS HB HR HZ;by_cases hm : fU x = true
 ·rw [hm];have HM := af hm;obtain ⟨-, -, -, q1, q2⟩ := gj hm;obtain ⟨f1, f2, f3⟩ := HI.out;obtain ⟨R, hR⟩ : ∃ R : Nat, x.cells.toNat = R := ⟨_, rfl⟩;have HBD := af (zj x hR);have hR32 : R <= 32 := by omega
  have HPB : Hid (a9.pB x = fo x.seq (eq x)) := af (a9.yX hm);have HPE := af (a9.qo hm);have HN0 : Hid (x.seq ≠ 0) := af (by have := (gj hm).1; omega);have HC : Hid (∀ w' s, bO w' s x -> w'.cell? ⟨s, 0, none⟩ = some (.int .u64 x.seq) /\ w'.cell? ⟨s, 1, none⟩ = some (.int .u64 x.pos) /\ w'.cell? ⟨s, 2, none⟩ = some (.int .i64 (R : Nat)) /\ w'.cell? ⟨s, 3, none⟩ = some (.int .u32 x.sum)) := af fun w' s h => by
   have := h.cells;rw [show x.cells = (R : Int) from by omega] at this;exact this
  have HF1 := af f1;have HF2 := af f2;have HF3 := af f3;have HB0 := af (Below.refl a0.heap.size a0);have HSB := HS0;have HT0 := af (Nat.le_refl a0.heap.size);clear q1 q2 f1 f2 f3 hR hm;obtain ⟨c0, c1, c2, c3⟩ := HC.out _ _ HS0;go_wp2_with (first | (refine au rfl (gw rfl rfl HF3) ?_) | fail);clear c0 c1 c2 c3;refine (iu x.pos 8 _ a0 (af rfl) HF2 (by omega) (by omega) (by have := HF2.out; simpa using this)).mono ?_;rintro e a1 ⟨v1, rfl, hm, hb⟩;have HM1 := af hm;have HU1 : Hid (∀ k, v1.ownBlock = some k -> k < a1.heap.size) := af fun k hk => (hm.lt k hk).2
  have HS1 := af (HS0.out.below (aR HS0) hb);have HBq1 := af (HB0.out.trans (hb.mono HT0));have HT1 : Hid (a0.heap.size <= a1.heap.size) := af (ap HT0 hb.size);have HL1 := af hb.size;clear hm hb HS0 HB0;obtain ⟨c0, c1, c2, c3⟩ := HC.out _ _ HS1;go_wp2_with (first | (refine au rfl (gw rfl rfl HF3) ?_) | fail);clear c0 c1 c2 c3;refine (iu R 2 _ a1 (af rfl) (by omega) (by omega) (by omega) (by omega)).mono ?_;rintro e a2 ⟨v2, rfl, hm, hb⟩;have HM2 := af hm;have HM1 := af (HM1.out.below hb);have HS2 := af (HS1.out.below (aR HS1) hb);have HBq2 := af (HBq1.out.trans (hb.mono HT1));have HT2 : Hid (a0.heap.size <= a2.heap.size) := af (ap HT1 hb.size);have HL2 := af hb.size;clear hm hb HS1 HBq1;obtain ⟨c0, c1, c2, c3⟩ := HC.out _ _ HS2;go_wp2_with (first | (refine au rfl (gw rfl rfl HF3) ?_) | fail);clear c0 c1 c2 c3;refine (iu x.sum 4 _ a2 (af rfl) (by have := HF3.out; omega) (by omega) (by omega) (by have := HF3.out; simpa using this)).mono ?_;rintro e a3 ⟨v3, rfl, hm, hb⟩;have HM3 := af hm;have HU3 : Hid (∀ k, v3.ownBlock = some k -> a2.heap.size <= k) := af fun k hk => (hm.lt k hk).1
  have HM1 := af (HM1.out.below hb);have HM2 := af (HM2.out.below hb);have HS3 := af (HS2.out.below (aR HS2) hb);have HBq3 := af (HBq2.out.trans (hb.mono HT2));have HT3 : Hid (a0.heap.size <= a3.heap.size) := af (ap HT2 hb.size);have HL3 := af hb.size;clear hm hb HS2 HBq2;have HG1 : Hid (Made a3 a0.heap.size v1 (bw 8 8 x.pos)) := HM1;have HE1 := af (aL 8 8 x.pos);have HE2 := af (aL 8 2 R);have HE3 := af (aL 8 4 x.sum);obtain ⟨A2, c2, rfl, hr2, _, _⟩ := HM2.out.open_ HE2;have HRD2 := af hr2;clear hr2;go_wp2_with (first | (refine i4 rfl _ _ rfl a0.heap.size _ 2 c2 v1 (bw 8 8 x.pos) (bw 8 2 R) A2 rfl rfl HG1 HRD2 (by omega) HT3 (by rw [HE1.out]; omega) ?_) | fail);intro u1 a4 hm hg hw;have HG2 := af hm;have HM3' := af (HM3.out.apart hg (fun k hk e => by have := HU1.out k e; have := HU3.out k hk; have := HL2.out; omega));have HBq4 : Hid (Below a0.heap.size a0 a4) := af (HBq3.out.grown hg HT3 (fun k hk => (HG1.out.lt k hk).1));have HT4 : Hid (a0.heap.size <= a4.heap.size) := af (ap HT3 hg.size);clear hm hg hw HG1 HRD2 HBq3 HM1 HM2 HM3;obtain ⟨A3, c3, rfl, hr3, _, _⟩ := HM3'.out.open_ HE3;have HRD3 := af hr3;clear hr3;go_wp2_with (first | (refine i4 rfl _ _ rfl a0.heap.size _ 4 c3 u1 (bw 8 8 x.pos ++ bw 8 2 R) (bw 8 4 x.sum) A3 rfl rfl HG2 HRD3 (by omega) HT4 (by rw [List.length_append, HE1.out, HE2.out]; omega) ?_) | fail);intro u2 a5 hm hg hw;rw [HBD.out] at hm;have HBq5 : Hid (Below a0.heap.size a0 a5) := af (HBq4.out.grown hg HT4 (fun k hk => (HG2.out.lt k hk).1));obtain ⟨A4, c4, rfl, hr4, _, _⟩ := hm.open_ (jp x);have HRD4 := af hr4;have HS5 := af (HSB.out.below (aR HSB) HBq5);have HB5 := af (HB2.out.trans (HBq5.out.mono HB2.out.size));have HR5 := af (aS HR2 HZ2 HBq5);have HZ5 : Hid (w.heap.size + 1 < a5.heap.size) := af (aq HZ2 HBq5.out.size);obtain ⟨c0, -, -, -⟩ := HC.out _ _ HS5;clear hm hg hw hr4 HG2 HRD3 HM3' HBq4;go_wp2_with fail;clear c0;refine (rO x.seq 14 c4 _ A4 (eq x) a5 HF1 HRD4 aj (by unfold maxLen; omega)).mono ?_;rintro e a6 ⟨rfl, hb⟩;rw [show fE x.seq (eq x) = 0 from a9.k7 x HN0.out];have HR6 := af (aS HR5 HZ5 hb);have HB6 := af (HB5.out.trans (hb.mono HB5.out.size));clear hb HRD4 HR5 HZ5 HB5;generalize fo x.seq (eq x) = pb at *;go_wp2_with (first | (refine aH rfl (aX (c := pb) rfl rfl rfl ?_) ?_; (with_reducible exact HR6.out)) | fail);refine bodyPost_ret (b9 rfl _ _ _ rfl (World.rangeAt_setCells_same _ _ _ _ (by rw [aG]; exact HR6))) rfl ⟨by rw [HPB.out, HPE.out]; rfl, below_setCells HB6 (Nat.le_succ _) _⟩
 ·have hm' : fU x = false := by simpa using hm
  have hmay : ¬ a9.may x = true := hm;have HPB := af (a9.ql hmay);have HPE := af (a9.pG hmay);rw [hm'];clear hm hm' hmay;go_wp2_with (first | (refine au rfl (ca (c := aE) (parts := []) rfl rfl) ?_) | (refine aH rfl (aX (c := aE) rfl rfl rfl ?_) ?_; (with_reducible exact HR2.out)) | fail);refine bodyPost_ret (b9 rfl _ _ _ rfl (World.rangeAt_setCells_same _ _ _ _ (by rw [aG]; exact HR2))) rfl ⟨by rw [HPB.out, HPE.out]; rfl, below_setCells HB2 (Nat.le_succ _) _⟩
structure Only (F : Nat -> Prop) (w w' : World) : Prop where
 os : w'.os = w.os
 tape : w'.tape = w.tape
 output : w'.output = w.output
 size : w.heap.size <= w'.heap.size
 block : ∀ k, k < w.heap.size -> ¬ F k -> w'.heap[k]? = w.heap[k]?
section
variable {F G : Nat -> Prop} {w w1 w2 a : World} {B : Nat}
theorem Only.refl (F : Nat -> Prop) (w : World) : Only F w w := ⟨rfl, rfl, rfl, aj, fun _ _ _ => rfl⟩
theorem Only.trans (h : Only F w w1) (k : Only G w1 w2) (hG : ∀ b, G b -> F b \/ w.heap.size <= b) : Only F w w2 :=
 ⟨k.os.trans h.os, k.tape.trans h.tape, k.output.trans h.output, ap h.size k.size, fun b hb hn =>
  (k.block b (aq hb h.size) (fun hg => by rcases hG b hg with e | e; exact hn e; omega)).trans (h.block b hb hn)⟩
theorem Only.widen (h : Only F w w1) (hG : ∀ b, F b -> G b) : Only G w w1 := ⟨h.os, h.tape, h.output, h.size, fun b hb hn => h.block b hb fun e => hn (hG b e)⟩
theorem Only.of_below (F : Nat -> Prop) (h : Below w.heap.size w w1) : Only F w w1 := ⟨h.os, h.tape, h.output, h.size, fun b hb _ => h.block b hb⟩
theorem Only.below (h : Only F w w1) (hF : ∀ b, F b -> B <= b) (hB : B <= w.heap.size) : Below B w w1 := ⟨h.os, h.tape, h.output, h.size, fun b hb => h.block b (by omega) fun e => by have := hF b e; omega⟩
theorem Only.dF (h : Only F w w1) (k : Below w1.heap.size w1 w2) : Only F w w2 := h.trans (Only.of_below F k) fun _ hb => .inl hb
theorem Only.drew (h : Only F w w1) : Only F w w1.drew := ⟨h.os, h.tape, h.output, h.size, h.block⟩
theorem Only.alloc (h : Only F w w1) (o : Obj) : Only F w (w1.alloc o) := h.dF (ak.alloc aj o)
theorem Only.setCell (h : Only F w w1) {p : Addr} (hp : F p.block \/ w.heap.size <= p.block) (u : Value) : Only F w (w1.setCell p u) :=
 ⟨h.os, h.tape, h.output, by have := h.size; simpa [World.setCell] using this, fun b hb hn => (Below.heap_setCell w1 p u b (fun e => by subst e; rcases hp with e | e; exact hn e; omega)).trans (h.block b hb hn)⟩
theorem Only.grown {row : Option Nat} (h : Only F w w1) (hg : w1.grownBy w2 row) (hr : ∀ k, row = some k -> F k \/ w.heap.size <= k) : Only F w w2 :=
 ⟨hg.os.trans h.os, hg.tape.trans h.tape, hg.output.trans h.output, ap h.size hg.size, fun b hb hn =>
  (hg.block b (aq hb h.size) (fun e => by rcases hr b e.symm with e | e; exact hn e; omega)).trans (h.block b hb hn)⟩
theorem Only.keep {o : Obj} {b : Nat} (h : Only F w w1) (hb : w.heap[b]? = some o) (hn : ¬ F b) : w1.heap[b]? = some o := (h.block b (Array.getElem?_eq_some_iff.1 hb).1 hn).trans hb
theorem Only.cell (h : Only F w w1) {p : Addr} (hp : p.block < w.heap.size) (hn : ¬ F p.block) : w1.cell? p = w.cell? p := World.cell?_of_block (w := w) (h.block _ hp hn)
end
def kV : Elt Blk where
 s := 120
 t := 64
 n := 64
 by_ := 64
 cel := cel
 d := aE
 z := blk aE
 pos := by omega
 small := by omega
 len := aG
 one := je
 und := underlying120
 info := qT
 zc := by rw [fm]; simp [aG]
def eP (p : Int × Blk) : List Value := .int .i64 p.1 :: cel p.2
def jo (n : Int) (b : Blk) : Value := .agg (.int .i64 n :: cel b).toArray
theorem sd (p : Int × Blk) : (eP p).length = 65 := by simp [eP, aG]
theorem aa2 (p : Int × Blk) : ∀ v ∈ eP p, v.oneCell' = true := by
 intro v hv;simp only [eP, List.mem_cons] at hv;rcases hv with rfl | hv
 ·rfl
 ·exact je p.2 v hv
def um (s t : TypeId) (und : prog.underlying s = some (.slice t)) (info : (prog.info? t).map (fun i => (i.zero, i.size, i.bytes)) = some (some (jo 0 aE), 65, 72)) : Elt (Int × Blk) where
 s := s
 t := t
 n := 65
 by_ := 72
 cel := eP
 d := (0, aE)
 z := jo 0 aE
 pos := by omega
 small := by omega
 len := sd
 one := aa2
 und := und
 info := info
 zc := by show (Value.cells (.agg _)).size = 65; simp [Value.cells, aG]
section
variable {s t : TypeId} {und : prog.underlying s = some (.slice t)} {info : (prog.info? t).map (fun i => (i.zero, i.size, i.bytes)) = some (some (jo 0 aE), 65, 72)} {w : World} {B n k : Nat} {A : Option Addr} {l : List (Int × Blk)}
theorem RdE.pair (h : RdE (um s t und info) w B A n l) (hk : k < n) : ∃ b off, A = some ⟨b, off, none⟩ /\ b < B /\ w.cell? ⟨b, off + k * 65, none⟩ = some (.int .i64 (l.getD k (0, aE)).1) /\ w.rangeAt b (off + k * 65 + 1) (cel (l.getD k (0, aE)).2) := by
 obtain ⟨b, off, e, hb, hc⟩ := h.2 k hk;refine ⟨b, off, e, hb, hc 0 _ rfl, fun j v hj => ?_⟩;have := hc (j + 1) v hj;rwa [show off + k * (um s t und info).n + (j + 1) = off + k * 65 + 1 + j from by show off + k * 65 + (j + 1) = _; omega] at this
end
theorem RdE.blk {w : World} {B n k : Nat} {A : Option Addr} {l : List Blk} (h : RdE kV w B A n l) (hk : k < n) : ∃ b off, A = some ⟨b, off, none⟩ /\ b < B /\ w.rangeAt b (off + k * 64) (cel (l.getD k aE)) := h.2 k hk
theorem RdE.only {α : Type} {E : Elt α} {F : Nat -> Prop} {w w' : World} {B n : Nat} {A : Option Addr} {l : List α} (h : RdE E w B A n l) (k : Only F w w') (hB : B <= w.heap.size) (hn : ∀ x, A = some x -> 0 < n -> ¬ F x.block) : RdE E w' B A n l :=
 ⟨h.1, fun j hj => by
  obtain ⟨b, off, e, hb, hc⟩ := h.2 j hj;refine ⟨b, off, e, hb, fun i v hi => ?_⟩;rw [k.cell (p := ⟨b, off + j * E.n + i, none⟩) (show b < w.heap.size by omega) (show ¬ F b from hn ⟨b, off, none⟩ e (by omega))];exact hc i v hi⟩
theorem Only.setCells {F : Nat -> Prop} {w w1 : World} {b : Nat} (h : Only F w w1) (hb : F b \/ w.heap.size <= b) : ∀ (vs : List Value) (o : Nat), Only F w (w1.setCells b o vs) := by
 intro vs
 induction vs generalizing w1 with
 |nil => intro o; exact h
 |cons v r ih => intro o; exact ih (h.setCell (p := ⟨b, o, none⟩) hb v) (o + 1)
theorem acJ {w : World} {b : Nat} {t : TypeId} {c d : Blk} (h : w.heap[b]? = some (.cells (cel c).toArray t (0, 0))) : (w.setCells b 0 (cel d)).heap[b]? = some (.cells (cel d).toArray t (0, 0)) := by
 have := heap_put b t [] (cel d) (cel c) [] w (by rw [aG, aG]) (by simpa using h)
 simpa using this
theorem jT {w : World} {b : Nat} {t : TypeId} {c : Blk} (h : w.heap[b]? = some (.cells (cel c).toArray t (0, 0))) : w.rangeAt b 0 (cel c) := fun j v hj => by
 rw [cell_of_row _ _ (0 + j) (cel c).toArray t (0, 0) h]
 simpa using hj
theorem jy {w : World} {b : Nat} {t : TypeId} {c : Blk} (h : w.heap[b]? = some (.cells (cel c).toArray t (0, 0))) : w.there b 0 64 := fun j hj => by
 rw [cell_of_row _ _ (0 + j) _ t (0, 0) h, frozen_of_row _ _ (0 + j) _ t h];exact ⟨by simp [aG]; omega, rfl⟩
def dp (w : World) (g : Nat) (bs : List Blk) : Prop := w.heap[g]? = some (.cells (flat bs).toArray 64 (0, 0))
theorem xc {bs : List Blk} {k : Nat} (hk : k < bs.length) : flat bs = flat (bs.take k) ++ (cel (bs.getD k aE) ++ flat (bs.drop (k + 1))) := by
 have h1 : bs = bs.take k ++ (bs.getD k aE :: bs.drop (k + 1)) := by
  rw [List.getD, List.getElem?_eq_getElem hk, Option.getD_some, List.getElem_cons_drop, List.take_append_drop]
 conv => lhs; rw [h1]
 rw [kK, iH]
theorem aco {bs : List Blk} {k : Nat} (hk : k < bs.length) (c : Blk) : flat (bs.set k c) = flat (bs.take k) ++ (cel c ++ flat (bs.drop (k + 1))) := by
 have h2 : bs.set k c = bs.take k ++ (c :: bs.drop (k + 1)) := List.set_eq_take_append_cons_drop.trans (by rw [if_pos hk]);rw [h2, kK, iH]
theorem pC (g : Nat) (t : TypeId) (post : List Value) : ∀ (vs mid pre : List Value) (w : World), mid.length = vs.length -> w.heap[g]? = some (.cells (pre ++ mid ++ post).toArray t (0, 0)) ->
  (w.setCells g pre.length vs).heap[g]? = some (.cells (pre ++ vs ++ post).toArray t (0, 0))
 |[], mid, pre, w, h, hg => by
  have : mid = [] := List.eq_nil_of_length_eq_zero h;subst this;exact hg
 |v :: vs, mid, pre, w, h, hg => by
  match mid, h with
  |m :: ms, h =>
   rw [World.setCells];have h1 := heap_setCell_same w g pre.length _ t v hg;have hset : (pre ++ m :: ms ++ post).toArray.setIfInBounds pre.length v = ((pre ++ [v]) ++ ms ++ post).toArray := by
    rw [List.setIfInBounds_toArray]
    congr 1
    rw [List.append_assoc, List.set_append_right _ _ (by simp), Nat.sub_self];simp
   rw [hset] at h1;have := pC g t post vs ms (pre ++ [v]) _ (by simpa using h) h1;rw [List.length_append, List.length_singleton] at this;rw [this];simp
section
variable {w w' : World} {g k B : Nat} {bs : List Blk} {c : Blk}
theorem dp.lt (h : dp w g bs) : g < w.heap.size := (Array.getElem?_eq_some_iff.1 h).1
theorem dp.of_block (h : dp w g bs) (e : w'.heap[g]? = w.heap[g]?) : dp w' g bs := e.trans h
theorem dp.below (h : dp w g bs) (hb : Below w.heap.size w w') : dp w' g bs := h.of_block (hb.block g h.lt)
theorem dp.store (h : dp w g bs) (hk : k < bs.length) (c : Blk) : dp (w.setCells g (k * 64) (cel c)) g (bs.set k c) := by
 unfold dp at *;rw [xc hk, <- List.append_assoc] at h;have := pC g _ (flat (bs.drop (k + 1))) (cel c) _ _ w (by rw [aG, aG]) h;rw [eC, List.length_take, Nat.min_eq_left (by omega)] at this;rw [this, aco hk, List.append_assoc]
theorem dp.cell (h : dp w g bs) (j : Nat) : w.cell? ⟨g, j, none⟩ = (flat bs)[j]? := by
 rw [cell_of_row w g j _ _ (0, 0) h];simp
theorem dp.frozen (h : dp w g bs) (j : Nat) : w.frozen? ⟨g, j, none⟩ = false := frozen_of_row w g j _ _ h
theorem dp.ahc (h : dp w g bs) (hk : k < bs.length) {r : Nat} (hr : r < 64) : w.cell? ⟨g, k * 64 + r, none⟩ = some (.int .u8 (byt (bs.getD k aE) r)) := by
 rw [h.cell, oJ bs hk hr, fx _ hr]
theorem dp.there (h : dp w g bs) (hk : k < bs.length) : w.there g (k * 64) 64 := fun j hj => ⟨by rw [h.ahc hk hj]; rfl, h.frozen _⟩
theorem dp.rd (h : dp w g bs) (m : Nat) (hm : m <= bs.length) : RdB w w.heap.size (some ⟨g, 0, none⟩) m (bs.take m) := by
 have : RdB w w.heap.size (some ⟨g, 0, none⟩) bs.length bs := xF h.lt fun j v hj => by rw [Nat.zero_add, h.cell]; exact hj
 exact this.head hm
end
section
variable {ρ : Operand -> Value} {o : Oper} {x y : Operand} {w : World} {n : Nat}
theorem nI (ho : o.op = .makeSlice 120 x y) (hx : ρ x = .int .i64 (n : Int)) (hy : ρ y = .int .i64 (n : Int)) (hn : n <= 4398046511104) :
  (execOp ρ o).run prog w = .ok (.value (.slice (some ⟨w.heap.size, 0, none⟩) n n)) (w.alloc (.cells (madeCells (cel aE).toArray (n * 64)) 64)) := by
 obtain ⟨i0, hi, hz0, hz1, hz2⟩ := info_parts qT;have hr := run_make (P := prog) w 120 64 i0 (blk aE) ki hi hz0 .i64 .i64 n n (by omega) (Int.le_refl _) (by rw [hz2]; omega) (by omega);rw [hz1, fm] at hr;simp only [Int.toNat_natCast] at hr;unfold execOp;simp only [ho, hx, hy, Sem.run_bind, hr, Result.andThen_ok, Sem.run_pure]
end
theorem ma (n : Nat) : (flat (List.replicate n aE)).toArray = madeCells (cel aE).toArray (n * 64) := by
 apply Array.ext
 ·rw [size_madeCells, List.size_toArray, eC, List.length_replicate]
 ·intro j h1 h2;rw [size_madeCells] at h2;have hk : j / 64 < (List.replicate n aE).length := by rw [List.length_replicate]; omega
  have := oJ (List.replicate n aE) hk (j := j % 64) (by omega);rw [show j / 64 * 64 + j % 64 = j from by omega] at this;have hz : (List.replicate n aE).getD (j / 64) aE = aE := by
   rw [List.getD, List.getElem?_replicate]
   split <;> rfl
  rw [hz, fx aE (by omega)] at this;have hc := fx aE (j := j % 64) (by omega);have e1 : (flat (List.replicate n aE)).toArray[j] = .int .u8 (byt aE (j % 64)) := by
   rw [List.getElem?_eq_getElem (by simpa using h1)] at this
   simpa using this
  have e2 : (madeCells (cel aE).toArray (n * 64))[j]'(by rw [size_madeCells]; exact h2) = .int .u8 (byt aE (j % 64)) := by
   have hj : j % 64 < (cel aE).length := by rw [aG]; omega
   rw [List.getElem?_eq_getElem hj] at hc;simp only [madeCells, Array.getElem_map, Array.getElem_range, List.size_toArray, aG];rw [getElem!_pos (cel aE).toArray (j % 64) (by simpa using hj)]
   simpa using hc
  rw [e1, e2]
theorem oh (w : World) (n : Nat) : dp (w.alloc (.cells (madeCells (cel aE).toArray (n * 64)) 64)) w.heap.size (List.replicate n aE) := by
 unfold dp;rw [heap_alloc_new, ma]
end Go.Proofs.YtcpbekopbeaflaaGreatDoor
