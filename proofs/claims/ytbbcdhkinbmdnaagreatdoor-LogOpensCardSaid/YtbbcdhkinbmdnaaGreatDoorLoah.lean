import Derived.Test.YtbbcdhkinbmdnaaGreatDoorLoag
import Derived.Test.YtbbcdhkinbmdnaaGreatDoorLoab
import Derived.Test.YtbbcdhkinbmdnaaGreatDoorLoZ
namespace Go.Proofs.YtbbcdhkinbmdnaaGreatDoor
open Go.RowKit
set_option linter.unusedVariables false
set_option maxRecDepth 100000
set_option maxHeartbeats 1000000 in
theorem rsput_arg (m c : Nat) (A : Option Addr) (b : List UInt8) (w : World) :
  Calls Tryz.prog 59 #[.int .u64 0, .slice A m c] w fun e w' => e = .returned (.tuple #[blk (dL 0 b), .int .i64 (dW 0 b : Nat)]) ∧ Below w.heap.size w w' := by
 have hA := (Below.refl w.heap.size w).alloc (Nat.le_refl _) (.cells (cel ap).toArray 29)
 have HT := af (dl w ap 29)
 have HA := af hA
 clear hA
 rw [show dL 0 b = ap from rfl, show dW 0 b = 2 from rfl]
 go_enter Tryz.func59, Tryz.ntmps59
 go_wp2_with (first | (refine al rfl (aT rfl) ?_) | (refine al rfl (b8 (c := ap) (parts := []) rfl rfl) ?_) | (refine aV rfl (aR rfl rfl rfl HT.out) ?_))
 refine bodyPost_ret (bZ rfl _ _ _ rfl (World.rangeAt_setCells_same _ _ _ _ (by rw [aA]; exact HT.out))) rfl ⟨rfl, below_setCells HA.out (Nat.le_refl _) _⟩
set_option maxHeartbeats 1000000 in
theorem rsput_long (n m c : Nat) (A : Option Addr) (b : List UInt8) (w : World) (hb : b.length = m) (h0 : 0 < n) (hm : 44 < m) (hm2 : m ≤ maxLen) :
  Calls Tryz.prog 59 #[.int .u64 n, .slice A m c] w fun e w' => e = .returned (.tuple #[blk (dL n b), .int .i64 (dW n b : Nat)]) ∧ Below w.heap.size w w' := by
 have hA := (Below.refl w.heap.size w).alloc (Nat.le_refl _) (.cells (cel ap).toArray 29)
 have HT := af (dl w ap 29)
 have HA := af hA
 have hE : dW n b = 3 := by unfold dW; rw [if_neg (by omega), if_pos (by omega)]
 have hB : dL n b = ap := by unfold dL; rw [hE]; rfl
 rw [hE, hB]
 unfold maxLen at hm2
 clear hA hE hB hb
 have hz : ((n : Int) == 0) = false := by simp; omega
 go_enter Tryz.func59, Tryz.ntmps59
 go_wp2_with (first | (refine al rfl (aT rfl) ?_) | (refine al rfl (b8 (c := ap) (parts := []) rfl rfl) ?_) | (refine aV rfl (aR rfl rfl rfl HT.out) ?_))
 refine bodyPost_ret (bZ rfl _ _ _ rfl (World.rangeAt_setCells_same _ _ _ _ (by rw [aA]; exact HT.out))) rfl ⟨rfl, below_setCells HA.out (Nat.le_refl _) _⟩
theorem fJ (n k B : Nat) (w : World) (HB : Hid (B = w.heap.size)) (hn : n < 18446744073709551616) (h1 : 1 ≤ k) (h2 : k ≤ 8) (hk : n < 2 ^ (8 * k)) :
  Calls Tryz.prog 62 #[.int .u64 n, .int .i64 k] w fun e w' => ∃ v, e = .returned (.tuple #[v, .int .i64 0]) ∧ Made w' B v (aX 8 k n) ∧ Below B w w' :=
 (rput_any n k B w HB hn h1 h2).mono fun e w' ⟨⟨hy, _⟩, hb⟩ => by
  obtain ⟨v, he, hm⟩ := hy hk
  exact ⟨v, he, hm, hb⟩
def padK (n : Nat) (b : List UInt8) (k : Nat) : List UInt8 := aX 8 8 n ++ b ++ List.replicate k 0
theorem padK_length (n : Nat) (b : List UInt8) (k : Nat) : (padK n b k).length = 8 + b.length + k := by simp [padK, ay]; omega
theorem padK_zero (n : Nat) (b : List UInt8) : padK n b 0 = aX 8 8 n ++ b := by simp [padK]
theorem padK_succ (n : Nat) (b : List UInt8) (k : Nat) : padK n b k ++ [0] = padK n b (k + 1) := by simp [padK, List.replicate_succ']
theorem padK_head (n : Nat) (b : List UInt8) (k : Nat) (h : 8 + b.length + k = 52) : padK n b k = dj n b := by
 unfold padK dj cy
 rw [show 44 - b.length = k from by omega, List.append_assoc]
def lenV : Value → Nat
 | .slice _ n _ => n
 | _ => 0
def PadAt (n m : Nat) (b : List UInt8) (B : Nat) (w1 : World) (v : Value) (wr : World) : Prop := ∃ k : Nat, 8 + m + k ≤ 52 ∧ Made wr B v (padK n b k) ∧ Below B w1 wr
theorem rd_zero (w : World) : Rd (w.alloc (.cells #[.int .u8 0] 5)) (w.heap.size + 1) (some ⟨w.heap.size, 0, none⟩) 1 [0] := rd_new w [0] #[.int .u8 0] rfl
set_option maxHeartbeats 4000000 in
theorem rsput_yes (n m c N : Nat) (A : Option Addr) (b : List UInt8) (w : World) (hn : n < 18446744073709551616) (h0 : 0 < n) (hb : Rd w N A m b) (hN : N ≤ w.heap.size) (hm : m ≤ 44) :
  Calls Tryz.prog 59 #[.int .u64 n, .slice A m c] w fun e w' => e = .returned (.tuple #[blk (dL n b), .int .i64 (dW n b : Nat)]) ∧ Below w.heap.size w w' := by
 have hl := hb.1
 have hbl : b.length ≤ 44 := by omega
 have hE : dW n b = 0 := putE_ok (by omega) hbl
 have hB : dL n b = ofL (db n b) := putB_ok hE
 rw [hE, hB]
 have hA := (Below.refl w.heap.size w).alloc (Nat.le_refl _) (.cells (cel ap).toArray 29)
 have HA := af hA
 have HR := af (hb.below (hA.mono hN))
 have HRES := af (bR.blk w ap 29)
 have HLB := af hl
 have HN := af hn
 have HNN := af hN
 have HL64 := af (fF n hbl)
 have HH52 := af (dU n hbl)
 have HC := af (more_lt (s := 0) (by omega) (dj n b))
 clear hl hbl hE hB hA hn hb hN
 have hz : ((n : Int) == 0) = false := by simp; omega
 go_enter Tryz.func59, Tryz.ntmps59
 go_wp2_with (first | (refine al rfl (aT rfl) ?_) | fail)
 have hn := HN.out
 refine (fJ n 8 _ _ (af rfl) hn (by omega) (by omega) hn).mono ?_
 rintro e w1 ⟨v1, rfl, hm1, hb1⟩
 obtain ⟨A1, c1, rfl, hr1, hcc1, hcc2⟩ := hm1.open_ (ay 8 8 n)
 clear hn hm1 hcc1 hcc2
 have hs1 := hb1.size
 have HRES1 := af (bR.below HRES.out (by simp only [World.size_alloc]; omega) hb1)
 have HR1 := af (HR.out.below (hb1.mono (by have := HNN.out; simp only [World.size_alloc]; omega)))
 have HB1 := af (HA.out.trans (hb1.mono (by simp only [World.size_alloc]; omega)))
 have HD1 := af hr1
 have HS1 : Hid (w.heap.size + 1 ≤ w1.heap.size) := af (by simpa only [World.size_alloc] using hs1)
 clear hr1 hb1 hs1 HR HRES HA
 obtain ⟨r, hr⟩ : ∃ r, w.heap.size = r := ⟨_, rfl⟩
 have HRR := af hr
 rw [hr] at HRES1 HS1 HNN
 rw [hr]
 clear hr
 go_wp2_with fail
 obtain ⟨B, hB⟩ : ∃ B, B = w1.heap.size := ⟨_, rfl⟩
 have HB := af hB
 rw [← hB] at HD1 HS1
 clear hB
 refine (fV A1 8 c1 B B (aX 8 8 n) _ HB HD1.out (Nat.le_refl _) (by omega)).mono ?_
 rintro e w2 ⟨v2, rfl, hm2, hb2⟩
 have hR2 := HR1.out.below (hb2.mono (by have := HNN.out; have := HS1.out; omega))
 have HBle := af (show B ≤ w2.heap.size from Nat.le_trans (Nat.le_of_eq HB.out) hb2.size)
 go_wp2_with (at_builtin; refine fc rfl _ _ rfl B N m c _ (aX 8 8 n) b A rfl rfl hm2 hR2 HBle.out ?c1 ?_)
 case c1 => rw [ay]; omega
 intro v3 w3 hm3 hg3
 have hb3 : Below B w1 w3 := hb2.grown hg3 HBle.out (fun k hk => (hm2.lt k hk).1)
 rw [← padK_zero] at hm3
 have HM3 := af hm3
 have HB3 := af hb3
 clear hm2 hb2 hR2 hm3 hg3 hb3 HBle
 go_wp2
 go_loopw [8] (fun v wr => PadAt n m b B w1 v wr) (fun v _ => 52 - lenV v)
 case atStart => exact ⟨0, by omega, HM3.out, HB3.out⟩
 case round =>
  obtain ⟨k, hk, hmr, hbr⟩ := hrel
  obtain ⟨A', c', rfl, hr', hc1, hc2⟩ := hmr.open_ (n := 8 + m + k) (by rw [padK_length, HLB.out])
  unfold maxLen at hc2
  have hBr : B ≤ wr.heap.size := Nat.le_trans (Nat.le_of_eq HB.out) hbr.size
  have HMR := af hmr
  have HBR := af hbr
  have HRR' := af hr'
  by_cases hlt : 8 + m + k < 52
  ·have hma := hmr.below ((Below.refl wr.heap.size wr).alloc (Nat.le_refl _) (.cells #[.int .u8 0] 5))
   have hba : Below B w1 (wr.alloc (.cells #[.int .u8 0] 5)) := hbr.alloc hBr _
   have hra := rd_zero wr
   clear hmr hbr hr'
   go_wp2_with (at_builtin; refine fc rfl _ _ rfl B _ 1 1 _ (padK n b k) [0] _ rfl rfl hma hra ?c2 ?c3 ?_)
   case c2 => simp only [World.size_alloc]; omega
   case c3 => rw [padK_length, HLB.out]; omega
   intro v4 w4 hm4 hg4
   rw [padK_succ] at hm4
   have HM4 := af hm4
   have HB4 := af (hba.grown hg4 (by simp only [World.size_alloc]; omega) (fun k hk => (hma.lt k hk).1))
   obtain ⟨A5, c5, rfl, _, _, _⟩ := hm4.open_ (n := 8 + m + (k + 1)) (by rw [padK_length, HLB.out])
   clear hm4 hg4 hma hba hra
   go_wp2
   go_roundw
   case rel => exact ⟨k + 1, by omega, HM4.out, HB4.out⟩
   case measure => simp [lenV]; omega
  ·have hk52 : 8 + m + k = 52 := by omega
   have HPK := af (padK_head n b k (by rw [HLB.out]; exact hk52))
   rw [hk52] at HMR HRR' hc1 ⊢
   rw [HPK.out] at HMR HRR'
   clear hmr hbr hr' hlt hk hk52 HPK
   go_wp2_with fail
   refine (refOf_any A' 52 c' _ (dj n b) _ HRR'.out (by unfold maxLen; omega)).mono ?_
   rintro e w5 ⟨rfl, rfl⟩
   obtain ⟨s, hs⟩ : ∃ s, more 0 (dj n b) = s := ⟨_, rfl⟩
   have hs32 := HC.out
   rw [hs] at hs32 ⊢
   have HSS := af hs
   clear hs
   go_wp2_with fail
   refine (fJ s 4 _ _ (af rfl) (by omega) (by omega) (by omega) (by omega)).mono ?_
   rintro e w5 ⟨v5, rfl, hm5, hb5⟩
   obtain ⟨A5, c5, rfl, hr5, hcc1, hcc2⟩ := hm5.open_ (ay 8 4 s)
   have hmr5 := HMR.out.below hb5
   have hbr5 : Below B w1 w5 := HBR.out.trans (hb5.mono hBr)
   have hB5 : B ≤ w5.heap.size := Nat.le_trans hBr hb5.size
   clear hm5 hb5 hcc1 hcc2 hs32
   go_wp2_with (at_builtin; refine fc rfl _ _ rfl B _ 4 c5 _ (dj n b) (aX 8 4 s) A5 rfl rfl hmr5 hr5 hB5 ?c4 ?_)
   case c4 => rw [HH52.out]; omega
   intro v6 w6 hm6 hg6
   have HM6 := af hm6
   have HB6 := af (hbr5.grown hg6 hB5 (fun k hk => (hmr5.lt k hk).1))
   clear hmr5 hbr5 hm6 hg6 hr5
   have hB6 : B ≤ w6.heap.size := Nat.le_trans (Nat.le_of_eq HB.out) HB6.out.size
   have hm6 := HM6.out
   have hr6 := HD1.out.below HB6.out
   go_wp2_with (at_builtin; refine fc rfl _ _ rfl B B 8 c1 _ (dj n b ++ aX 8 4 s) (aX 8 8 n) A1 rfl rfl hm6 hr6 hB6 ?c5 ?_)
   case c5 => rw [List.length_append, HH52.out, ay]; omega
   intro v7 w7 hm7 hg7
   have hseal : dj n b ++ (aX 8 4 s ++ aX 8 8 n) = db n b := by rw [← HSS.out]; rfl
   rw [hseal] at hm7
   obtain ⟨q, c7, rfl, hq7, hc71, hc72⟩ := hm7.smn (by rw [HL64.out]; omega)
   rw [HL64.out] at hm7 hc71 ⊢
   unfold maxLen at hc72
   have hrd7 := hm7.rd
   have HB7 := af (HB6.out.grown hg7 hB6 (fun k hk => (hm6.lt k hk).1))
   have HRD7 := af hrd7
   clear hm7 hg7 hm6 hr6 hseal hrd7 HM6 HB6 HMR HRR' HBR
   have hO := row_new w7 ap 29
   have hb8 := (Below.refl w7.heap.size w7).alloc (Nat.le_refl _) (.cells (cel ap).toArray 29)
   go_wp2_with (first | (refine al rfl (aT rfl) ?_) | fail)
   generalize hg2 : w7.heap.size = g2 at *
   have HG2 := af hg2
   have HB8 := af hb8
   have HO := af hO
   clear hg2 hb8 hO
   go_loopw [12] (fun i wr => ∃ (j : Nat) (f : Nat → Int), j ≤ 64 ∧ i = .int .i64 j ∧ wr.rowIs g2 29 64 (fun j => .int .u8 (f j)) ∧ (∀ m, m < j → f m = bt (db n b) m) ∧ Below g2 w7 wr) (fun i _ => 64 - (intOf i).toNat)
   case atStart => exact ⟨0, byt ap, by omega, rfl, HO.out, fun m hm => absurd hm (by omega), HB8.out⟩
   case round =>
    clear HO HB8
    obtain ⟨j, f, hj, rfl, hrow, hf, hbl⟩ := hrel
    have HF := af hf
    clear hf
    by_cases hlt : j < 64
    ·have hc1 := hrow.cell (i := j) (by omega)
     have hfr := hrow.frozen j
     have hrd := (HRD7.out.below hbl).2 j hlt
     obtain ⟨bA, oA, hA1, hA2, hA3⟩ := hrd
     injection hA1 with hA1
     injection hA1 with e1 e2
     subst e1 e2
     rw [Nat.zero_add] at hA3
     go_wp2_with fail
     go_roundw
     case rel =>
      refine ⟨j + 1, upd f j (bt (db n b) j), by omega, by go_num, row_put hrow _, ?_, hbl.setCell (by simp) _⟩
      intro m hm
      by_cases e : m = j
      ·subst e; exact upd_at _ _ _
      ·rw [upd_off _ _ e]; exact HF.out m (by omega)
     case measure => simp [intOf]; omega
    ·have hj64 : j = 64 := by omega
     subst hj64
     have hr := range_row (c := ofL (db n b)) (o := 0) hrow (by omega) (fun m hm => by rw [Nat.zero_add, HF.out m hm, ofL_byt _ hm])
     have HR2 := af hr
     have hBX : Below B w1 wr := HB7.out.trans (hbl.mono (by rw [← HG2.out]; exact Nat.le_trans (Nat.le_of_eq HB.out) HB7.out.size))
     have HRX := HRES1.out.below (by have := HS1.out; omega) hBX
     have HTH : Hid (wr.there r 0 64) := af (there_row HRX.row (by simp))
     have HBB : Hid (Below w.heap.size w wr) := af (HB1.out.trans (hBX.mono (by rw [HRR.out]; have := HS1.out; omega)))
     clear hr hbl hrow hBX HRX
     go_wp2_with (first | (refine al rfl (aS rfl rfl HR2.out) ?_) | (refine aV rfl (aR rfl rfl rfl HTH.out) ?_) | fail)
     refine bodyPost_ret (bZ rfl _ _ _ rfl (World.rangeAt_setCells_same _ _ _ _ (by rw [aA]; exact HTH.out))) rfl ⟨rfl, below_setCells HBB.out (Nat.le_of_eq HRR.out) _⟩
theorem rsput_all (n m c N : Nat) (A : Option Addr) (b : List UInt8) (w : World) (hn : n < 18446744073709551616) (hb : Rd w N A m b) (hN : N ≤ w.heap.size) (hm : m ≤ maxLen) :
  Calls Tryz.prog 59 #[.int .u64 n, .slice A m c] w fun e w' => e = .returned (.tuple #[blk (dL n b), .int .i64 (dW n b : Nat)]) ∧ Below w.heap.size w w' := by
 by_cases h0 : n = 0
 ·subst h0
  exact rsput_arg m c A b w
 ·by_cases h44 : m ≤ 44
  ·exact rsput_yes n m c N A b w hn (by omega) hb hN h44
  ·exact rsput_long n m c A b w hb.1 (by omega) (by omega) hm
theorem app_where (w : World) (ty B N m c : Nat) (v : Value) (l l' : List UInt8) (ad : Addr) (hm : Made w B v l) (hr : Rd w N (some ad) m l') (h0 : 0 < m) (hsum : l.length + m ≤ 140737488355328) :
  ∀ v' w', (Builtin.append_ #[118, 118] ty #[v, .slice (some ad) m c]).run Tryz.prog w = .ok v' w' → v'.ownBlock = v.ownBlock ∨ v'.ownBlock = some w.heap.size := by
 obtain ⟨i0, hi, hz0, hz1, hz2⟩ := info_parts u8info
 intro v' w' hrun
 have hl : (l'.map fun u => Value.int .u8 (u.toNat : Int)).length = m * i0.size := by rw [hz1, List.length_map, hr.1, Nat.mul_one]
 have h1 : ∀ u ∈ l'.map (fun u => Value.int .u8 (u.toNat : Int)), u.oneCell' = true := by
  intro u hu
  simp at hu
  obtain ⟨x, _, rfl⟩ := hu
  rfl
 rcases hm.2 with ⟨rfl, hn⟩ | ⟨g, cap, cur, rfl, _, hg, hnc, _, hcs, _⟩
 ·rw [run_append_nil (P := Tryz.prog) w 118 ty 5 i0 _ Tryz.underlying118 hi hz0 ad m c _ hl (gc hr) h0 (by omega) (by rw [hz2]; omega)] at hrun
  injection hrun with e1 e2
  subst e1
  exact .inr rfl
 ·by_cases hroom : l.length + m ≤ cap
  ·rw [run_append_room (P := Tryz.prog) w 118 ty 5 i0 Tryz.underlying118 hi g l.length cap cur hg ad m c _ hl (gc hr) h1 hroom (by rw [hl, hz1, hcs]; omega)] at hrun
   injection hrun with e1 e2
   subst e1
   exact .inl rfl
  ·have hown := hm
   rw [run_append_grow (P := Tryz.prog) w 118 ty 5 i0 _ Tryz.underlying118 hi hz0 ⟨g, 0, none⟩ l.length cap (l.map fun u => Value.int .u8 (u.toNat : Int)) (by rw [hz1]; simp) (World.ownsRow.cells hm (g := g) rfl) ad m c _ hl (gc hr) (by omega) (by omega) (by rw [hz2]; exact growslice_fits (by omega) (by omega))] at hrun
   injection hrun with e1 e2
   subst e1
   exact .inr rfl
theorem fY {w : World} {ops : Array Oper} {rest : List Oper} {o : Oper} {a : Act} {Q : Exit → Act → World → Prop} (hgd : o.guard = none) (s x : Operand)
  (ho : o.op = .call { callee := .builtin .append, args := #[s, x], argTypes := #[118, 118] })
  (B N m c : Nat) (v : Value) (l l' : List UInt8) (A : Option Addr) (hs : a.eval s = v) (hx : a.eval x = .slice A m c) (hm : Made w B v l) (hr : Rd w N A m l') (h0 : 0 < m) (hB : B ≤ w.heap.size) (hsum : l.length + m ≤ 140737488355328)
  (h : ∀ v' w', Made w' B v' (l ++ l') → w.grownBy w' v.ownBlock → (v'.ownBlock = v.ownBlock ∨ v'.ownBlock = some w.heap.size) → wpList Tryz.prog ops Q rest (a.put o.dst v') w') : wpList Tryz.prog ops Q (o :: rest) a w := by
 refine wpList_plain hgd fun K hK => ?_
 obtain ⟨v', w', hrun, h1, h2⟩ := run_app w o.type B N m c v l l' A hm hr hB hsum
 obtain ⟨ad, rfl⟩ : ∃ ad, A = some ad := by
  obtain ⟨b, off, e, _⟩ := hr.2 0 h0
  exact ⟨_, e⟩
 have h3 := app_where w o.type B N m c v l l' ad hm hr h0 hsum v' w' hrun
 unfold Oper.wp
 simp [execOp, ho, resolve, invoke, builtin, hs, hx, hrun, Result.andThen]
 exact hK _ _ (h v' w' h1 h2 h3)
theorem Made.apart {w w' : World} {B : Nat} {v : Value} {l : List UInt8} {row : Option Nat} (h : Made w B v l) (hg : w.grownBy w' row) (hne : ∀ k, v.ownBlock = some k → row ≠ some k) : Made w' B v l := by
 refine World.ownsRow.kept h hg ?_
 rcases hv : v.ownBlock with _ | k
 ·exact .inl rfl
 ·exact .inr (fun e => hne k hv e.symm)
set_option linter.unusedSimpArgs false
theorem bodyM_eq (x : Mrk) {R : Nat} (h : x.ring.toNat = R) : aX 8 8 x.id ++ (aX 8 2 R ++ (aX 8 8 x.first ++ aX 8 8 x.pos)) = eh x := by
 unfold eh
 rw [h]
set_option maxHeartbeats 4000000 in
theorem rmbody (x : Mrk) (w : World) (hf : x.fit) (hx : dq x = true) : Calls Tryz.prog 60 #[mrk x] w fun e w' => ∃ v, e = .returned v ∧ Made w' w.heap.size v (eh x) ∧ Below w.heap.size w w' := by
 obtain ⟨h1, h2, h3⟩ := eZ w x
 have HS0 := af h1
 have HB0 := af h2
 have HZ0 := af h3
 obtain ⟨-, q1, q2, -, -, -⟩ := of_mrkB hx
 obtain ⟨f1, f2, f3⟩ := hf
 obtain ⟨R, hR⟩ : ∃ R : Nat, x.ring.toNat = R := ⟨_, rfl⟩
 have HBD := af (bodyM_eq x hR)
 have hR256 : R ≤ 256 := by omega
 have HC : Hid (∀ w' s, bP w' s x → w'.cell? ⟨s, 0, none⟩ = some (.int .u64 x.id) ∧ w'.cell? ⟨s, 1, none⟩ = some (.int .i64 (R : Nat)) ∧ w'.cell? ⟨s, 2, none⟩ = some (.int .u64 x.first) ∧ w'.cell? ⟨s, 3, none⟩ = some (.int .u64 x.pos)) := af fun w' s h => by
  have := h.cells
  rw [show x.ring = (R : Int) from by omega] at this
  exact this
 have HF1 := af f1
 have HF2 := af f2
 have HF3 := af f3
 clear h1 h2 h3 q1 q2 f1 f2 f3 hR hx
 go_enter Tryz.func60, Tryz.ntmps60
 go_upto_region 1 with (first | (refine ai rfl (fk rfl rfl) ?_) | fail)
 generalize w.alloc (.cells (a8 x).toArray 32) = w0 at *
 obtain ⟨s, hs⟩ : ∃ s, w.heap.size = s := ⟨_, rfl⟩
 have HSD := af hs
 rw [hs] at HS0 HB0 HZ0 ⊢
 clear hs
 obtain ⟨c0, c1, c2, c3⟩ := HC.out _ _ HS0.out
 go_wp2_with fail
 clear c0 c1 c2 c3
 refine (fJ x.id 8 _ w0 (af rfl) HF1.out (by omega) (by omega) (by have := HF1.out; simpa using this)).mono ?_
 rintro e w1 ⟨v1, rfl, hm, hb⟩
 have HM1 := af hm
 have HU1 : Hid (∀ k, v1.ownBlock = some k → k < w1.heap.size) := af fun k hk => (hm.lt k hk).2
 have HS1 := af (HS0.out.below HZ0.out hb)
 have HB1 := af (HB0.out.trans (hb.mono (Nat.le_of_lt HZ0.out)))
 have HZ1 : Hid (s < w1.heap.size) := af (Nat.lt_of_lt_of_le HZ0.out hb.size)
 have HL1 := af hb.size
 clear hm hb HS0 HB0
 obtain ⟨c0, c1, c2, c3⟩ := HC.out _ _ HS1.out
 go_wp2_with fail
 clear c0 c1 c2 c3
 refine (fJ R 2 _ w1 (af rfl) (by omega) (by omega) (by omega) (by omega)).mono ?_
 rintro e w2 ⟨v2, rfl, hm, hb⟩
 have HM2 := af hm
 have HM1 := af (HM1.out.below hb)
 have HS2 := af (HS1.out.below HZ1.out hb)
 have HB2 := af (HB1.out.trans (hb.mono (Nat.le_of_lt HZ1.out)))
 have HZ2 : Hid (s < w2.heap.size) := af (Nat.lt_of_lt_of_le HZ1.out hb.size)
 have HL2 := af hb.size
 clear hm hb HS1 HB1
 obtain ⟨c0, c1, c2, c3⟩ := HC.out _ _ HS2.out
 go_wp2_with fail
 clear c0 c1 c2 c3
 refine (fJ x.first 8 _ w2 (af rfl) HF2.out (by omega) (by omega) (by have := HF2.out; simpa using this)).mono ?_
 rintro e w3 ⟨v3, rfl, hm, hb⟩
 have HM3 := af hm
 have HU3 : Hid (∀ k, v3.ownBlock = some k → w2.heap.size ≤ k) := af fun k hk => (hm.lt k hk).1
 have HM1 := af (HM1.out.below hb)
 have HM2 := af (HM2.out.below hb)
 have HS3 := af (HS2.out.below HZ2.out hb)
 have HB3 := af (HB2.out.trans (hb.mono (Nat.le_of_lt HZ2.out)))
 have HZ3 : Hid (s < w3.heap.size) := af (Nat.lt_of_lt_of_le HZ2.out hb.size)
 have HL3 := af hb.size
 clear hm hb HS2 HB2
 obtain ⟨c0, c1, c2, c3⟩ := HC.out _ _ HS3.out
 go_wp2_with fail
 clear c0 c1 c2 c3
 refine (fJ x.pos 8 _ w3 (af rfl) HF3.out (by omega) (by omega) (by have := HF3.out; simpa using this)).mono ?_
 rintro e w4 ⟨v4, rfl, hm, hb⟩
 have HM4 := af hm
 have HU4 : Hid (∀ k, v4.ownBlock = some k → w3.heap.size ≤ k ∧ k < w4.heap.size) := af fun k hk => hm.lt k hk
 have HM1 := af (HM1.out.below hb)
 have HM2 := af (HM2.out.below hb)
 have HM3 := af (HM3.out.below hb)
 have HS4 := af (HS3.out.below HZ3.out hb)
 have HB4 := af (HB3.out.trans (hb.mono (Nat.le_of_lt HZ3.out)))
 have HZ4 : Hid (s < w4.heap.size) := af (Nat.lt_of_lt_of_le HZ3.out hb.size)
 have HL4 := af hb.size
 clear hm hb HS3 HB3
 have HG1 : Hid (Made w4 s v1 (aX 8 8 x.id)) := af (HM1.out.base (Nat.le_of_lt HZ0.out))
 have HE2 := af (ay 8 2 R)
 have HE3 := af (ay 8 8 x.first)
 have HE4 := af (ay 8 8 x.pos)
 have HE1 := af (ay 8 8 x.id)
 obtain ⟨A2, c2, rfl, hr2, _, _⟩ := HM2.out.open_ HE2.out
 have HR2 := af hr2
 clear hr2
 have HW4 : Hid (s ≤ w4.heap.size) := af (Nat.le_of_lt HZ4.out)
 go_wp2_with (first | (refine fY rfl _ _ rfl s _ 2 c2 v1 (aX 8 8 x.id) (aX 8 2 R) A2 rfl rfl HG1.out HR2.out (by omega) HW4.out (by rw [HE1.out]; omega) ?_) | fail)
 intro u1 w5 hm hg hw
 have HG2 := af hm
 have HM3' := af (HM3.out.apart hg (fun k hk e => by have := HU1.out k e; have := HU3.out k hk; have := HL2.out; omega))
 have HM4' := af (HM4.out.apart hg (fun k hk e => by have := HU1.out k e; have := HU4.out k hk; have := HL2.out; have := HL3.out; omega))
 have HB5 : Hid (Below s w w5) := af (HB4.out.grown hg HW4.out (fun k hk => (HG1.out.lt k hk).1))
 have HV : Hid (∀ k, u1.ownBlock = some k → k < w1.heap.size ∨ k = w4.heap.size) := af fun k hk => by
  rcases hw with h | h
  ·rw [h] at hk; exact .inl (HU1.out k hk)
  ·rw [h] at hk; injection hk with e; exact .inr e.symm
 have HW5 : Hid (s ≤ w5.heap.size) := af (Nat.le_trans HW4.out hg.size)
 clear hm hg hw HG1 HR2 HB4 HM1 HM2 HM3 HM4
 obtain ⟨A3, c3, rfl, hr3, _, _⟩ := HM3'.out.open_ HE3.out
 have HR3 := af hr3
 clear hr3
 go_wp2_with (first | (refine fY rfl _ _ rfl s _ 8 c3 u1 (aX 8 8 x.id ++ aX 8 2 R) (aX 8 8 x.first) A3 rfl rfl HG2.out HR3.out (by omega) HW5.out (by rw [List.length_append, HE1.out, HE2.out]; omega) ?_) | fail)
 intro u2 w6 hm hg hw
 have HG3 := af hm
 have HM4 := af (HM4'.out.apart hg (fun k hk e => by have := HV.out k e; have := HU4.out k hk; have := HL2.out; have := HL3.out; omega))
 have HB6 : Hid (Below s w w6) := af (HB5.out.grown hg HW5.out (fun k hk => (HG2.out.lt k hk).1))
 have HW6 : Hid (s ≤ w6.heap.size) := af (Nat.le_trans HW5.out hg.size)
 clear hm hg hw HG2 HR3 HB5 HM3' HM4' HV
 obtain ⟨A4, c4, rfl, hr4, _, _⟩ := HM4.out.open_ HE4.out
 have HR4 := af hr4
 clear hr4
 go_wp2_with (first | (refine fY rfl _ _ rfl s _ 8 c4 u2 (aX 8 8 x.id ++ aX 8 2 R ++ aX 8 8 x.first) (aX 8 8 x.pos) A4 rfl rfl HG3.out HR4.out (by omega) HW6.out (by rw [List.length_append, List.length_append, HE1.out, HE2.out, HE3.out]; omega) ?_) | fail)
 intro u3 w7 hm hg hw
 rw [HBD.out] at hm
 have HG4 := af hm
 have HB7 : Hid (Below s w w7) := af (HB6.out.grown hg HW6.out (fun k hk => (HG3.out.lt k hk).1))
 clear hm hg hw HG3 HB6 HR4 HM4
 go_wp2_with fail
 go_ret
 exact ⟨_, rfl, by rw [HSD.out]; exact HG4.out, by rw [HSD.out]; exact HB7.out⟩
set_option maxHeartbeats 2000000 in
theorem rmput (n : Nat) (x : Mrk) (w : World) (hn : n < 18446744073709551616) (hf : x.fit) :
  Calls Tryz.prog 15 #[.int .u64 n, mrk x] w fun e w' => e = .returned (.tuple #[blk (aN.pB ⟨n, x⟩), .int .i64 (aN.pE ⟨n, x⟩ : Nat)]) ∧ Below w.heap.size w w' := by
 obtain ⟨h1, h2, h3⟩ := eZ w x
 have HS := af (h1.past (.cells (cel ap).toArray 29))
 have HB := af (h2.alloc h2.size (.cells (cel ap).toArray 29))
 have HN := af hn
 have HI := af hf
 have HR : Hid (((w.alloc (.cells (a8 x).toArray 32)).alloc (.cells (cel ap).toArray 29)).there (w.heap.size + 1) 0 64) := af (by
  have := dl (w.alloc (.cells (a8 x).toArray 32)) ap 29
  rwa [World.size_alloc] at this)
 have HZ : Hid (w.heap.size + 1 < ((w.alloc (.cells (a8 x).toArray 32)).alloc (.cells (cel ap).toArray 29)).heap.size) := af (by simp only [World.size_alloc]; omega)
 clear h1 h2 h3 hn hf
 go_enter Tryz.func15, Tryz.ntmps15
 go_upto_region 1 with (first | (refine ai rfl (fk rfl rfl) ?_) | (refine ai rfl (aT rfl) ?_) | fail)
 try simp only [World.size_alloc]
 generalize (w.alloc (.cells (a8 x).toArray 32)).alloc (.cells (cel ap).toArray 29) = w1 at *
 refine ag ?_
 refine ai rfl (aj rfl (ev rfl)) ?_;simp only [aa]
 by_cases k0 : n < 1
 ·have H0 : Hid (decide ((n : Int) < 1) = true) := af (decide_eq_true (by omega))
  have hmay : ¬ aN.may ⟨n, x⟩ = true := by rw [dM, show evB n = false from decide_eq_false (by omega), Bool.false_and]; decide
  have HPB := af (aN.pB_no hmay)
  have HPE := af (aN.pE_no hmay)
  clear k0 hmay
  refine ai (v := .bool true) rfl (aZ true rfl (ev rfl) evk H0.out) ?_;simp only [aa]
  refine aC 2 (v := .bool true) rfl (aj rfl (ev rfl)) (by kernel_rfl) ?_
  simp only [aJ, ae, aa]
  refine ai (v := .bool true) rfl (aG rfl (ev rfl) evk) ?_;simp only [aa]
  refine aC 3 (v := .bool true) rfl (aj rfl (ev rfl)) (by kernel_rfl) ?_
  simp only [aJ, ae, aa]
  refine ai (v := .bool true) rfl (aG rfl (ev rfl) evk) ?_;simp only [aa]
  refine ah ?_
  go_wp2_with (first | (refine ai rfl (b8 (c := ap) (parts := []) rfl rfl) ?_) | (refine az rfl (aR (c := ap) rfl rfl rfl ?_) ?_; (with_reducible exact HR.out)) | fail)
  refine bodyPost_ret (bZ rfl _ _ _ rfl (World.rangeAt_setCells_same _ _ _ _ (by rw [aA]; exact HR.out))) rfl ⟨by rw [HPB.out, HPE.out]; rfl, below_setCells HB.out (Nat.le_succ _) _⟩
 ·have H0 : Hid (decide ((n : Int) < 1) = false) := af (decide_eq_false (by omega))
  refine ai (v := .bool false) rfl (aZ false rfl (ev rfl) evk H0.out) ?_;simp only [aa]
  refine ai (v := .bool false) rfl (aj rfl (ev rfl)) ?_;simp only [aa]
  refine al gr (aj rfl (ev rfl)) ?_;simp only [aa]
  by_cases k1 : 4611686018427387904 < n
  ·have H1 : Hid (decide ((4611686018427387904 : Int) < (n : Int)) = true) := af (decide_eq_true (by omega))
   have hmay : ¬ aN.may ⟨n, x⟩ = true := by rw [dM, show evB n = false from decide_eq_false (by omega), Bool.false_and]; decide
   have HPB := af (aN.pB_no hmay)
   have HPE := af (aN.pE_no hmay)
   clear k0 k1 hmay
   refine al (v := .bool true) gr (bp true rfl (ev rfl) evk H1.out) ?_;simp only [aa]
   refine ai (v := .bool true) rfl (aE rfl (ev rfl) (ev rfl)) ?_;simp only [aa]
   refine aC 3 (v := .bool true) rfl (aj rfl (ev rfl)) (by kernel_rfl) ?_
   simp only [aJ, ae, aa]
   refine ai (v := .bool true) rfl (aG rfl (ev rfl) evk) ?_;simp only [aa]
   refine ah ?_
   go_wp2_with (first | (refine ai rfl (b8 (c := ap) (parts := []) rfl rfl) ?_) | (refine az rfl (aR (c := ap) rfl rfl rfl ?_) ?_; (with_reducible exact HR.out)) | fail)
   refine bodyPost_ret (bZ rfl _ _ _ rfl (World.rangeAt_setCells_same _ _ _ _ (by rw [aA]; exact HR.out))) rfl ⟨by rw [HPB.out, HPE.out]; rfl, below_setCells HB.out (Nat.le_succ _) _⟩
  ·have H1 : Hid (decide ((4611686018427387904 : Int) < (n : Int)) = false) := af (decide_eq_false (by omega))
   have HEV : Hid (evB n = true) := af (decide_eq_true (by omega))
   have HN0 : Hid (n ≠ 0) := af (by omega)
   clear k0 k1
   refine al (v := .bool false) gr (bp false rfl (ev rfl) evk H1.out) ?_;simp only [aa]
   refine ai (v := .bool false) rfl (aE rfl (ev rfl) (ev rfl)) ?_;simp only [aa]
   refine ai (v := .bool false) rfl (aj rfl (ev rfl)) ?_;simp only [aa]
   refine al gr (bk (c := x) rfl (ev rfl) HS.out.range) ?_;simp only [aa]
   refine ar gr (av Tryz.call58 rfl (evc (ev rfl) evn)) ?_
   by_cases hm : dq x = true
   ·have HM := af hm
    have hmay : aN.may ⟨n, x⟩ = true := by rw [dM, HEV.out, hm]; rfl
    have HPB : Hid (aN.pB ⟨n, x⟩ = dL n (eh x)) := af (aN.pB_ok hmay)
    have HPE := af (aN.pE_ok hmay)
    clear hm hmay
    refine (rmmay_b x _ HM.out).mono ?_
    rintro e w2 ⟨rfl, hb⟩
    refine ⟨_, rfl, ?_⟩
    simp only [aa]
    refine al (v := .bool false) gr (bf true rfl (ev rfl)) ?_;simp only [aa]
    refine ai (v := .bool false) rfl (aE rfl (ev rfl) (ev rfl)) ?_;simp only [aa]
    refine ah ?_
    have HS2 := af (HS.out.below (aK HS.out) hb)
    have HB2 := af (HB.out.trans (hb.mono HB.out.size))
    have HR2 := af (aO HR.out HZ.out hb)
    have HZ2 : Hid (w.heap.size + 1 < w2.heap.size) := af (by have := hb.size; have := HZ.out; omega)
    clear hb HS HB HR HZ
    go_wp2_with (first | (refine ai rfl (bk (c := x) rfl rfl ?_) ?_; (with_reducible exact HS2.out.range)) | fail)
    refine (rmbody x w2 HI.out HM.out).mono ?_
    rintro e w3 ⟨v, rfl, hv, hb⟩
    obtain ⟨A, c, rfl, hrd, _, _⟩ := hv.open_ (bodyM_length x)
    have HRD := af hrd
    have HB3 := af (HB2.out.trans (hb.mono HB2.out.size))
    have HR3 := af (aO HR2.out HZ2.out hb)
    have HZ3 : Hid (w.heap.size + 1 < w3.heap.size) := af (by have := hb.size; have := HZ2.out; omega)
    clear hb hv hrd HS2 HB2 HR2 HZ2
    go_wp2_with fail
    refine (rsput_all n 26 c _ A (eh x) w3 HN.out HRD.out (Nat.le_refl _) (by unfold maxLen; omega)).mono ?_
    rintro e w5 ⟨rfl, hb⟩
    rw [show dW n (eh x) = 0 from aN.body_putE ⟨n, x⟩ HN0.out]
    have HR5 := af (aO HR3.out HZ3.out hb)
    have HB5 := af (HB3.out.trans (hb.mono HB3.out.size))
    clear hb HRD HR3 HZ3 HB3
    generalize dL n (eh x) = pb at *
    go_wp2_with (first | (refine az rfl (aR (c := pb) rfl rfl rfl ?_) ?_; (with_reducible exact HR5.out)) | fail)
    refine bodyPost_ret (bZ rfl _ _ _ rfl (World.rangeAt_setCells_same _ _ _ _ (by rw [aA]; exact HR5.out))) rfl ⟨by rw [HPB.out, HPE.out]; rfl, below_setCells HB5.out (Nat.le_succ _) _⟩
   ·have hm' : dq x = false := by simpa using hm
    have HM := af hm'
    have hmay : ¬ aN.may ⟨n, x⟩ = true := by rw [dM, hm', Bool.and_false]; decide
    have HPB := af (aN.pB_no hmay)
    have HPE := af (aN.pE_no hmay)
    clear hm hm' hmay
    refine (rmmay_b x _ HM.out).mono ?_
    rintro e w2 ⟨rfl, hb⟩
    refine ⟨_, rfl, ?_⟩
    simp only [aa]
    refine al (v := .bool true) gr (bf false rfl (ev rfl)) ?_;simp only [aa]
    refine ai (v := .bool true) rfl (aE rfl (ev rfl) (ev rfl)) ?_;simp only [aa]
    refine ah ?_
    have HB2 := af (HB.out.trans (hb.mono HB.out.size))
    have HR2 := af (aO HR.out HZ.out hb)
    clear hb HS HB HR HZ
    go_wp2_with (first | (refine ai rfl (b8 (c := ap) (parts := []) rfl rfl) ?_) | (refine az rfl (aR (c := ap) rfl rfl rfl ?_) ?_; (with_reducible exact HR2.out)) | fail)
    refine bodyPost_ret (bZ rfl _ _ _ rfl (World.rangeAt_setCells_same _ _ _ _ (by rw [aA]; exact HR2.out))) rfl ⟨by rw [HPB.out, HPE.out]; rfl, below_setCells HB2.out (Nat.le_succ _) _⟩
section
variable {P : Program} {ops : Array Oper} {Q : Exit → Act → World → Prop} {md : Region.Mode} {S : World → Prop} {z : Nat}
def cF (P : Program) (md : Region.Mode) (ops : Array Oper) (Q : Exit → Act → World → Prop) (S : World → Prop) (z : Nat) : Nat → Array Bool → Act → World → Prop
 | 0, listed, a, w => Region.ready md ops listed = [] ∧ Q .normal a w
 | fuel + 1, listed, a, w =>
  (Region.ready md ops listed = [] → Q .normal a w) ∧
  ∀ i ∈ Region.ready md ops listed, wpOp P ops Q i (fun a' w' => (i ≠ z → S w') ∧ cF P md ops Q S z fuel (listed.setIfInBounds i true) a' w') a w
theorem wpAny_of_Z : ∀ (fuel : Nat) (listed : Array Bool) (a : Act) (w : World), cF P md ops Q S z fuel listed a w → wpAny P md ops Q fuel listed a w
 | 0, _, _, _, h => h
 | fuel + 1, _, _, _, h => ⟨h.1, fun i hi => wpOp_mono (fun a' w' h' => wpAny_of_Z fuel _ a' w' h'.2) (h.2 i hi)⟩
def waitsB (md : Region.Mode) (ops : Array Oper) (z i : Nat) : Bool := match ops[z]? with
 | some o => o.after.any fun e => Region.binds md e && decide (e.on = i)
 | none => false
theorem waits_spec {listed : Array Bool} {i : Nat} (h : waitsB md ops z i = true) (hi : listed.getD i false = false) : z ∉ Region.ready md ops listed := by
 intro hz
 obtain ⟨_, o, ho, hall⟩ := mem_ready.1 hz
 unfold waitsB at h
 rw [ho] at h
 simp only [Array.any_eq_true, Bool.and_eq_true, decide_eq_true_eq] at h
 obtain ⟨k, hk, hb, he⟩ := h
 have := hall _ (Array.getElem_mem hk) hb
 rw [he, hi] at this
 cases this
theorem un_of {listed : Array Bool} {i : Nat} (h : listed.getD i true = false) : listed.getD i false = false := by
 rcases Nat.lt_or_ge i listed.size with h' | h'
 ·simpa [h'] using h
 ·simp [Array.getElem?_eq_none h']
theorem wpAnyZ_first {i : Nat} {oi : Oper} {v : Value} (hi : ops[i]? = some oi) (hsel : ∀ (j : Nat) (o : Oper) cs b, ops[j]? = some o → o.op ≠ .select cs b)
  (hQ : ∀ c a w, Q (.panic c) (a.put oi.dst v) w → Q (.panic c) a w) (hiz : i ≠ z) (hwz : waitsB md ops z i = true) :
  ∀ (fuel : Nat) (listed : Array Bool) (a : Act) (w : World),
   (∀ j oj, ops[j]? = some oj → j ≠ i → listed.getD j true = false → (∀ e ∈ oj.after, Region.binds md e = true → e.on ≠ i) → oi.apart ops oj = true) →
   i ∈ Region.ready md ops listed → YieldsIf P ops S oi v a → S w →
   cF P md ops Q S z fuel (listed.setIfInBounds i true) (a.put oi.dst v) w → cF P md ops Q S z (fuel + 1) listed a w := by
 intro fuel
 induction fuel with
 | zero =>
  intro listed a w _ hr hy hS H
  refine ⟨fun h => (by rw [h] at hr; cases hr), fun j hj => ?_⟩
  by_cases hji : j = i
  ·subst hji; exact hy.wpOp hi hS ⟨fun _ => hS, H⟩
  ·have := ready_mono hj hji
   rw [H.1] at this
   cases this
 | succ fuel ih =>
  intro listed a w hfree hr hy hS H
  refine ⟨fun h => (by rw [h] at hr; cases hr), fun j hj => ?_⟩
  by_cases hji : j = i
  ·subst hji; exact hy.wpOp hi hS ⟨fun _ => hS, H⟩
  ·have h1 := H.2 j (ready_mono hj hji)
   obtain ⟨hjun, oj, hoj, hall⟩ := mem_ready.1 hj
   have hjz : j ≠ z := fun e => by
    subst e
    exact waits_spec hwz (un_of (mem_ready.1 hr).1) hj
   have hnot : ∀ e ∈ oj.after, Region.binds md e = true → e.on ≠ i := fun e he hb heq => by
    have h1 := hall e he hb
    rw [heq, un_of (mem_ready.1 hr).1] at h1
    cases h1
   have h2 := wpOp_putIf hoj (hfree j oj hoj hji hjun hnot) (fun cs b => hsel i oi cs b hi) (fun cs b => hsel j oj cs b hoj) hQ hy h1
   have hfree' : ∀ k ok, ops[k]? = some ok → k ≠ i → (listed.setIfInBounds j true).getD k true = false →
     (∀ e ∈ ok.after, Region.binds md e = true → e.on ≠ i) → oi.apart ops ok = true := fun k ok hk hki hun hno => by
    refine hfree k ok hk hki ?_ hno
    by_cases hjk : j = k
    ·subst hjk; exact hjun
    ·rw [getD_set_ne true hjk] at hun; exact hun
   refine wpOp_mono (fun a' w' h3 => ⟨h3.2.1, ih (listed.setIfInBounds j true) a' w' hfree' (ready_mono hr (Ne.symm hji)) h3.1 (h3.2.1 hjz) ?_⟩) h2
   rw [Array.setIfInBounds_comm _ _ hji]
   exact h3.2.2
theorem wpAnyZ_all {rs : List Nat} {fuel : Nat} {listed : Array Bool} {a : Act} {w : World} (hr : Region.ready md ops listed = rs) (hne : rs ≠ [])
  (h : ∀ i ∈ rs, wpOp P ops Q i (fun a' w' => (i ≠ z → S w') ∧ cF P md ops Q S z fuel (listed.setIfInBounds i true) a' w') a w) : cF P md ops Q S z (fuel + 1) listed a w :=
 ⟨fun h0 => absurd (hr ▸ h0) hne, hr ▸ h⟩
theorem cm {listed : Array Bool} {a : Act} {w : World} (hr : Region.ready md ops listed = []) (h : Q .normal a w) :
  ∀ fuel, cF P md ops Q S z fuel listed a w
 | 0 => ⟨hr, h⟩
 | _ + 1 => ⟨fun _ => h, by rw [hr]; simp⟩
theorem bH {id : Nat} {a : Act} {w : World} (S : World → Prop) (z : Nat) (hm : P.follows .mixedOrders = true)
  (h : cF P .any ops Q S z ops.size (Array.replicate ops.size false) a w.drew) : (Code.region id ops true).wp P Q a w :=
 wp_region_any hm (wpAny_of_Z _ _ _ _ h)
end
section
variable {P : Program} {md : Region.Mode} {l : List Oper} {Q : Exit → Act → World → Prop} {S : World → Prop} {z fuel : Nat} {listed : Array Bool} {a : Act} {w w' : World} {o : Oper} {v : Value}
theorem ax (i : Nat) (hi : l[i]? = some o) (hs : Region.noSelect l.toArray = true) (hf : Region.free md l.toArray listed i = true) (hr : (Region.ready md l.toArray listed).contains i = true) (hiz : i ≠ z) (hwz : waitsB md l.toArray z i = true)
  (hw : Region.wanted o (yielded l.toArray a.tmps) = true) (h : ∀ w, S w → (execOp a.eval o).run P w = .ok (.value v) w) (hQ : ∀ c a w, Q (.panic c) (a.put o.dst v) w → Q (.panic c) a w) (hS : S w)
  (hk : cF P md l.toArray Q S z fuel (listed.setIfInBounds i true) (a.put o.dst v) w) : cF P md l.toArray Q S z (fuel + 1) listed a w :=
 wpAnyZ_first (by simpa using hi) (Region.noSelect_spec hs) hQ hiz hwz fuel listed a w (Region.free_spec (by simpa using hi) hf) (by simpa using hr) (.inl ⟨hw, h⟩) hS hk
theorem gu (i : Nat) (hi : l[i]? = some o) (h : ∀ w, S w → (execOp a.eval o).run P w = .ok (.value v) w) (hS : S w) (hk : cF P md l.toArray Q S z fuel (listed.setIfInBounds i true) (a.put o.dst v) w) (hs : Region.noSelect l.toArray = true := by kernel_rfl) (hf : Region.free md l.toArray listed i = true := by kernel_rfl) (hr : (Region.ready md l.toArray listed).contains i = true := by kernel_rfl) (hiz : i ≠ z := by decide) (hwz : waitsB md l.toArray z i = true := by kernel_rfl) (hw : Region.wanted o (yielded l.toArray a.tmps) = true := by exact rfl) (hQ : ∀ c a w, Q (.panic c) (a.put o.dst v) w → Q (.panic c) a w := by exact fun _ _ _ h => h) : cF P md l.toArray Q S z (fuel + 1) listed a w := ax i hi hs hf hr hiz hwz hw h hQ hS hk
theorem bl (i : Nat) (hi : l[i]? = some o) (hr : Region.ready md l.toArray listed = [i]) (hw : Region.wanted o (yielded l.toArray a.tmps) = true) (h : (execOp a.eval o).run P w = .ok (.value v) w')
  (hS : i ≠ z → S w') (hk : cF P md l.toArray Q S z fuel (listed.setIfInBounds i true) (a.put o.dst v) w') : cF P md l.toArray Q S z (fuel + 1) listed a w :=
 wpAnyZ_all hr (by simp) fun j hj => by
  obtain rfl : j = i := by simpa using hj
  unfold wpOp
  simp only [List.getElem?_toArray, hi, hw, if_true]
  refine .inl ?_
  unfold Oper.wp
  rw [h]
  exact ⟨hS, hk⟩
theorem cQ (i : Nat) {f : FuncId} {vs : Array Value} (hi : l[i]? = some o) (hr : Region.ready md l.toArray listed = [i]) (hw : Region.wanted o (yielded l.toArray a.tmps) = true) (h : (execOp a.eval o).run P w = .ok (.enter f vs) w)
  (hc : Calls P f vs w fun e w' => ∃ v, e = .returned v ∧ (i ≠ z → S w') ∧ cF P md l.toArray Q S z fuel (listed.setIfInBounds i true) (a.put o.dst v) w') : cF P md l.toArray Q S z (fuel + 1) listed a w :=
 wpAnyZ_all hr (by simp) fun j hj => by
  obtain rfl : j = i := by simpa using hj
  unfold wpOp
  simp only [List.getElem?_toArray, hi, hw, if_true]
  refine .inl ?_
  unfold Oper.wp
  rw [h]
  exact hc.mono fun e w' ⟨v, he, hk⟩ => by subst he; exact hk
theorem fy (i : Nat) (hi : l[i]? = some o) (hr : Region.ready md l.toArray listed = [i]) (hw : Region.wanted o (yielded l.toArray a.tmps) = true) (h : (execOp a.eval o).run P w = .ok .skip w')
  (hS : i ≠ z → S w') (hk : cF P md l.toArray Q S z fuel (listed.setIfInBounds i true) (a.put o.dst undef) w') : cF P md l.toArray Q S z (fuel + 1) listed a w :=
 wpAnyZ_all hr (by simp) fun j hj => by
  obtain rfl : j = i := by simpa using hj
  unfold wpOp
  simp only [List.getElem?_toArray, hi, hw, if_true]
  refine .inl ?_
  unfold Oper.wp
  rw [h]
  exact ⟨hS, hk⟩
end
end Go.Proofs.YtbbcdhkinbmdnaaGreatDoor
