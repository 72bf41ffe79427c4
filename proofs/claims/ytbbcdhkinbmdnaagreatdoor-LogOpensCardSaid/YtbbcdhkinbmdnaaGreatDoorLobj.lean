import Derived.Test.YtbbcdhkinbmdnaaGreatDoorLoba
import Derived.Test.YtbbcdhkinbmdnaaGreatDoorLobb
import Derived.Test.YtbbcdhkinbmdnaaGreatDoorLoag
import Derived.Test.YtbbcdhkinbmdnaaGreatDoorLobc
import Derived.Test.YtbbcdhkinbmdnaaGreatDoorLoao
import Derived.Test.YtbbcdhkinbmdnaaGreatDoorLoZ
namespace Go.Proofs.YtbbcdhkinbmdnaaGreatDoor
open Go.RowKit
set_option linter.unusedVariables false
set_option linter.unusedSimpArgs false
set_option maxRecDepth 100000
theorem exec_cvUI {ρ : Operand → Value} {o : Oper} {x : Operand} {w : World} {n : Nat} (ho : o.op = .convert 5 3 x) (hx : ρ x = .int .u8 (n : Int)) (hn : n ≤ 255) : (execOp ρ o).run Tryz.prog w = .ok (.value (.int .i64 (n : Int))) w := by
 have h : IntKind.i64.wrap (n : Int) = (n : Int) := by rw [IntKind.wrap_i64]; omega
 have hc : (convert 5 3 (.int .u8 (n : Int))).run Tryz.prog w = .ok (.int .i64 (n : Int)) w := by simp [convert, go_sem, h]
 unfold execOp
 simp only [ho, hx, Sem.run_bind, hc, Result.andThen_ok, Sem.run_pure]
theorem bt_nat (l : List UInt8) (k : Nat) : ∃ n : Nat, bt l k = (n : Int) ∧ n ≤ 255 := by
 obtain ⟨n, hn⟩ := Int.eq_ofNat_of_zero_le (bt_lo l k)
 have := bt_hi l k
 exact ⟨n, hn, by omega⟩
theorem tolC_of {l : List Blk} {k i b0 b1 b2 : Nat} (hlen : 4 * i + 3 < (bJ l).length) (h0 : bt (bJ l) (4 * i) = (b0 : Int)) (h1 : bt (bJ l) (4 * i + 1) = (b1 : Int)) (h2 : bt (bJ l) (4 * i + 2) = (b2 : Int)) :
  tolC l k i = ⟨((b0 + 256 * b1 : Nat) : Int), (b2 : Int), l.getD (k + i) ap⟩ := by
 unfold tolC
 rw [val_pc2 (by omega), val_pc1 (by omega), h0, h1, h2]
 congr 1
theorem aH.ty_apart {α : Type} {E : Elt α} {w : World} {B q : Nat} {v : Value} {l : List α} {cs : Array Value} {t : TypeId} (h : aH E w B v l) (hq : w.heap[q]? = some (.cells cs t (0, 0))) (ht : E.t ≠ t) : v.ownBlock ≠ some q := by
 intro e
 rcases h.2 with ⟨rfl, _⟩ | ⟨g, cap, cur, rfl, _, hg, _⟩
 ·simp [Value.ownBlock] at e
 ·simp [Value.ownBlock] at e
  subst e
  rw [hg] at hq
  simp at hq
  exact ht hq.2
theorem exec_appEv {o : Oper} {a : Act} {w w' : World} {s x : Operand} {A : Option Addr} {m c : Nat} {v v' : Value} (ho : o.op = .call { callee := .builtin .append, args := #[s, x], argTypes := #[52, 52] }) (hs : a.eval s = v) (hx : a.eval x = .slice A m c)
  (hrun : (Builtin.append_ #[52, 52] o.type #[v, .slice A m c]).run Tryz.prog w = .ok v' w') : (execOp a.eval o).run Tryz.prog w = .ok (.value v') w' := by
 simp [execOp, ho, resolve, invoke, builtin, hs, hx, hrun, Result.andThen]
theorem rcget_no (A : Option Addr) (m c N B : Nat) (l : List Blk) (n : Int) (w : World) (HB : Hid (B = w.heap.size)) (hl : RdB w N A m l) (hx : m ≤ maxLen) (hno : dZ n = 0 ∨ m ≠ dZ n) :
  Calls Tryz.prog 94 #[.slice A m c, .int .i64 n] w fun e w' => ∃ v, e = .returned (.tuple #[v, .int .i64 (rgE l n : Nat)]) ∧ aH bY w' B v (rgC l n) ∧ Below B w w' := by
 have HL := af hl.1
 obtain ⟨s, hs⟩ : ∃ s, dZ n = s := ⟨_, rfl⟩
 have HS := af hs
 have hs34 : s ≤ 34 := by
  rw [← hs]
  unfold dZ hd
  split
  ·omega
  ·omega
 unfold maxLen at hx
 rw [hs] at hno
 by_cases h0 : s = 0
 ·have HE := af (rgE_arg (l := l) (n := n) (by rw [hs, h0]))
  have HC := af (rgC_no (l := l) (n := n) (by rw [HE.out]; omega))
  clear hs hno
  subst h0
  go_enter Tryz.func94, Tryz.ntmps94
  go_wp2_with fail
  refine (rsize n w).mono ?_
  rintro e w' ⟨rfl, rfl⟩
  rw [HS.out]
  go_wp2_with fail
  go_ret2
  exact ⟨_, by rw [HE.out]; rfl, by rw [HC.out]; exact aH.nil _ _, Below.refl _ _⟩
 ·by_cases hlt : m < s
  ·have HE := af (rgE_short (l := l) (n := n) (by rw [hs]; exact h0) (by rw [HL.out, hs]; exact hlt))
   have HC := af (rgC_no (l := l) (n := n) (by rw [HE.out]; omega))
   clear hs hno
   go_enter Tryz.func94, Tryz.ntmps94
   go_wp2_with fail
   refine (rsize n w).mono ?_
   rintro e w' ⟨rfl, rfl⟩
   rw [HS.out]
   go_wp2_with fail
   refine (rsize n w).mono ?_
   rintro e w' ⟨rfl, rfl⟩
   rw [HS.out]
   go_wp2_with fail
   go_ret2
   exact ⟨_, by rw [HE.out]; rfl, by rw [HC.out]; exact aH.nil _ _, Below.refl _ _⟩
  ·have HE := af (rgE_more (l := l) (n := n) (by rw [hs]; exact h0) (by rw [HL.out, hs]; omega))
   have HC := af (rgC_no (l := l) (n := n) (by rw [HE.out]; omega))
   have hgt : s < m := by omega
   clear hs hno hlt
   go_enter Tryz.func94, Tryz.ntmps94
   go_wp2_with fail
   refine (rsize n w).mono ?_
   rintro e w' ⟨rfl, rfl⟩
   rw [HS.out]
   go_wp2_with fail
   refine (rsize n w).mono ?_
   rintro e w' ⟨rfl, rfl⟩
   rw [HS.out]
   go_wp2_with fail
   refine (rsize n w).mono ?_
   rintro e w' ⟨rfl, rfl⟩
   rw [HS.out]
   go_wp2_with fail
   go_ret2
   exact ⟨_, by rw [HE.out]; rfl, by rw [HC.out]; exact aH.nil _ _, Below.refl _ _⟩
set_option maxHeartbeats 16000000 in
theorem rcget_at (b off m c N B : Nat) (l : List Blk) (n : Nat) (w : World) (HB : Hid (B = w.heap.size)) (hl : RdB w N (some ⟨b, off, none⟩) m l) (hN : N ≤ B) (h1 : 1 ≤ n) (h32 : n ≤ 32) (hs : m = hd n + n) :
  Calls Tryz.prog 94 #[.slice (some ⟨b, off, none⟩) m c, .int .i64 (n : Int)] w fun e w' => ∃ v, e = .returned (.tuple #[v, .int .i64 (rgE l (n : Int) : Nat)]) ∧ aH bY w' B v (rgC l (n : Int)) ∧ Below B w w' := by
 have hlen : l.length = hd n + n := by rw [hl.1, hs]
 obtain ⟨h, hh⟩ : ∃ h, hd n = h := ⟨_, rfl⟩
 have hh2 : h ≤ 2 ∧ n ≤ 16 * h ∧ 4 * n ≤ 64 * h ∧ 1 ≤ h := by rw [← hh]; unfold hd; omega
 have HH := af hh2
 have HHD := af hh
 have HM := af (show m = h + n by rw [hs, hh])
 have HLE := af (Nat.le_of_eq HB.out)
 have HSIZ := af (fv h1 h32)
 rw [hh] at HSIZ
 have HRD : Hid (∀ w' : World, Below B w w' → RdB w' N (some ⟨b, off, none⟩) m l) := af fun w' hb => hl.below (hb.mono hN)
 have HBL := af (cx l)
 have HLL := af hlen
 rw [hh] at HLL
 have HPL : Hid (∀ i, i < n → okC (tolC l h i) = false ∨ bt (bJ l) (4 * i + 3) ≠ 0 → rgE l (n : Int) = 5) := af fun i hi hx => rgE_place h1 h32 hlen hi (by rw [hh]; exact hx)
 have HRS : Hid (∀ j, 4 * n ≤ j → j < 64 * h → bt (bJ l) j ≠ 0 → rgE l (n : Int) = 5) := af fun j ha hb hx => rgE_rest h1 h32 hlen ha (by rw [hh]; exact hb) hx
 have HFN : Hid ((∀ i, i < n → okC (tolC l h i) = true ∧ bt (bJ l) (4 * i + 3) = 0) → (∀ j, 4 * n ≤ j → j < 64 * h → bt (bJ l) j = 0) → rgE l (n : Int) = 0) := af fun hp hz => rgE_fine h1 h32 hlen (by rw [hh]; exact hp) (by rw [hh]; exact hz)
 have HCO : Hid (rgE l (n : Int) = 0 → rgC l (n : Int) = tol l n) := af fun h => by have := rgC_ok h; rwa [Int.toNat_natCast] at this
 have HCN : Hid (rgE l (n : Int) = 5 → rgC l (n : Int) = []) := af fun h => rgC_no (by omega)
 have HTL := af (b9 l n)
 have HTA : Hid (∀ i, i < n → (tol l n).getD i cC = tolC l h i) := af fun i hi => by rw [← hh]; exact tol_at hi
 have HN0 : Hid ((((h + n : Nat) : Int) == 0) = false) := af (by simp; omega)
 have HN1 : Hid (decide ((m : Int) < ((h + n : Nat) : Int)) = false) := af (decide_eq_false (by have := HM.out; omega))
 have HN2 : Hid (decide (((h + n : Nat) : Int) < (m : Int)) = false) := af (decide_eq_false (by have := HM.out; omega))
 have HPLC := af (rplaces n w (by omega))
 rw [hh] at HPLC
 clear hl hs hlen hh hh2
 go_enter Tryz.func94, Tryz.ntmps94
 go_upto_region 1 with fail
 refine ag ?_
 refine ai rfl (aj rfl (ev rfl)) ?_;simp only [aa]
 refine ar rfl (av Tryz.call39 rfl (evc (ev rfl) evn)) ?_
 refine (rsize n w).mono ?_
 rintro e w' ⟨rfl, rfl⟩
 rw [HSIZ.out]
 refine ⟨_, rfl, ?_⟩
 simp only [aa]
 refine ai (v := .bool false) rfl (aP false rfl (ev rfl) evk HN0.out) ?_;simp only [aa]
 refine ah ?_
 go_upto_region 3 with fail
 refine ag ?_
 refine ai rfl (aj rfl (ev rfl)) ?_;simp only [aa]
 refine ai rfl (ep rfl (ev rfl)) ?_;simp only [aa]
 refine ai rfl (aj rfl (ev rfl)) ?_;simp only [aa]
 refine ar rfl (av Tryz.call39 rfl (evc (ev rfl) evn)) ?_
 refine (rsize n w).mono ?_
 rintro e w' ⟨rfl, rfl⟩
 rw [HSIZ.out]
 refine ⟨_, rfl, ?_⟩
 simp only [aa]
 refine ai (v := .bool false) rfl (aZ false rfl (ev rfl) (ev rfl) HN1.out) ?_;simp only [aa]
 refine ah ?_
 go_upto_region 5 with fail
 refine ag ?_
 refine ai rfl (aj rfl (ev rfl)) ?_;simp only [aa]
 refine ai rfl (ep rfl (ev rfl)) ?_;simp only [aa]
 refine ai rfl (aj rfl (ev rfl)) ?_;simp only [aa]
 refine ar rfl (av Tryz.call39 rfl (evc (ev rfl) evn)) ?_
 refine (rsize n w).mono ?_
 rintro e w' ⟨rfl, rfl⟩
 rw [HSIZ.out]
 refine ⟨_, rfl, ?_⟩
 simp only [aa]
 refine ai (v := .bool false) rfl (bp false rfl (ev rfl) (ev rfl) HN2.out) ?_;simp only [aa]
 refine ah ?_
 go_upto_region 7 with fail
 refine ag ?_
 refine ai rfl (aj rfl (ev rfl)) ?_;simp only [aa]
 refine ar rfl (av Tryz.call78 rfl (evc (ev rfl) evn)) ?_
 refine HPLC.out.mono ?_
 rintro e w' ⟨rfl, rfl⟩
 refine ⟨_, rfl, ?_⟩
 simp only [aa]
 refine ai rfl (aq rfl (ev rfl)) ?_;simp only [aa]
 refine ah ?_
 go_wp2_with fail
 go_loopw [7, 8] (fun v i wr => ∃ j : Nat, j ≤ h ∧ i = .int .i64 j ∧ Made wr B v (bJ (l.take j)) ∧ Below B w wr) (fun _ i _ => h - (intOf i).toNat)
 case atStart => exact ⟨0, Nat.zero_le _, rfl, World.ownsRow_nil _ _ _ _, Below.refl _ _⟩
 case round =>
  obtain ⟨j, hj, rfl, hm, hbl⟩ := hrel
  have HMD := af hm
  have HB1 := af hbl
  clear hm hbl
  have hjs : j ≤ 2 := by have := HH.out.1; omega
  by_cases hlt : j < h
  ·obtain ⟨b', off', e, hb, hr⟩ := (HRD.out wr HB1.out).2 j (by have := HM.out; omega)
   injection e with e
   injection e with e1 e2
   subst e1 e2
   have HR := af (rd_rng hr hb)
   have HT1 : Hid (decide ((j : Int) < (h : Int)) = true) := af (decide_eq_true (by omega))
   have HLT := af hlt
   have HJM := af (show j < m by have := HM.out; omega)
   have HNX := af (byts_succ (l := l) (k := j) (by rw [HLL.out]; omega))
   have HLN := af (show (bJ (l.take j)).length = 64 * j by rw [cx, List.length_take, HLL.out, Nat.min_eq_left (by omega)])
   have HNB := af (Nat.le_trans hN (Nat.le_trans HLE.out HB1.out.size))
   have HBW := af (Nat.le_trans HLE.out HB1.out.size)
   generalize l.getD j ap = x at *
   clear hr
   go_upto_region 10 with fail
   refine ag ?_
   refine ai rfl (aj rfl (ev rfl)) ?_;simp only [aa]
   refine ai rfl (aj rfl (ev rfl)) ?_;simp only [aa]
   refine ai (v := .bool true) rfl (aZ true rfl (ev rfl) (ev rfl) HT1.out) ?_;simp only [aa]
   refine ah ?_
   go_upto_region 12 with fail
   refine ag ?_
   iterate 3 (refine ai rfl (aj rfl (ev rfl)) ?_;simp only [aa])
   refine ai rfl (dD rfl (ev rfl) (ev rfl) HJM.out) ?_;simp only [aa]
   refine ai rfl (exec_allB rfl (ev rfl)) ?_;simp only [aa]
   refine ar rfl (av Tryz.call101 rfl (evc (ev rfl) evn)) ?_
   refine (fV _ 64 64 N wr.heap.size x.toList wr (af rfl) HR.out HNB.out (by omega)).mono ?_
   rintro e w2 ⟨vc, rfl, hmc, hb⟩
   obtain ⟨A2, c2, rfl, hr2, _, _⟩ := hmc.open_ (bz x)
   have HR2 := af hr2
   have HM2 := af (HMD.out.below hb)
   have HB2 := af (HB1.out.trans (hb.mono HBW.out))
   clear hb hmc hr2 HMD HB1
   refine ⟨_, rfl, ?_⟩
   simp only [aa]
   refine fc rfl _ _ rfl B w2.heap.size 64 c2 _ (bJ (l.take j)) x.toList A2 rfl rfl HM2.out HR2.out (Nat.le_trans HLE.out HB2.out.size) (by rw [HLN.out]; have := HH.out; have := HLT.out; omega) ?_
   intro v4 w4 hm4 hg4
   rw [← HNX.out] at hm4
   have HM4 := af hm4
   have HB4 := af (HB2.out.grown hg4 (Nat.le_trans HLE.out HB2.out.size) (fun k hk => (HM2.out.lt k hk).1))
   clear hm4 hg4
   simp only [aa]
   refine ai rfl (aq rfl (ev rfl)) ?_;simp only [aa]
   refine ah ?_
   go_wp2_with fail
   go_roundw
   case rel => exact ⟨j + 1, by have := HLT.out; omega, by go_num, HM4.out, HB4.out⟩
   case measure => simp [intOf]; have := HLT.out; omega
  ·have hjh : j = h := by omega
   have HLN := af (show (bJ (l.take h)).length = 64 * h by rw [cx, List.length_take, HLL.out, Nat.min_eq_left (by omega)])
   rw [hjh] at HMD ⊢
   obtain ⟨A7, c7, rfl, hr7, hc7, _⟩ := HMD.out.open_ HLN.out
   obtain ⟨g7, o7, rfl, hg7, _⟩ := hr7.2 0 (by have := HH.out; omega)
   obtain ⟨B2, hB2⟩ : ∃ B2, wr.heap.size = B2 := ⟨_, rfl⟩
   have HB2 := af hB2
   have HCELL : Hid (∀ (w' : World) (p : Nat), Below B2 wr w' → p < 64 * h → w'.cell? ⟨g7, o7 + p, none⟩ = some (.int .u8 (bt (bJ l) p))) := af fun w' p hb hp => by
    have h7 := hr7
    rw [hB2] at h7
    obtain ⟨b', off', e, _, hc⟩ := (h7.below hb).2 p hp
    injection e with e
    injection e with e1 e2
    subst e1 e2
    rw [hc, byts_take, bt_take hp]
   have HRB : Hid (∀ (w' : World) (k : Nat), Below B2 wr w' → k < n → w'.rangeAt b (off + (h + k) * 64) (cel (l.getD (h + k) ap))) := af fun w' k hb hk => by
    obtain ⟨b', off', e, _, hr⟩ := (HRD.out w' (HB1.out.trans (hb.mono (by rw [← hB2]; exact Nat.le_trans HLE.out HB1.out.size)))).2 (h + k) (by have := HM.out; omega)
    injection e with e
    injection e with e1 e2
    subst e1 e2
    exact hr
   have HBB := af (show B ≤ B2 by rw [← hB2]; exact Nat.le_trans HLE.out HB1.out.size)
   clear hr7 hg7 hB2 hlt hj hjh
   obtain ⟨wA, rfl⟩ : ∃ x, x = wr := ⟨_, rfl⟩
   go_wp2_with fail
   go_loopw [9, 10] (fun v i wr => ∃ k : Nat, k ≤ n ∧ i = .int .i64 k ∧ (∀ j, j < k → okC (tolC l h j) = true ∧ bt (bJ l) (4 * j + 3) = 0) ∧ aH bY wr B2 v ((tol l n).take k) ∧ Below B2 wA wr) (fun _ i _ => n - (intOf i).toNat)
   case atStart => exact ⟨0, Nat.zero_le _, rfl, fun j hj => absurd hj (by omega), aH.nil _ _, Below.refl _ _⟩
   case round =>
    obtain ⟨k, hk, rfl, hj, hm, hbl⟩ := hrel
    have HJ := af hj
    have HMD := af hm
    have HB3 := af hbl
    clear hj hm hbl
    by_cases hlt : k < n
    ·have HLT := af hlt
     have HT1 : Hid (decide ((k : Int) < (n : Int)) = true) := af (decide_eq_true (by omega))
     have hk64 : 4 * k + 3 < 64 * h := by have := HH.out; omega
     obtain ⟨b0, hb0, hb0'⟩ := bt_nat (bJ l) (4 * k)
     obtain ⟨b1, hb1, hb1'⟩ := bt_nat (bJ l) (4 * k + 1)
     obtain ⟨b2, hb2, hb2'⟩ := bt_nat (bJ l) (4 * k + 2)
     obtain ⟨b3, hb3, hb3'⟩ := bt_nat (bJ l) (4 * k + 3)
     have HTC := af (tolC_of (l := l) (k := h) (i := k) (by rw [HBL.out, HLL.out]; omega) hb0 hb1 hb2)
     have HP := af (HPL.out k hlt)
     rw [HTC.out, hb3] at HP
     have HC0 : Hid (∀ w' : World, Below B2 wA w' → w'.cell? ⟨g7, o7 + 4 * k, none⟩ = some (.int .u8 (b0 : Int))) := af fun w' hb => by rw [HCELL.out w' _ hb (by omega), hb0]
     have HC1 : Hid (∀ w' : World, Below B2 wA w' → w'.cell? ⟨g7, o7 + (4 * k + 1), none⟩ = some (.int .u8 (b1 : Int))) := af fun w' hb => by rw [HCELL.out w' _ hb (by omega), hb1]
     have HC2 : Hid (∀ w' : World, Below B2 wA w' → w'.cell? ⟨g7, o7 + (4 * k + 2), none⟩ = some (.int .u8 (b2 : Int))) := af fun w' hb => by rw [HCELL.out w' _ hb (by omega), hb2]
     have HC3 : Hid (∀ w' : World, Below B2 wA w' → w'.cell? ⟨g7, o7 + (4 * k + 3), none⟩ = some (.int .u8 (b3 : Int))) := af fun w' hb => by rw [HCELL.out w' _ hb (by omega), hb3]
     have HV0 := af hb0'
     have HV1 := af hb1'
     have HV2 := af hb2'
     have HV3 := af hb3'
     have HI0 : Hid (IntKind.i64.wrap (4 * (k : Int)) = ((4 * k : Nat) : Int)) := af (wrap_small _ (by omega) _ (by omega))
     have HI1 : Hid (IntKind.i64.wrap (((4 * k : Nat) : Int) + 1) = ((4 * k + 1 : Nat) : Int)) := af (wrap_small _ (by omega) _ (by omega))
     have HI2 : Hid (IntKind.i64.wrap (((4 * k : Nat) : Int) + 2) = ((4 * k + 2 : Nat) : Int)) := af (wrap_small _ (by omega) _ (by omega))
     have HI3 : Hid (IntKind.i64.wrap (((4 * k : Nat) : Int) + 3) = ((4 * k + 3 : Nat) : Int)) := af (wrap_small _ (by omega) _ (by omega))
     have HW1 : Hid (IntKind.i64.wrap (256 * (b1 : Int)) = ((256 * b1 : Nat) : Int)) := af (wrap_small _ (by omega) _ (by omega))
     have HW2 : Hid (IntKind.i64.wrap ((b0 : Int) + ((256 * b1 : Nat) : Int)) = ((b0 + 256 * b1 : Nat) : Int)) := af (wrap_small _ (by omega) _ (by omega))
     have HK64 := af hk64
     have HB3F : Hid (bt (bJ l) (4 * k + 3) = (b3 : Int)) := af hb3
     have hb4 := HB3.out.size
     obtain ⟨B4, hB4⟩ : ∃ B4, wr.heap.size = B4 := ⟨_, rfl⟩
     have HB4 := af hB4
     have HBB4 := af (show B2 ≤ B4 by rw [← hB4, ← HB2.out]; exact hb4)
     clear hb0 hb1 hb2 hb3 hb0' hb1' hb2' hb3' hk64 hb4 hB4
     go_upto_region 15 with fail
     refine ag ?_
     refine ai rfl (aj rfl (ev rfl)) ?_;simp only [aa]
     refine ai rfl (aj rfl (ev rfl)) ?_;simp only [aa]
     refine ai (v := .bool true) rfl (aZ true rfl (ev rfl) (ev rfl) HT1.out) ?_;simp only [aa]
     refine ah ?_
     go_upto_region 17 with fail
     have HS0 : Hid (Below B4 wr wr.drew) := af (bd (Below.refl _ _))
     have HUP : Hid (∀ w', Below B4 wr w' → Below B2 wA w') := af fun w' hw => HB3.out.trans (hw.mono HBB4.out)
     refine wp_region_held (S := fun w' => Below B4 wr w') (by kernel_rfl) ?_
     change wpAnyH _ _ _ _ _ 25 _ _ wr.drew
     refine gt 0 rfl (fun w' hw => aj rfl (ev rfl)) HS0.out ?_;simp only [aa]
     refine gt 1 rfl (fun w' hw => aj rfl (ev rfl)) HS0.out ?_;simp only [aa]
     refine gt 2 rfl (fun w' hw => fx rfl evk (ev rfl) HI0.out) HS0.out ?_;simp only [aa]
     refine gt 3 rfl (fun w' hw => dS rfl (ev rfl) (ev rfl) (ixU (by have := HK64.out; omega))) HS0.out ?_;simp only [aa]
     refine gt 4 rfl (fun w' hw => au rfl (ev rfl) (ldU8 (HC0.out w' (HUP.out w' hw)))) HS0.out ?_;simp only [aa]
     refine gt 5 rfl (fun w' hw => exec_cvUI rfl (ev rfl) HV0.out) HS0.out ?_;simp only [aa]
     refine gt 6 rfl (fun w' hw => aj rfl (ev rfl)) HS0.out ?_;simp only [aa]
     refine gt 7 rfl (fun w' hw => aj rfl (ev rfl)) HS0.out ?_;simp only [aa]
     refine gt 8 rfl (fun w' hw => fx rfl evk (ev rfl) HI0.out) HS0.out ?_;simp only [aa]
     refine gt 9 rfl (fun w' hw => da rfl (ev rfl) evk HI1.out) HS0.out ?_;simp only [aa]
     refine gt 10 rfl (fun w' hw => dS rfl (ev rfl) (ev rfl) (ixU (by have := HK64.out; omega))) HS0.out ?_;simp only [aa]
     refine gt 11 rfl (fun w' hw => au rfl (ev rfl) (ldU8 (HC1.out w' (HUP.out w' hw)))) HS0.out ?_;simp only [aa]
     refine gt 12 rfl (fun w' hw => exec_cvUI rfl (ev rfl) HV1.out) HS0.out ?_;simp only [aa]
     refine gt 13 rfl (fun w' hw => fx rfl evk (ev rfl) HW1.out) HS0.out ?_;simp only [aa]
     refine gt 14 rfl (fun w' hw => da rfl (ev rfl) (ev rfl) HW2.out) HS0.out ?_;simp only [aa]
     refine gt 15 rfl (fun w' hw => aj rfl (ev rfl)) HS0.out ?_;simp only [aa]
     refine gt 16 rfl (fun w' hw => aj rfl (ev rfl)) HS0.out ?_;simp only [aa]
     refine gt 17 rfl (fun w' hw => fx rfl evk (ev rfl) HI0.out) HS0.out ?_;simp only [aa]
     refine gt 18 rfl (fun w' hw => da rfl (ev rfl) evk HI2.out) HS0.out ?_;simp only [aa]
     refine gt 19 rfl (fun w' hw => dS rfl (ev rfl) (ev rfl) (ixU (by have := HK64.out; omega))) HS0.out ?_;simp only [aa]
     refine gt 20 rfl (fun w' hw => au rfl (ev rfl) (ldU8 (HC2.out w' (HUP.out w' hw)))) HS0.out ?_;simp only [aa]
     refine gt 21 rfl (fun w' hw => exec_cvUI rfl (ev rfl) HV2.out) HS0.out ?_;simp only [aa]
     refine gt 22 rfl (fun w' hw => exec_bldPl rfl (ev rfl) (ev rfl)) HS0.out ?_;simp only [aa]
     refine cM 23 (by kernel_rfl) (fa 23 rfl rfl (ej rfl) ?_)
     refine ⟨HS0.out.alloc (by show B4 ≤ wr.heap.size; rw [HB4.out]; exact Nat.le_refl _) _, ?_⟩
     simp only [aa]
     refine cM 24 (by kernel_rfl) (op_nul 24 rfl rfl (eQ rfl (ev rfl) (ev rfl)) ?_)
     have HS1 := af (HS0.out.alloc (by show B4 ≤ wr.heap.size; rw [HB4.out]; exact Nat.le_refl _) (.cells (cK ((b0 + 256 * b1 : Nat) : Int) (b2 : Int)).toArray 108))
     have HPR := af (heap_alloc_new wr.drew (.cells (cK ((b0 + 256 * b1 : Nat) : Int) (b2 : Int)).toArray 108))
     have HQ := af (show wr.drew.heap.size < (wr.drew.alloc (.cells (cK ((b0 + 256 * b1 : Nat) : Int) (b2 : Int)).toArray 108)).heap.size by rw [World.size_alloc]; omega)
     generalize wr.drew.alloc (.cells (cK ((b0 + 256 * b1 : Nat) : Int) (b2 : Int)).toArray 108) = w5 at *
     generalize wr.drew.heap.size = q at *
     refine ⟨HS1.out, ?_⟩
     simp only [aa]
     clear HS0
     refine wpAnyH_done (by kernel_rfl) ?_ _
     have HM5 := af (HMD.out.below (by rw [HB4.out]; exact HS1.out))
     have HB5 := af (HUP.out w5 HS1.out)
     have HBB5 := af (show B2 ≤ w5.heap.size by have := HB5.out.size; rw [HB2.out] at this; exact this)
     clear HMD HS1
     cases hq : okP ((b0 + 256 * b1 : Nat) : Int) (b2 : Int)
     ·have HOK := af hq
      have HE := af (HP.out (.inl hq))
      have HC := af (HCN.out HE.out)
      clear hq
      go_upto_region 18 with fail
      refine ag ?_
      refine ai rfl (dN rfl (ev rfl) (dt HPR.out)) ?_;simp only [aa]
      refine ar rfl (av Tryz.call127 rfl (evc (ev rfl) evn)) ?_
      refine (rmayc _ _ w5).mono ?_
      rintro e w6 ⟨rfl, hb⟩
      rw [show okP ((b0 + 256 * b1 : Nat) : Int) (b2 : Int) = false from HOK.out]
      have HPR6 := af (eM HPR.out HQ.out hb)
      have HM6 := af (HM5.out.below hb)
      have HB6 := af (HB5.out.trans (hb.mono HBB5.out))
      have HQ6 := af (Nat.lt_of_lt_of_le HQ.out hb.size)
      clear hb HPR HM5 HB5 HQ
      refine ⟨_, rfl, ?_⟩
      simp only [aa]
      refine ai (v := .bool true) rfl (bf false rfl (ev rfl)) ?_;simp only [aa]
      refine aC 7 (v := .bool true) rfl (aj rfl (ev rfl)) (by kernel_rfl) ?_
      simp only [aJ, ae, aa]
      refine ai (v := .bool true) rfl (aG rfl (ev rfl) evk) ?_;simp only [aa]
      refine ah ?_
      go_upto_region 19 with fail
      refine ag ?_
      refine ai rfl (aq rfl evk) ?_;simp only [aa]
      refine ai rfl (aq rfl evk) ?_;simp only [aa]
      refine ah ?_
      go_wp2_with fail
      go_ret2
      exact ⟨_, by rw [HE.out]; rfl, by rw [HC.out]; exact aH.nil _ _, HB1.out.trans (HB6.out.mono HBB.out)⟩
     ·have HOK := af hq
      go_upto_region 18 with fail
      refine ag ?_
      refine ai rfl (dN rfl (ev rfl) (dt HPR.out)) ?_;simp only [aa]
      refine ar rfl (av Tryz.call127 rfl (evc (ev rfl) evn)) ?_
      refine (rmayc _ _ w5).mono ?_
      rintro e w6 ⟨rfl, hb⟩
      by_cases h3 : b3 = 0
      ·have HD3 : Hid (((b3 : Int) != 0) = false) := af (by simp; exact h3)
       have HF3 : Hid (okC (tolC l h k) = true ∧ bt (bJ l) (4 * k + 3) = 0) := af ⟨by rw [HTC.out]; exact hq, by rw [HB3F.out, h3]; rfl⟩
       clear hq h3
       rw [show okP ((b0 + 256 * b1 : Nat) : Int) (b2 : Int) = true from HOK.out]
       have HPR6 := af (eM HPR.out HQ.out hb)
       have HM6 := af (HM5.out.below hb)
       have HB6 := af (HB5.out.trans (hb.mono HBB5.out))
       have HQ6 := af (Nat.lt_of_lt_of_le HQ.out hb.size)
       clear hb HPR HM5 HB5 HQ
       refine ⟨_, rfl, ?_⟩
       simp only [aa]
       refine ai (v := .bool false) rfl (bf true rfl (ev rfl)) ?_;simp only [aa]
       refine ai (v := .bool false) rfl (aj rfl (ev rfl)) ?_;simp only [aa]
       refine al gr (aj rfl (ev rfl)) ?_;simp only [aa]
       refine al gr (aj rfl (ev rfl)) ?_;simp only [aa]
       refine al gr (fx rfl evk (ev rfl) HI0.out) ?_;simp only [aa]
       refine al gr (da rfl (ev rfl) evk HI3.out) ?_;simp only [aa]
       refine al gr (dS rfl (ev rfl) (ev rfl) (ixU HK64.out)) ?_;simp only [aa]
       refine al gr (au rfl (ev rfl) (ldU8 (HC3.out w6 HB6.out))) ?_;simp only [aa]
       refine al (v := .bool false) gr (aU false rfl (ev rfl) evk HD3.out) ?_;simp only [aa]
       refine ai (v := .bool false) rfl (aE rfl (ev rfl) (ev rfl)) ?_;simp only [aa]
       refine ah ?_
       go_upto_region 20 with fail
       have HTN := af (show ((tol l n).take k).length = k by rw [List.length_take, HTL.out, Nat.min_eq_left hk])
       have HNX : Hid ((tol l n).take (k + 1) = (tol l n).take k ++ [⟨((b0 + 256 * b1 : Nat) : Int), (b2 : Int), l.getD (h + k) ap⟩]) := af (by
        rw [List.take_succ_eq_append_getElem (by rw [HTL.out]; exact hlt)]
        have h5 := HTA.out k hlt
        rw [List.getD, List.getElem?_eq_getElem (by rw [HTL.out]; exact hlt), Option.getD_some, HTC.out] at h5
        rw [h5])
       have HBB6 := af (show B2 ≤ w6.heap.size by have := HB6.out.size; rw [HB2.out] at this; exact this)
       have HIX : Hid (IntKind.i64.wrap ((h : Int) + (k : Int)) = ((h + k : Nat) : Int)) := af (wrap_small _ (by have := HH.out; omega) _ (by omega))
       have HMI := af (show h + k < m by have := HM.out; omega)
       have HS0 : Hid (Below B2 wA w6.drew ∧ w6.drew.heap[q]? = some (.cells (cK ((b0 + 256 * b1 : Nat) : Int) (b2 : Int)).toArray 108 (0, 0))) := af ⟨bd HB6.out, HPR6.out⟩
       refine wp_region_held (S := fun w' => Below B2 wA w' ∧ w'.heap[q]? = some (.cells (cK ((b0 + 256 * b1 : Nat) : Int) (b2 : Int)).toArray 108 (0, 0))) (by kernel_rfl) ?_
       change wpAnyH _ _ _ _ _ 12 _ _ w6.drew
       refine gt 0 rfl (fun w' hw => aj rfl (ev rfl)) HS0.out ?_;simp only [aa]
       refine gt 1 rfl (fun w' hw => dN rfl (ev rfl) (dt hw.2)) HS0.out ?_;simp only [aa]
       refine gt 2 rfl (fun w' hw => aj rfl (ev rfl)) HS0.out ?_;simp only [aa]
       refine gt 3 rfl (fun w' hw => aj rfl (ev rfl)) HS0.out ?_;simp only [aa]
       refine gt 4 rfl (fun w' hw => aj rfl (ev rfl)) HS0.out ?_;simp only [aa]
       refine gt 5 rfl (fun w' hw => da rfl (ev rfl) (ev rfl) HIX.out) HS0.out ?_;simp only [aa]
       refine gt 6 rfl (fun w' hw => dD rfl (ev rfl) (ev rfl) HMI.out) HS0.out ?_;simp only [aa]
       refine gt 7 rfl (fun w' hw => aS rfl (ev rfl) (HRB.out w' k hw.1 hlt)) HS0.out ?_;simp only [aa]
       refine gt 8 rfl (fun w' hw => exec_bldC (s := ((b0 + 256 * b1 : Nat) : Int)) (m := (b2 : Int)) (b := l.getD (h + k) ap) rfl (ev rfl) (ev rfl)) HS0.out ?_;simp only [aa]
       have HS7 : Hid (Below B2 wA (w6.drew.alloc (.cells (cG (⟨((b0 + 256 * b1 : Nat) : Int), (b2 : Int), l.getD (h + k) ap⟩ : Cl)).toArray 110)) ∧ (w6.drew.alloc (.cells (cG (⟨((b0 + 256 * b1 : Nat) : Int), (b2 : Int), l.getD (h + k) ap⟩ : Cl)).toArray 110)).heap[q]? = some (.cells (cK ((b0 + 256 * b1 : Nat) : Int) (b2 : Int)).toArray 108 (0, 0))) := af ⟨HS0.out.1.alloc HBB6.out _, bU HS0.out.2 _⟩
       have HRC := af (rdC_new1 w6.drew (⟨((b0 + 256 * b1 : Nat) : Int), (b2 : Int), l.getD (h + k) ap⟩ : Cl))
       have HM7 := af (HM6.out.below (Below.alloc (bd (Below.refl _ _)) (Nat.le_refl _) (.cells (cG (⟨((b0 + 256 * b1 : Nat) : Int), (b2 : Int), l.getD (h + k) ap⟩ : Cl)).toArray 110)))
       refine cM 9 (by kernel_rfl) (fa 9 rfl rfl (du (E := bY) (a := (⟨((b0 + 256 * b1 : Nat) : Int), (b2 : Int), l.getD (h + k) ap⟩ : Cl)) rfl (ev rfl) rfl (by show 66 ≤ _; omega)) ?_)
       refine ⟨HS7.out, ?_⟩
       change wpAnyH _ _ _ _ _ _ _ _ (w6.drew.alloc (.cells (cG (⟨((b0 + 256 * b1 : Nat) : Int), (b2 : Int), l.getD (h + k) ap⟩ : Cl)).toArray 110))
       simp only [aa]
       generalize w6.drew.alloc (.cells (cG (⟨((b0 + 256 * b1 : Nat) : Int), (b2 : Int), l.getD (h + k) ap⟩ : Cl)).toArray 110) = w7 at *
       have HB27 := af (show B2 ≤ w7.heap.size by have := HS7.out.1.size; rw [HB2.out] at this; exact this)
       obtain ⟨v8, w8, hrun, hm8, hg8⟩ := run_appE bY w7 _ B2 _ 1 1 _ ((tol l n).take k) [(⟨((b0 + 256 * b1 : Nat) : Int), (b2 : Int), l.getD (h + k) ap⟩ : Cl)] (some ⟨w6.drew.heap.size, 0, none⟩) HM7.out HRC.out HB27.out (by rw [HTN.out]; omega)
       rw [← HNX.out] at hm8
       have HM8 := af hm8
       have HS8 : Hid (Below B2 wA w8 ∧ w8.heap[q]? = some (.cells (cK ((b0 + 256 * b1 : Nat) : Int) (b2 : Int)).toArray 108 (0, 0))) := af ⟨HS7.out.1.grown hg8 HB27.out (fun j hj => HM7.out.lt_own j hj), (hg8.block q (aK HS7.out.2) (fun e => HM7.out.ty_apart HS7.out.2 (by decide) e.symm)).trans HS7.out.2⟩
       refine cM 10 (by kernel_rfl) (fa 10 rfl rfl (exec_appEv rfl (ev rfl) (ev rfl) hrun) ?_)
       refine ⟨HS8.out, ?_⟩
       simp only [aa]
       clear hm8 hg8 hrun HM7 HRC
       refine gt 11 rfl (fun w' hw => aq rfl (ev rfl)) HS8.out ?_;simp only [aa]
       refine wpAnyH_done (by kernel_rfl) ?_ _
       have HB8 := af HS8.out.1
       go_wp2_with fail
       go_roundw
       case rel =>
        refine ⟨k + 1, by have := HLT.out; omega, by go_num, ?_, HM8.out, HB8.out⟩
        intro j hj
        by_cases h : j = k
        ·subst h; exact HF3.out
        ·exact HJ.out j (by omega)
       case measure => simp [intOf]; have := HLT.out; omega
      ·have HD3 : Hid (((b3 : Int) != 0) = true) := af (by simp; exact h3)
       have HE := af (HP.out (.inr (by omega)))
       have HC := af (HCN.out HE.out)
       clear hq h3
       rw [show okP ((b0 + 256 * b1 : Nat) : Int) (b2 : Int) = true from HOK.out]
       have HPR6 := af (eM HPR.out HQ.out hb)
       have HM6 := af (HM5.out.below hb)
       have HB6 := af (HB5.out.trans (hb.mono HBB5.out))
       have HQ6 := af (Nat.lt_of_lt_of_le HQ.out hb.size)
       clear hb HPR HM5 HB5 HQ
       refine ⟨_, rfl, ?_⟩
       simp only [aa]
       refine ai (v := .bool false) rfl (bf true rfl (ev rfl)) ?_;simp only [aa]
       refine ai (v := .bool false) rfl (aj rfl (ev rfl)) ?_;simp only [aa]
       refine al gr (aj rfl (ev rfl)) ?_;simp only [aa]
       refine al gr (aj rfl (ev rfl)) ?_;simp only [aa]
       refine al gr (fx rfl evk (ev rfl) HI0.out) ?_;simp only [aa]
       refine al gr (da rfl (ev rfl) evk HI3.out) ?_;simp only [aa]
       refine al gr (dS rfl (ev rfl) (ev rfl) (ixU HK64.out)) ?_;simp only [aa]
       refine al gr (au rfl (ev rfl) (ldU8 (HC3.out w6 HB6.out))) ?_;simp only [aa]
       refine al (v := .bool true) gr (aU true rfl (ev rfl) evk HD3.out) ?_;simp only [aa]
       refine ai (v := .bool true) rfl (aE rfl (ev rfl) (ev rfl)) ?_;simp only [aa]
       refine ah ?_
       go_upto_region 19 with fail
       refine ag ?_
       refine ai rfl (aq rfl evk) ?_;simp only [aa]
       refine ai rfl (aq rfl evk) ?_;simp only [aa]
       refine ah ?_
       go_wp2_with fail
       go_ret2
       exact ⟨_, by rw [HE.out]; rfl, by rw [HC.out]; exact aH.nil _ _, HB1.out.trans (HB6.out.mono HBB.out)⟩
    ·have hkn : k = n := by omega
     rw [hkn] at HJ HMD
     have HTK : Hid ((tol l n).take n = tol l n) := af (List.take_of_length_le (by rw [HTL.out]; exact Nat.le_refl _))
     rw [HTK.out] at HMD
     have HI4 : Hid (IntKind.i64.wrap (4 * (n : Int)) = ((4 * n : Nat) : Int)) := af (wrap_small _ (by omega) _ (by omega))
     have HBF := af (HB1.out.trans (HB3.out.mono HBB.out))
     have HT1 : Hid (decide ((k : Int) < (n : Int)) = false) := af (decide_eq_false (by omega))
     clear hkn hk hlt
     go_upto_region 15 with fail
     refine ag ?_
     refine ai rfl (aj rfl (ev rfl)) ?_;simp only [aa]
     refine ai rfl (aj rfl (ev rfl)) ?_;simp only [aa]
     refine ai (v := .bool false) rfl (aZ false rfl (ev rfl) (ev rfl) HT1.out) ?_;simp only [aa]
     refine ah ?_
     go_upto_region 21 with fail
     refine ag ?_
     refine ai rfl (aj rfl (ev rfl)) ?_;simp only [aa]
     refine ai rfl (fx rfl evk (ev rfl) HI4.out) ?_;simp only [aa]
     refine ai rfl (aq rfl (ev rfl)) ?_;simp only [aa]
     refine ah ?_
     go_wp2_with fail
     go_loop [12] (fun i => ∃ j : Nat, i = .int .i64 j ∧ 4 * n ≤ j ∧ j ≤ 64 * h ∧ ∀ r, 4 * n ≤ r → r < j → bt (bJ l) r = 0) (fun i => 64 * h - (intOf i).toNat)
     case atStart => exact ⟨4 * n, rfl, Nat.le_refl _, HH.out.2.2.1, fun r h1 h2 => absurd h2 (by omega)⟩
     case round =>
      obtain ⟨j, rfl, hj1, hj2, hz⟩ := hrel
      have HZ := af hz
      have hjs : j ≤ 128 := by have := HH.out.1; omega
      clear hz
      by_cases hlt : j < 64 * h
      ·obtain ⟨x, hx, hx'⟩ := bt_nat (bJ l) j
       have HCX := af (HCELL.out wr j HB3.out hlt)
       rw [hx] at HCX
       have HLT := af hlt
       have HD1 : Hid (decide ((j : Int) < ((64 * h : Nat) : Int)) = true) := af (decide_eq_true (by omega))
       go_upto_region 22 with fail
       refine ag ?_
       refine ai rfl (aj rfl (ev rfl)) ?_;simp only [aa]
       refine ai rfl (aj rfl (ev rfl)) ?_;simp only [aa]
       refine ai rfl (exec_lenU rfl (ev rfl)) ?_;simp only [aa]
       refine ai (v := .bool true) rfl (aZ true rfl (ev rfl) (ev rfl) HD1.out) ?_;simp only [aa]
       refine ah ?_
       go_upto_region 24 with fail
       refine ag ?_
       refine ai rfl (aj rfl (ev rfl)) ?_;simp only [aa]
       refine ai rfl (aj rfl (ev rfl)) ?_;simp only [aa]
       refine ai rfl (dS rfl (ev rfl) (ev rfl) (ixU HLT.out)) ?_;simp only [aa]
       refine ai rfl (au rfl (ev rfl) (ldU8 HCX.out)) ?_;simp only [aa]
       by_cases h0 : x = 0
       ·have HD2 : Hid (((x : Int) != 0) = false) := af (by simp; exact h0)
        have HX0 : Hid (bt (bJ l) j = 0) := af (by rw [hx, h0]; rfl)
        clear hx hx' h0
        refine ai (v := .bool false) rfl (aU false rfl (ev rfl) evk HD2.out) ?_;simp only [aa]
        refine ah ?_
        go_wp2_with fail
        go_round
        case rel =>
         refine ⟨j + 1, by go_num, by omega, by have := HLT.out; omega, ?_⟩
         intro r h3 h4
         by_cases e : r = j
         ·subst e; exact HX0.out
         ·exact HZ.out r h3 (by omega)
        case measure => simp [intOf]; have := HLT.out; omega
       ·have HD2 : Hid (((x : Int) != 0) = true) := af (by simp; exact h0)
        have HE := af (HRS.out j hj1 hlt (by rw [hx]; omega))
        have HC := af (HCN.out HE.out)
        clear hx hx' h0
        refine ai (v := .bool true) rfl (aU true rfl (ev rfl) evk HD2.out) ?_;simp only [aa]
        refine ah ?_
        go_upto_region 25 with fail
        refine ag ?_
        refine ai rfl (aq rfl evk) ?_;simp only [aa]
        refine ai rfl (aq rfl evk) ?_;simp only [aa]
        refine ah ?_
        go_wp2_with fail
        go_ret2
        exact ⟨_, by rw [HE.out]; rfl, by rw [HC.out]; exact aH.nil _ _, HBF.out⟩
      ·have HE := af (HFN.out HJ.out (fun r h3 h4 => HZ.out r h3 (by omega)))
       have HC := af (HCO.out HE.out)
       have HMF := af (aH.base HMD.out HBB.out)
       have HD1 : Hid (decide ((j : Int) < ((64 * h : Nat) : Int)) = false) := af (decide_eq_false (by omega))
       clear hlt hj1 hj2
       go_upto_region 22 with fail
       refine ag ?_
       refine ai rfl (aj rfl (ev rfl)) ?_;simp only [aa]
       refine ai rfl (aj rfl (ev rfl)) ?_;simp only [aa]
       refine ai rfl (exec_lenU rfl (ev rfl)) ?_;simp only [aa]
       refine ai (v := .bool false) rfl (aZ false rfl (ev rfl) (ev rfl) HD1.out) ?_;simp only [aa]
       refine ah ?_
       go_upto_region 26 with fail
       refine ag ?_
       refine ai rfl (aj rfl (ev rfl)) ?_;simp only [aa]
       refine ai rfl (aq rfl (ev rfl)) ?_;simp only [aa]
       refine ai rfl (aq rfl evk) ?_;simp only [aa]
       refine ah ?_
       go_wp2_with fail
       go_ret2
       exact ⟨_, by rw [HE.out]; rfl, by rw [HC.out]; exact HMF.out, HBF.out⟩
theorem rcget (A : Option Addr) (m c N B : Nat) (l : List Blk) (n : Int) (w : World) (HB : Hid (B = w.heap.size)) (hl : RdB w N A m l) (hN : N ≤ B) (hx : m ≤ maxLen) :
  Calls Tryz.prog 94 #[.slice A m c, .int .i64 n] w fun e w' => ∃ v, e = .returned (.tuple #[v, .int .i64 (rgE l n : Nat)]) ∧ aH bY w' B v (rgC l n) ∧ Below B w w' := by
 by_cases hno : dZ n = 0 ∨ m ≠ dZ n
 ·exact rcget_no A m c N B l n w HB hl hx hno
 ·have h0 : dZ n ≠ 0 := fun e => hno (.inl e)
  have h2 : m = dZ n := Classical.byContradiction fun e => hno (.inr e)
  obtain ⟨k, rfl, h3, h4⟩ := of_sizN h0
  rw [fv h3 h4] at h2
  obtain ⟨b, off, rfl, _⟩ := hl.2 0 (by omega)
  exact rcget_at b off m c N B l k w HB hl hN h3 h4 h2
end Go.Proofs.YtbbcdhkinbmdnaaGreatDoor
