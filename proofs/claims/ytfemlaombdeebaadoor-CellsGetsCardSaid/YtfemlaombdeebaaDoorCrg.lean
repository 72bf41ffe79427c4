/-
  The document's cells: Get.
-/
import Derived.Test.YtfemlaombdeebaaDoorCpk
import Derived.Test.YtfemlaombdeebaaDoorCpt
import Derived.Test.YtfemlaombdeebaaDoorCpa
import Derived.Test.YtfemlaombdeebaaDoorApp
import Derived.Test.YtfemlaombdeebaaDoorCsu
import Derived.Test.YtfemlaombdeebaaDoorOrd
namespace Go.Proofs.YtfemlaombdeebaaDoor
open Go.RowKit
set_option linter.unusedVariables false
set_option linter.unusedSimpArgs false
set_option maxRecDepth 100000

theorem exec_cvUI {ρ : Operand → Value} {o : Oper} {x : Operand} {w : World} {n : Nat} (ho : o.op = .convert 5 3 x) (hx : ρ x = .int .u8 (n : Int)) (hn : n ≤ 255) : (execOp ρ o).run Tryd.prog w = .ok (.value (.int .i64 (n : Int))) w := by
  have h : IntKind.i64.wrap (n : Int) = (n : Int) := by rw [IntKind.wrap_i64]; omega
  have hc : (convert 5 3 (.int .u8 (n : Int))).run Tryd.prog w = .ok (.int .i64 (n : Int)) w := by simp [convert, go_sem, h]
  unfold execOp
  simp only [ho, hx, Sem.run_bind, hc, Result.andThen_ok, Sem.run_pure]
theorem bt_nat (l : List UInt8) (k : Nat) : ∃ n : Nat, bt l k = (n : Int) ∧ n ≤ 255 := by
  obtain ⟨n, hn⟩ := Int.eq_ofNat_of_zero_le (bt_lo l k)
  have := bt_hi l k
  exact ⟨n, hn, by omega⟩
theorem tolC_of {l : List Blk} {k i b0 b1 b2 : Nat} (hlen : 4 * i + 3 < (byts l).length) (h0 : bt (byts l) (4 * i) = (b0 : Int)) (h1 : bt (byts l) (4 * i + 1) = (b1 : Int)) (h2 : bt (byts l) (4 * i + 2) = (b2 : Int)) :
    tolC l k i = ⟨((b0 + 256 * b1 : Nat) : Int), (b2 : Int), l.getD (k + i) zeroB⟩ := by
  unfold tolC
  rw [val_pc2 (by omega), val_pc1 (by omega), h0, h1, h2]
  congr 1
theorem MadeE.ty_apart {α : Type} {E : Elt α} {w : World} {B q : Nat} {v : Value} {l : List α} {cs : Array Value} {t : TypeId} (h : MadeE E w B v l) (hq : w.heap[q]? = some (.cells cs t (0, 0))) (ht : E.t ≠ t) : v.ownBlock ≠ some q := by
  intro e
  rcases h.2 with ⟨rfl, _⟩ | ⟨g, cap, cur, rfl, _, hg, _⟩
  · simp [Value.ownBlock] at e
  · simp [Value.ownBlock] at e
    subst e
    rw [hg] at hq
    simp at hq
    exact ht hq.2
theorem exec_appEv {o : Oper} {a : Act} {w w' : World} {s x : Operand} {A : Option Addr} {m c : Nat} {v v' : Value} (ho : o.op = .call { callee := .builtin .append, args := #[s, x], argTypes := #[24, 24] }) (hs : a.eval s = v) (hx : a.eval x = .slice A m c)
    (hrun : (Builtin.append_ #[24, 24] o.type #[v, .slice A m c]).run Tryd.prog w = .ok v' w') : (execOp a.eval o).run Tryd.prog w = .ok (.value v') w' := by
  simp [execOp, ho, resolve, invoke, builtin, hs, hx, hrun, Result.andThen]
theorem rcget_no (A : Option Addr) (m c N B : Nat) (l : List Blk) (n : Int) (w : World) (HB : Hid (B = w.heap.size)) (hl : RdB w N A m l) (hx : m ≤ maxLen) (hno : sizN n = 0 ∨ m ≠ sizN n) :
    Calls Tryd.prog 8 #[.slice A m c, .int .i64 n] w fun e w' => ∃ v, e = .returned (.tuple #[v, .int .i64 (rgE l n : Nat)]) ∧ MadeE CellE w' B v (rgC l n) ∧ Below B w w' := by
  have HL := Lib.hid hl.1
  obtain ⟨s, hs⟩ : ∃ s, sizN n = s := ⟨_, rfl⟩
  have HS := Lib.hid hs
  have hs34 : s ≤ 34 := by
    rw [← hs]
    unfold sizN hd
    split
    · omega
    · omega
  unfold maxLen at hx
  rw [hs] at hno
  by_cases h0 : s = 0
  · have HE := Lib.hid (rgE_arg (l := l) (n := n) (by rw [hs, h0]))
    have HC := Lib.hid (rgC_no (l := l) (n := n) (by rw [HE.out]; omega))
    clear hs hno
    subst h0
    go_enter Tryd.func8, Tryd.ntmps8
    go_wp2_with fail
    refine (rsize n w).mono ?_
    rintro e w' ⟨rfl, rfl⟩
    rw [HS.out]
    go_wp2_with fail
    go_ret2
    exact ⟨_, by rw [HE.out]; rfl, by rw [HC.out]; exact MadeE.nil _ _, Below.refl _ _⟩
  · by_cases hlt : m < s
    · have HE := Lib.hid (rgE_short (l := l) (n := n) (by rw [hs]; exact h0) (by rw [HL.out, hs]; exact hlt))
      have HC := Lib.hid (rgC_no (l := l) (n := n) (by rw [HE.out]; omega))
      clear hs hno
      go_enter Tryd.func8, Tryd.ntmps8
      go_wp2_with fail
      refine (rsize n w).mono ?_
      rintro e w' ⟨rfl, rfl⟩
      rw [HS.out]
      go_wp2_with fail
      refine (rsize n w).mono ?_
      rintro e w' ⟨rfl, rfl⟩
      rw [HS.out]
      go_wp2_with fail
      go_ret2
      exact ⟨_, by rw [HE.out]; rfl, by rw [HC.out]; exact MadeE.nil _ _, Below.refl _ _⟩
    · have HE := Lib.hid (rgE_more (l := l) (n := n) (by rw [hs]; exact h0) (by rw [HL.out, hs]; omega))
      have HC := Lib.hid (rgC_no (l := l) (n := n) (by rw [HE.out]; omega))
      have hgt : s < m := by omega
      clear hs hno hlt
      go_enter Tryd.func8, Tryd.ntmps8
      go_wp2_with fail
      refine (rsize n w).mono ?_
      rintro e w' ⟨rfl, rfl⟩
      rw [HS.out]
      go_wp2_with fail
      refine (rsize n w).mono ?_
      rintro e w' ⟨rfl, rfl⟩
      rw [HS.out]
      go_wp2_with fail
      refine (rsize n w).mono ?_
      rintro e w' ⟨rfl, rfl⟩
      rw [HS.out]
      go_wp2_with fail
      go_ret2
      exact ⟨_, by rw [HE.out]; rfl, by rw [HC.out]; exact MadeE.nil _ _, Below.refl _ _⟩
set_option maxHeartbeats 16000000 in
theorem rcget_at (b off m c N B : Nat) (l : List Blk) (n : Nat) (w : World) (HB : Hid (B = w.heap.size)) (hl : RdB w N (some ⟨b, off, none⟩) m l) (hN : N ≤ B) (h1 : 1 ≤ n) (h32 : n ≤ 32) (hs : m = hd n + n) :
    Calls Tryd.prog 8 #[.slice (some ⟨b, off, none⟩) m c, .int .i64 (n : Int)] w fun e w' => ∃ v, e = .returned (.tuple #[v, .int .i64 (rgE l (n : Int) : Nat)]) ∧ MadeE CellE w' B v (rgC l (n : Int)) ∧ Below B w w' := by
  have hlen : l.length = hd n + n := by rw [hl.1, hs]
  obtain ⟨h, hh⟩ : ∃ h, hd n = h := ⟨_, rfl⟩
  have hh2 : h ≤ 2 ∧ n ≤ 16 * h ∧ 4 * n ≤ 64 * h ∧ 1 ≤ h := by rw [← hh]; unfold hd; omega
  have HH := Lib.hid hh2
  have HHD := Lib.hid hh
  have HM := Lib.hid (show m = h + n by rw [hs, hh])
  have HLE := Lib.hid (Nat.le_of_eq HB.out)
  have HSIZ := Lib.hid (sizN_of h1 h32)
  rw [hh] at HSIZ
  have HRD : Hid (∀ w' : World, Below B w w' → RdB w' N (some ⟨b, off, none⟩) m l) := Lib.hid fun w' hb => hl.below (hb.mono hN)
  have HBL := Lib.hid (byts_length l)
  have HLL := Lib.hid hlen
  rw [hh] at HLL
  have HPL : Hid (∀ i, i < n → okC (tolC l h i) = false ∨ bt (byts l) (4 * i + 3) ≠ 0 → rgE l (n : Int) = 5) := Lib.hid fun i hi hx => rgE_place h1 h32 hlen hi (by rw [hh]; exact hx)
  have HRS : Hid (∀ j, 4 * n ≤ j → j < 64 * h → bt (byts l) j ≠ 0 → rgE l (n : Int) = 5) := Lib.hid fun j ha hb hx => rgE_rest h1 h32 hlen ha (by rw [hh]; exact hb) hx
  have HFN : Hid ((∀ i, i < n → okC (tolC l h i) = true ∧ bt (byts l) (4 * i + 3) = 0) → (∀ j, 4 * n ≤ j → j < 64 * h → bt (byts l) j = 0) → rgE l (n : Int) = 0) := Lib.hid fun hp hz => rgE_fine h1 h32 hlen (by rw [hh]; exact hp) (by rw [hh]; exact hz)
  have HCO : Hid (rgE l (n : Int) = 0 → rgC l (n : Int) = tol l n) := Lib.hid fun h => by have := rgC_ok h; rwa [Int.toNat_natCast] at this
  have HCN : Hid (rgE l (n : Int) = 5 → rgC l (n : Int) = []) := Lib.hid fun h => rgC_no (by omega)
  have HTL := Lib.hid (tol_length l n)
  have HTA : Hid (∀ i, i < n → (tol l n).getD i zeroC = tolC l h i) := Lib.hid fun i hi => by rw [← hh]; exact tol_at hi
  have HN0 : Hid ((((h + n : Nat) : Int) == 0) = false) := Lib.hid (by simp; omega)
  have HN1 : Hid (decide ((m : Int) < ((h + n : Nat) : Int)) = false) := Lib.hid (decide_eq_false (by have := HM.out; omega))
  have HN2 : Hid (decide (((h + n : Nat) : Int) < (m : Int)) = false) := Lib.hid (decide_eq_false (by have := HM.out; omega))
  have HPLC := Lib.hid (rplaces n w (by omega))
  rw [hh] at HPLC
  clear hl hs hlen hh hh2
  go_enter Tryd.func8, Tryd.ntmps8
  go_upto_region 1 with fail
  refine wp_region_lit ?_
  refine wpList_valn rfl (exec_mv rfl (ev rfl)) ?_
  simp only [Act.put, List.setIfInBounds_toArray, List.set_cons_succ, List.set_cons_zero]
  refine wpList_call rfl (exec_cl Tryd.call23 rfl (evc (ev rfl) evn)) ?_
  refine (rsize n w).mono ?_
  rintro e w' ⟨rfl, rfl⟩
  rw [HSIZ.out]
  refine ⟨_, rfl, ?_⟩
  simp only [Act.put, List.setIfInBounds_toArray, List.set_cons_succ, List.set_cons_zero]
  refine wpList_valn (v := .bool false) rfl (exec_eqInt false rfl (ev rfl) evk HN0.out) ?_
  simp only [Act.put, List.setIfInBounds_toArray, List.set_cons_succ, List.set_cons_zero]
  refine wpList_nil ?_
  go_upto_region 3 with fail
  refine wp_region_lit ?_
  refine wpList_valn rfl (exec_mv rfl (ev rfl)) ?_
  simp only [Act.put, List.setIfInBounds_toArray, List.set_cons_succ, List.set_cons_zero]
  refine wpList_valn rfl (exec_lenB rfl (ev rfl)) ?_
  simp only [Act.put, List.setIfInBounds_toArray, List.set_cons_succ, List.set_cons_zero]
  refine wpList_valn rfl (exec_mv rfl (ev rfl)) ?_
  simp only [Act.put, List.setIfInBounds_toArray, List.set_cons_succ, List.set_cons_zero]
  refine wpList_call rfl (exec_cl Tryd.call23 rfl (evc (ev rfl) evn)) ?_
  refine (rsize n w).mono ?_
  rintro e w' ⟨rfl, rfl⟩
  rw [HSIZ.out]
  refine ⟨_, rfl, ?_⟩
  simp only [Act.put, List.setIfInBounds_toArray, List.set_cons_succ, List.set_cons_zero]
  refine wpList_valn (v := .bool false) rfl (exec_lss false rfl (ev rfl) (ev rfl) HN1.out) ?_
  simp only [Act.put, List.setIfInBounds_toArray, List.set_cons_succ, List.set_cons_zero]
  refine wpList_nil ?_
  go_upto_region 5 with fail
  refine wp_region_lit ?_
  refine wpList_valn rfl (exec_mv rfl (ev rfl)) ?_
  simp only [Act.put, List.setIfInBounds_toArray, List.set_cons_succ, List.set_cons_zero]
  refine wpList_valn rfl (exec_lenB rfl (ev rfl)) ?_
  simp only [Act.put, List.setIfInBounds_toArray, List.set_cons_succ, List.set_cons_zero]
  refine wpList_valn rfl (exec_mv rfl (ev rfl)) ?_
  simp only [Act.put, List.setIfInBounds_toArray, List.set_cons_succ, List.set_cons_zero]
  refine wpList_call rfl (exec_cl Tryd.call23 rfl (evc (ev rfl) evn)) ?_
  refine (rsize n w).mono ?_
  rintro e w' ⟨rfl, rfl⟩
  rw [HSIZ.out]
  refine ⟨_, rfl, ?_⟩
  simp only [Act.put, List.setIfInBounds_toArray, List.set_cons_succ, List.set_cons_zero]
  refine wpList_valn (v := .bool false) rfl (exec_gtr false rfl (ev rfl) (ev rfl) HN2.out) ?_
  simp only [Act.put, List.setIfInBounds_toArray, List.set_cons_succ, List.set_cons_zero]
  refine wpList_nil ?_
  go_upto_region 7 with fail
  refine wp_region_lit ?_
  refine wpList_valn rfl (exec_mv rfl (ev rfl)) ?_
  simp only [Act.put, List.setIfInBounds_toArray, List.set_cons_succ, List.set_cons_zero]
  refine wpList_call rfl (exec_cl Tryd.call24 rfl (evc (ev rfl) evn)) ?_
  refine HPLC.out.mono ?_
  rintro e w' ⟨rfl, rfl⟩
  refine ⟨_, rfl, ?_⟩
  simp only [Act.put, List.setIfInBounds_toArray, List.set_cons_succ, List.set_cons_zero]
  refine wpList_valn rfl (exec_as rfl (ev rfl)) ?_
  simp only [Act.put, List.setIfInBounds_toArray, List.set_cons_succ, List.set_cons_zero]
  refine wpList_nil ?_
  go_wp2_with fail
  go_loopw [7, 8] (fun v i wr => ∃ j : Nat, j ≤ h ∧ i = .int .i64 j ∧ Made wr B v (byts (l.take j)) ∧ Below B w wr) (fun _ i _ => h - (intOf i).toNat)
  case atStart => exact ⟨0, Nat.zero_le _, rfl, World.ownsRow_nil _ _ _ _, Below.refl _ _⟩
  case round =>
    obtain ⟨j, hj, rfl, hm, hbl⟩ := hrel
    have HMD := Lib.hid hm
    have HB1 := Lib.hid hbl
    clear hm hbl
    have hjs : j ≤ 2 := by have := HH.out.1; omega
    by_cases hlt : j < h
    · obtain ⟨b', off', e, hb, hr⟩ := (HRD.out wr HB1.out).2 j (by have := HM.out; omega)
      injection e with e
      injection e with e1 e2
      subst e1 e2
      have HR := Lib.hid (rd_rng hr hb)
      have HT1 : Hid (decide ((j : Int) < (h : Int)) = true) := Lib.hid (decide_eq_true (by omega))
      have HLT := Lib.hid hlt
      have HJM := Lib.hid (show j < m by have := HM.out; omega)
      have HNX := Lib.hid (byts_succ (l := l) (k := j) (by rw [HLL.out]; omega))
      have HLN := Lib.hid (show (byts (l.take j)).length = 64 * j by rw [byts_length, List.length_take, HLL.out, Nat.min_eq_left (by omega)])
      have HNB := Lib.hid (Nat.le_trans hN (Nat.le_trans HLE.out HB1.out.size))
      have HBW := Lib.hid (Nat.le_trans HLE.out HB1.out.size)
      generalize l.getD j zeroB = x at *
      clear hr
      go_upto_region 10 with fail
      refine wp_region_lit ?_
      refine wpList_valn rfl (exec_mv rfl (ev rfl)) ?_
      simp only [Act.put, List.setIfInBounds_toArray, List.set_cons_succ, List.set_cons_zero]
      refine wpList_valn rfl (exec_mv rfl (ev rfl)) ?_
      simp only [Act.put, List.setIfInBounds_toArray, List.set_cons_succ, List.set_cons_zero]
      refine wpList_valn (v := .bool true) rfl (exec_lss true rfl (ev rfl) (ev rfl) HT1.out) ?_
      simp only [Act.put, List.setIfInBounds_toArray, List.set_cons_succ, List.set_cons_zero]
      refine wpList_nil ?_
      go_upto_region 12 with fail
      refine wp_region_lit ?_
      refine wpList_valn rfl (exec_mv rfl (ev rfl)) ?_
      simp only [Act.put, List.setIfInBounds_toArray, List.set_cons_succ, List.set_cons_zero]
      refine wpList_valn rfl (exec_mv rfl (ev rfl)) ?_
      simp only [Act.put, List.setIfInBounds_toArray, List.set_cons_succ, List.set_cons_zero]
      refine wpList_valn rfl (exec_mv rfl (ev rfl)) ?_
      simp only [Act.put, List.setIfInBounds_toArray, List.set_cons_succ, List.set_cons_zero]
      refine wpList_valn rfl (exec_index rfl (ev rfl) (ev rfl) HJM.out) ?_
      simp only [Act.put, List.setIfInBounds_toArray, List.set_cons_succ, List.set_cons_zero]
      refine wpList_valn rfl (exec_allB rfl (ev rfl)) ?_
      simp only [Act.put, List.setIfInBounds_toArray, List.set_cons_succ, List.set_cons_zero]
      refine wpList_call rfl (exec_cl Tryd.call25 rfl (evc (ev rfl) evn)) ?_
      refine (copy_any _ 64 64 N wr.heap.size x.toList wr (Lib.hid rfl) HR.out HNB.out (by omega)).mono ?_
      rintro e w2 ⟨vc, rfl, hmc, hb⟩
      obtain ⟨A2, c2, rfl, hr2, _, _⟩ := hmc.open_ (toList_len x)
      have HR2 := Lib.hid hr2
      have HM2 := Lib.hid (HMD.out.below hb)
      have HB2 := Lib.hid (HB1.out.trans (hb.mono HBW.out))
      clear hb hmc hr2 HMD HB1
      refine ⟨_, rfl, ?_⟩
      simp only [Act.put, List.setIfInBounds_toArray, List.set_cons_succ, List.set_cons_zero]
      refine wpList_app rfl _ _ rfl B w2.heap.size 64 c2 _ (byts (l.take j)) x.toList A2 rfl rfl HM2.out HR2.out (Nat.le_trans HLE.out HB2.out.size) (by rw [HLN.out]; have := HH.out; have := HLT.out; omega) ?_
      intro v4 w4 hm4 hg4
      rw [← HNX.out] at hm4
      have HM4 := Lib.hid hm4
      have HB4 := Lib.hid (HB2.out.grown hg4 (Nat.le_trans HLE.out HB2.out.size) (fun k hk => (HM2.out.lt k hk).1))
      clear hm4 hg4
      simp only [Act.put, List.setIfInBounds_toArray, List.set_cons_succ, List.set_cons_zero]
      refine wpList_valn rfl (exec_as rfl (ev rfl)) ?_
      simp only [Act.put, List.setIfInBounds_toArray, List.set_cons_succ, List.set_cons_zero]
      refine wpList_nil ?_
      go_wp2_with fail
      go_roundw
      case rel => exact ⟨j + 1, by have := HLT.out; omega, by go_num, HM4.out, HB4.out⟩
      case measure => simp [intOf]; have := HLT.out; omega
    · have hjh : j = h := by omega
      have HLN := Lib.hid (show (byts (l.take h)).length = 64 * h by rw [byts_length, List.length_take, HLL.out, Nat.min_eq_left (by omega)])
      rw [hjh] at HMD ⊢
      obtain ⟨A7, c7, rfl, hr7, hc7, _⟩ := HMD.out.open_ HLN.out
      obtain ⟨g7, o7, rfl, hg7, _⟩ := hr7.2 0 (by have := HH.out; omega)
      obtain ⟨B2, hB2⟩ : ∃ B2, wr.heap.size = B2 := ⟨_, rfl⟩
      have HB2 := Lib.hid hB2
      have HCELL : Hid (∀ (w' : World) (p : Nat), Below B2 wr w' → p < 64 * h → w'.cell? ⟨g7, o7 + p, none⟩ = some (.int .u8 (bt (byts l) p))) := Lib.hid fun w' p hb hp => by
        have h7 := hr7
        rw [hB2] at h7
        obtain ⟨b', off', e, _, hc⟩ := (h7.below hb).2 p hp
        injection e with e
        injection e with e1 e2
        subst e1 e2
        rw [hc, byts_take, bt_take hp]
      have HRB : Hid (∀ (w' : World) (k : Nat), Below B2 wr w' → k < n → w'.rangeAt b (off + (h + k) * 64) (cel (l.getD (h + k) zeroB))) := Lib.hid fun w' k hb hk => by
        obtain ⟨b', off', e, _, hr⟩ := (HRD.out w' (HB1.out.trans (hb.mono (by rw [← hB2]; exact Nat.le_trans HLE.out HB1.out.size)))).2 (h + k) (by have := HM.out; omega)
        injection e with e
        injection e with e1 e2
        subst e1 e2
        exact hr
      have HBB := Lib.hid (show B ≤ B2 by rw [← hB2]; exact Nat.le_trans HLE.out HB1.out.size)
      clear hr7 hg7 hB2 hlt hj hjh
      obtain ⟨wA, rfl⟩ : ∃ x, x = wr := ⟨_, rfl⟩
      go_wp2_with fail
      go_loopw [9, 10] (fun v i wr => ∃ k : Nat, k ≤ n ∧ i = .int .i64 k ∧ (∀ j, j < k → okC (tolC l h j) = true ∧ bt (byts l) (4 * j + 3) = 0) ∧ MadeE CellE wr B2 v ((tol l n).take k) ∧ Below B2 wA wr) (fun _ i _ => n - (intOf i).toNat)
      case atStart => exact ⟨0, Nat.zero_le _, rfl, fun j hj => absurd hj (by omega), MadeE.nil _ _, Below.refl _ _⟩
      case round =>
        obtain ⟨k, hk, rfl, hj, hm, hbl⟩ := hrel
        have HJ := Lib.hid hj
        have HMD := Lib.hid hm
        have HB3 := Lib.hid hbl
        clear hj hm hbl
        by_cases hlt : k < n
        · have HLT := Lib.hid hlt
          have HT1 : Hid (decide ((k : Int) < (n : Int)) = true) := Lib.hid (decide_eq_true (by omega))
          have hk64 : 4 * k + 3 < 64 * h := by have := HH.out; omega
          obtain ⟨b0, hb0, hb0'⟩ := bt_nat (byts l) (4 * k)
          obtain ⟨b1, hb1, hb1'⟩ := bt_nat (byts l) (4 * k + 1)
          obtain ⟨b2, hb2, hb2'⟩ := bt_nat (byts l) (4 * k + 2)
          obtain ⟨b3, hb3, hb3'⟩ := bt_nat (byts l) (4 * k + 3)
          have HTC := Lib.hid (tolC_of (l := l) (k := h) (i := k) (by rw [HBL.out, HLL.out]; omega) hb0 hb1 hb2)
          have HP := Lib.hid (HPL.out k hlt)
          rw [HTC.out, hb3] at HP
          have HC0 : Hid (∀ w' : World, Below B2 wA w' → w'.cell? ⟨g7, o7 + 4 * k, none⟩ = some (.int .u8 (b0 : Int))) := Lib.hid fun w' hb => by rw [HCELL.out w' _ hb (by omega), hb0]
          have HC1 : Hid (∀ w' : World, Below B2 wA w' → w'.cell? ⟨g7, o7 + (4 * k + 1), none⟩ = some (.int .u8 (b1 : Int))) := Lib.hid fun w' hb => by rw [HCELL.out w' _ hb (by omega), hb1]
          have HC2 : Hid (∀ w' : World, Below B2 wA w' → w'.cell? ⟨g7, o7 + (4 * k + 2), none⟩ = some (.int .u8 (b2 : Int))) := Lib.hid fun w' hb => by rw [HCELL.out w' _ hb (by omega), hb2]
          have HC3 : Hid (∀ w' : World, Below B2 wA w' → w'.cell? ⟨g7, o7 + (4 * k + 3), none⟩ = some (.int .u8 (b3 : Int))) := Lib.hid fun w' hb => by rw [HCELL.out w' _ hb (by omega), hb3]
          have HV0 := Lib.hid hb0'
          have HV1 := Lib.hid hb1'
          have HV2 := Lib.hid hb2'
          have HV3 := Lib.hid hb3'
          have HI0 : Hid (IntKind.i64.wrap (4 * (k : Int)) = ((4 * k : Nat) : Int)) := Lib.hid (wrap_small _ (by omega) _ (by omega))
          have HI1 : Hid (IntKind.i64.wrap (((4 * k : Nat) : Int) + 1) = ((4 * k + 1 : Nat) : Int)) := Lib.hid (wrap_small _ (by omega) _ (by omega))
          have HI2 : Hid (IntKind.i64.wrap (((4 * k : Nat) : Int) + 2) = ((4 * k + 2 : Nat) : Int)) := Lib.hid (wrap_small _ (by omega) _ (by omega))
          have HI3 : Hid (IntKind.i64.wrap (((4 * k : Nat) : Int) + 3) = ((4 * k + 3 : Nat) : Int)) := Lib.hid (wrap_small _ (by omega) _ (by omega))
          have HW1 : Hid (IntKind.i64.wrap (256 * (b1 : Int)) = ((256 * b1 : Nat) : Int)) := Lib.hid (wrap_small _ (by omega) _ (by omega))
          have HW2 : Hid (IntKind.i64.wrap ((b0 : Int) + ((256 * b1 : Nat) : Int)) = ((b0 + 256 * b1 : Nat) : Int)) := Lib.hid (wrap_small _ (by omega) _ (by omega))
          have HK64 := Lib.hid hk64
          have HB3F : Hid (bt (byts l) (4 * k + 3) = (b3 : Int)) := Lib.hid hb3
          have hb4 := HB3.out.size
          obtain ⟨B4, hB4⟩ : ∃ B4, wr.heap.size = B4 := ⟨_, rfl⟩
          have HB4 := Lib.hid hB4
          have HBB4 := Lib.hid (show B2 ≤ B4 by rw [← hB4, ← HB2.out]; exact hb4)
          clear hb0 hb1 hb2 hb3 hb0' hb1' hb2' hb3' hk64 hb4 hB4
          go_upto_region 15 with fail
          refine wp_region_lit ?_
          refine wpList_valn rfl (exec_mv rfl (ev rfl)) ?_
          simp only [Act.put, List.setIfInBounds_toArray, List.set_cons_succ, List.set_cons_zero]
          refine wpList_valn rfl (exec_mv rfl (ev rfl)) ?_
          simp only [Act.put, List.setIfInBounds_toArray, List.set_cons_succ, List.set_cons_zero]
          refine wpList_valn (v := .bool true) rfl (exec_lss true rfl (ev rfl) (ev rfl) HT1.out) ?_
          simp only [Act.put, List.setIfInBounds_toArray, List.set_cons_succ, List.set_cons_zero]
          refine wpList_nil ?_
          go_upto_region 17 with fail
          have HS0 : Hid (Below B4 wr wr.drew) := Lib.hid (bd (Below.refl _ _))
          have HUP : Hid (∀ w', Below B4 wr w' → Below B2 wA w') := Lib.hid fun w' hw => HB3.out.trans (hw.mono HBB4.out)
          refine wp_region_held (S := fun w' => Below B4 wr w') (by kernel_rfl) ?_
          change wpAnyH _ _ _ _ _ 25 _ _ wr.drew
          refine held_val 0 rfl (by kernel_rfl) (by kernel_rfl) (by kernel_rfl) rfl (fun w' hw => exec_mv rfl (ev rfl)) (fun _ _ _ h => h) HS0.out ?_
          simp only [Act.put, List.setIfInBounds_toArray, List.set_cons_succ, List.set_cons_zero]
          refine held_val 1 rfl (by kernel_rfl) (by kernel_rfl) (by kernel_rfl) rfl (fun w' hw => exec_mv rfl (ev rfl)) (fun _ _ _ h => h) HS0.out ?_
          simp only [Act.put, List.setIfInBounds_toArray, List.set_cons_succ, List.set_cons_zero]
          refine held_val 2 rfl (by kernel_rfl) (by kernel_rfl) (by kernel_rfl) rfl (fun w' hw => exec_mul rfl evk (ev rfl) HI0.out) (fun _ _ _ h => h) HS0.out ?_
          simp only [Act.put, List.setIfInBounds_toArray, List.set_cons_succ, List.set_cons_zero]
          refine held_val 3 rfl (by kernel_rfl) (by kernel_rfl) (by kernel_rfl) rfl (fun w' hw => exec_ix rfl (ev rfl) (ev rfl) (ixU (by have := HK64.out; omega))) (fun _ _ _ h => h) HS0.out ?_
          simp only [Act.put, List.setIfInBounds_toArray, List.set_cons_succ, List.set_cons_zero]
          refine held_val 4 rfl (by kernel_rfl) (by kernel_rfl) (by kernel_rfl) rfl (fun w' hw => exec_ld rfl (ev rfl) (ldU8 (HC0.out w' (HUP.out w' hw)))) (fun _ _ _ h => h) HS0.out ?_
          simp only [Act.put, List.setIfInBounds_toArray, List.set_cons_succ, List.set_cons_zero]
          refine held_val 5 rfl (by kernel_rfl) (by kernel_rfl) (by kernel_rfl) rfl (fun w' hw => exec_cvUI rfl (ev rfl) HV0.out) (fun _ _ _ h => h) HS0.out ?_
          simp only [Act.put, List.setIfInBounds_toArray, List.set_cons_succ, List.set_cons_zero]
          refine held_val 6 rfl (by kernel_rfl) (by kernel_rfl) (by kernel_rfl) rfl (fun w' hw => exec_mv rfl (ev rfl)) (fun _ _ _ h => h) HS0.out ?_
          simp only [Act.put, List.setIfInBounds_toArray, List.set_cons_succ, List.set_cons_zero]
          refine held_val 7 rfl (by kernel_rfl) (by kernel_rfl) (by kernel_rfl) rfl (fun w' hw => exec_mv rfl (ev rfl)) (fun _ _ _ h => h) HS0.out ?_
          simp only [Act.put, List.setIfInBounds_toArray, List.set_cons_succ, List.set_cons_zero]
          refine held_val 8 rfl (by kernel_rfl) (by kernel_rfl) (by kernel_rfl) rfl (fun w' hw => exec_mul rfl evk (ev rfl) HI0.out) (fun _ _ _ h => h) HS0.out ?_
          simp only [Act.put, List.setIfInBounds_toArray, List.set_cons_succ, List.set_cons_zero]
          refine held_val 9 rfl (by kernel_rfl) (by kernel_rfl) (by kernel_rfl) rfl (fun w' hw => exec_add rfl (ev rfl) evk HI1.out) (fun _ _ _ h => h) HS0.out ?_
          simp only [Act.put, List.setIfInBounds_toArray, List.set_cons_succ, List.set_cons_zero]
          refine held_val 10 rfl (by kernel_rfl) (by kernel_rfl) (by kernel_rfl) rfl (fun w' hw => exec_ix rfl (ev rfl) (ev rfl) (ixU (by have := HK64.out; omega))) (fun _ _ _ h => h) HS0.out ?_
          simp only [Act.put, List.setIfInBounds_toArray, List.set_cons_succ, List.set_cons_zero]
          refine held_val 11 rfl (by kernel_rfl) (by kernel_rfl) (by kernel_rfl) rfl (fun w' hw => exec_ld rfl (ev rfl) (ldU8 (HC1.out w' (HUP.out w' hw)))) (fun _ _ _ h => h) HS0.out ?_
          simp only [Act.put, List.setIfInBounds_toArray, List.set_cons_succ, List.set_cons_zero]
          refine held_val 12 rfl (by kernel_rfl) (by kernel_rfl) (by kernel_rfl) rfl (fun w' hw => exec_cvUI rfl (ev rfl) HV1.out) (fun _ _ _ h => h) HS0.out ?_
          simp only [Act.put, List.setIfInBounds_toArray, List.set_cons_succ, List.set_cons_zero]
          refine held_val 13 rfl (by kernel_rfl) (by kernel_rfl) (by kernel_rfl) rfl (fun w' hw => exec_mul rfl evk (ev rfl) HW1.out) (fun _ _ _ h => h) HS0.out ?_
          simp only [Act.put, List.setIfInBounds_toArray, List.set_cons_succ, List.set_cons_zero]
          refine held_val 14 rfl (by kernel_rfl) (by kernel_rfl) (by kernel_rfl) rfl (fun w' hw => exec_add rfl (ev rfl) (ev rfl) HW2.out) (fun _ _ _ h => h) HS0.out ?_
          simp only [Act.put, List.setIfInBounds_toArray, List.set_cons_succ, List.set_cons_zero]
          refine held_val 15 rfl (by kernel_rfl) (by kernel_rfl) (by kernel_rfl) rfl (fun w' hw => exec_mv rfl (ev rfl)) (fun _ _ _ h => h) HS0.out ?_
          simp only [Act.put, List.setIfInBounds_toArray, List.set_cons_succ, List.set_cons_zero]
          refine held_val 16 rfl (by kernel_rfl) (by kernel_rfl) (by kernel_rfl) rfl (fun w' hw => exec_mv rfl (ev rfl)) (fun _ _ _ h => h) HS0.out ?_
          simp only [Act.put, List.setIfInBounds_toArray, List.set_cons_succ, List.set_cons_zero]
          refine held_val 17 rfl (by kernel_rfl) (by kernel_rfl) (by kernel_rfl) rfl (fun w' hw => exec_mul rfl evk (ev rfl) HI0.out) (fun _ _ _ h => h) HS0.out ?_
          simp only [Act.put, List.setIfInBounds_toArray, List.set_cons_succ, List.set_cons_zero]
          refine held_val 18 rfl (by kernel_rfl) (by kernel_rfl) (by kernel_rfl) rfl (fun w' hw => exec_add rfl (ev rfl) evk HI2.out) (fun _ _ _ h => h) HS0.out ?_
          simp only [Act.put, List.setIfInBounds_toArray, List.set_cons_succ, List.set_cons_zero]
          refine held_val 19 rfl (by kernel_rfl) (by kernel_rfl) (by kernel_rfl) rfl (fun w' hw => exec_ix rfl (ev rfl) (ev rfl) (ixU (by have := HK64.out; omega))) (fun _ _ _ h => h) HS0.out ?_
          simp only [Act.put, List.setIfInBounds_toArray, List.set_cons_succ, List.set_cons_zero]
          refine held_val 20 rfl (by kernel_rfl) (by kernel_rfl) (by kernel_rfl) rfl (fun w' hw => exec_ld rfl (ev rfl) (ldU8 (HC2.out w' (HUP.out w' hw)))) (fun _ _ _ h => h) HS0.out ?_
          simp only [Act.put, List.setIfInBounds_toArray, List.set_cons_succ, List.set_cons_zero]
          refine held_val 21 rfl (by kernel_rfl) (by kernel_rfl) (by kernel_rfl) rfl (fun w' hw => exec_cvUI rfl (ev rfl) HV2.out) (fun _ _ _ h => h) HS0.out ?_
          simp only [Act.put, List.setIfInBounds_toArray, List.set_cons_succ, List.set_cons_zero]
          refine held_val 22 rfl (by kernel_rfl) (by kernel_rfl) (by kernel_rfl) rfl (fun w' hw => exec_bldPl rfl (ev rfl) (ev rfl)) (fun _ _ _ h => h) HS0.out ?_
          simp only [Act.put, List.setIfInBounds_toArray, List.set_cons_succ, List.set_cons_zero]
          refine held_one 23 (by kernel_rfl) (op_val 23 rfl rfl (exec_allocPl rfl) ?_)
          refine ⟨HS0.out.alloc (by show B4 ≤ wr.heap.size; rw [HB4.out]; exact Nat.le_refl _) _, ?_⟩
          simp only [Act.put, List.setIfInBounds_toArray, List.set_cons_succ, List.set_cons_zero]
          refine held_one 24 (by kernel_rfl) (op_nul 24 rfl rfl (exec_fillPl rfl (ev rfl) (ev rfl)) ?_)
          have HS1 := Lib.hid (HS0.out.alloc (by show B4 ≤ wr.heap.size; rw [HB4.out]; exact Nat.le_refl _) (.cells (celP ((b0 + 256 * b1 : Nat) : Int) (b2 : Int)).toArray 44))
          have HPR := Lib.hid (heap_alloc_new wr.drew (.cells (celP ((b0 + 256 * b1 : Nat) : Int) (b2 : Int)).toArray 44))
          have HQ := Lib.hid (show wr.drew.heap.size < (wr.drew.alloc (.cells (celP ((b0 + 256 * b1 : Nat) : Int) (b2 : Int)).toArray 44)).heap.size by rw [World.size_alloc]; omega)
          generalize wr.drew.alloc (.cells (celP ((b0 + 256 * b1 : Nat) : Int) (b2 : Int)).toArray 44) = w5 at *
          generalize wr.drew.heap.size = q at *
          refine ⟨HS1.out, ?_⟩
          simp only [Act.put, List.setIfInBounds_toArray, List.set_cons_succ, List.set_cons_zero]
          clear HS0
          refine wpAnyH_done (by kernel_rfl) ?_ _
          have HM5 := Lib.hid (HMD.out.below (by rw [HB4.out]; exact HS1.out))
          have HB5 := Lib.hid (HUP.out w5 HS1.out)
          have HBB5 := Lib.hid (show B2 ≤ w5.heap.size by have := HB5.out.size; rw [HB2.out] at this; exact this)
          clear HMD HS1
          cases hq : okP ((b0 + 256 * b1 : Nat) : Int) (b2 : Int)
          · have HOK := Lib.hid hq
            have HE := Lib.hid (HP.out (.inl hq))
            have HC := Lib.hid (HCN.out HE.out)
            clear hq
            go_upto_region 18 with fail
            refine wp_region_lit ?_
            refine wpList_valn rfl (exec_loadPl rfl (ev rfl) (rng_at HPR.out)) ?_
            simp only [Act.put, List.setIfInBounds_toArray, List.set_cons_succ, List.set_cons_zero]
            refine wpList_call rfl (exec_cl Tryd.call26 rfl (evc (ev rfl) evn)) ?_
            refine (rmayc _ _ w5).mono ?_
            rintro e w6 ⟨rfl, hb⟩
            rw [show okP ((b0 + 256 * b1 : Nat) : Int) (b2 : Int) = false from HOK.out]
            have HPR6 := Lib.hid (blk_keep2 HPR.out HQ.out hb)
            have HM6 := Lib.hid (HM5.out.below hb)
            have HB6 := Lib.hid (HB5.out.trans (hb.mono HBB5.out))
            have HQ6 := Lib.hid (Nat.lt_of_lt_of_le HQ.out hb.size)
            clear hb HPR HM5 HB5 HQ
            refine ⟨_, rfl, ?_⟩
            simp only [Act.put, List.setIfInBounds_toArray, List.set_cons_succ, List.set_cons_zero]
            refine wpList_valn (v := .bool true) rfl (exec_not false rfl (ev rfl)) ?_
            simp only [Act.put, List.setIfInBounds_toArray, List.set_cons_succ, List.set_cons_zero]
            refine wpList_skips 7 (v := .bool true) rfl (exec_mv rfl (ev rfl)) (by kernel_rfl) ?_
            simp only [skipAct, List.take_succ_cons, List.take_zero, List.drop_succ_cons, List.drop_zero, Act.put, List.setIfInBounds_toArray, List.set_cons_succ, List.set_cons_zero]
            refine wpList_valn (v := .bool true) rfl (exec_pt rfl (ev rfl) evk) ?_
            simp only [Act.put, List.setIfInBounds_toArray, List.set_cons_succ, List.set_cons_zero]
            refine wpList_nil ?_
            go_upto_region 19 with fail
            refine wp_region_lit ?_
            refine wpList_valn rfl (exec_as rfl evk) ?_
            simp only [Act.put, List.setIfInBounds_toArray, List.set_cons_succ, List.set_cons_zero]
            refine wpList_valn rfl (exec_as rfl evk) ?_
            simp only [Act.put, List.setIfInBounds_toArray, List.set_cons_succ, List.set_cons_zero]
            refine wpList_nil ?_
            go_wp2_with fail
            go_ret2
            exact ⟨_, by rw [HE.out]; rfl, by rw [HC.out]; exact MadeE.nil _ _, HB1.out.trans (HB6.out.mono HBB.out)⟩
          · have HOK := Lib.hid hq
            by_cases h3 : b3 = 0
            · have HD3 : Hid (((b3 : Int) != 0) = false) := Lib.hid (by simp; exact h3)
              have HF3 : Hid (okC (tolC l h k) = true ∧ bt (byts l) (4 * k + 3) = 0) := Lib.hid ⟨by rw [HTC.out]; exact hq, by rw [HB3F.out, h3]; rfl⟩
              clear hq h3
              go_upto_region 18 with fail
              refine wp_region_lit ?_
              refine wpList_valn rfl (exec_loadPl rfl (ev rfl) (rng_at HPR.out)) ?_
              simp only [Act.put, List.setIfInBounds_toArray, List.set_cons_succ, List.set_cons_zero]
              refine wpList_call rfl (exec_cl Tryd.call26 rfl (evc (ev rfl) evn)) ?_
              refine (rmayc _ _ w5).mono ?_
              rintro e w6 ⟨rfl, hb⟩
              rw [show okP ((b0 + 256 * b1 : Nat) : Int) (b2 : Int) = true from HOK.out]
              have HPR6 := Lib.hid (blk_keep2 HPR.out HQ.out hb)
              have HM6 := Lib.hid (HM5.out.below hb)
              have HB6 := Lib.hid (HB5.out.trans (hb.mono HBB5.out))
              have HQ6 := Lib.hid (Nat.lt_of_lt_of_le HQ.out hb.size)
              clear hb HPR HM5 HB5 HQ
              refine ⟨_, rfl, ?_⟩
              simp only [Act.put, List.setIfInBounds_toArray, List.set_cons_succ, List.set_cons_zero]
              refine wpList_valn (v := .bool false) rfl (exec_not true rfl (ev rfl)) ?_
              simp only [Act.put, List.setIfInBounds_toArray, List.set_cons_succ, List.set_cons_zero]
              refine wpList_valn (v := .bool false) rfl (exec_mv rfl (ev rfl)) ?_
              simp only [Act.put, List.setIfInBounds_toArray, List.set_cons_succ, List.set_cons_zero]
              refine wpList_val (wanted_of rfl rfl rfl rfl) (exec_mv rfl (ev rfl)) ?_
              simp only [Act.put, List.setIfInBounds_toArray, List.set_cons_succ, List.set_cons_zero]
              refine wpList_val (wanted_of rfl rfl rfl rfl) (exec_mv rfl (ev rfl)) ?_
              simp only [Act.put, List.setIfInBounds_toArray, List.set_cons_succ, List.set_cons_zero]
              refine wpList_val (wanted_of rfl rfl rfl rfl) (exec_mul rfl evk (ev rfl) HI0.out) ?_
              simp only [Act.put, List.setIfInBounds_toArray, List.set_cons_succ, List.set_cons_zero]
              refine wpList_val (wanted_of rfl rfl rfl rfl) (exec_add rfl (ev rfl) evk HI3.out) ?_
              simp only [Act.put, List.setIfInBounds_toArray, List.set_cons_succ, List.set_cons_zero]
              refine wpList_val (wanted_of rfl rfl rfl rfl) (exec_ix rfl (ev rfl) (ev rfl) (ixU HK64.out)) ?_
              simp only [Act.put, List.setIfInBounds_toArray, List.set_cons_succ, List.set_cons_zero]
              refine wpList_val (wanted_of rfl rfl rfl rfl) (exec_ld rfl (ev rfl) (ldU8 (HC3.out w6 HB6.out))) ?_
              simp only [Act.put, List.setIfInBounds_toArray, List.set_cons_succ, List.set_cons_zero]
              refine wpList_val (v := .bool false) (wanted_of rfl rfl rfl rfl) (exec_neInt false rfl (ev rfl) evk HD3.out) ?_
              simp only [Act.put, List.setIfInBounds_toArray, List.set_cons_succ, List.set_cons_zero]
              refine wpList_valn (v := .bool false) rfl (exec_pf rfl (ev rfl) (ev rfl)) ?_
              simp only [Act.put, List.setIfInBounds_toArray, List.set_cons_succ, List.set_cons_zero]
              refine wpList_nil ?_
              go_upto_region 20 with fail
              have HTN := Lib.hid (show ((tol l n).take k).length = k by rw [List.length_take, HTL.out, Nat.min_eq_left hk])
              have HNX : Hid ((tol l n).take (k + 1) = (tol l n).take k ++ [⟨((b0 + 256 * b1 : Nat) : Int), (b2 : Int), l.getD (h + k) zeroB⟩]) := Lib.hid (by
                rw [List.take_succ_eq_append_getElem (by rw [HTL.out]; exact hlt)]
                have h5 := HTA.out k hlt
                rw [List.getD, List.getElem?_eq_getElem (by rw [HTL.out]; exact hlt), Option.getD_some, HTC.out] at h5
                rw [h5])
              have HBB6 := Lib.hid (show B2 ≤ w6.heap.size by have := HB6.out.size; rw [HB2.out] at this; exact this)
              have HIX : Hid (IntKind.i64.wrap ((h : Int) + (k : Int)) = ((h + k : Nat) : Int)) := Lib.hid (wrap_small _ (by have := HH.out; omega) _ (by omega))
              have HMI := Lib.hid (show h + k < m by have := HM.out; omega)
              have HS0 : Hid (Below B2 wA w6.drew ∧ w6.drew.heap[q]? = some (.cells (celP ((b0 + 256 * b1 : Nat) : Int) (b2 : Int)).toArray 44 (0, 0))) := Lib.hid ⟨bd HB6.out, HPR6.out⟩
              refine wp_region_held (S := fun w' => Below B2 wA w' ∧ w'.heap[q]? = some (.cells (celP ((b0 + 256 * b1 : Nat) : Int) (b2 : Int)).toArray 44 (0, 0))) (by kernel_rfl) ?_
              change wpAnyH _ _ _ _ _ 12 _ _ w6.drew
              refine held_val 0 rfl (by kernel_rfl) (by kernel_rfl) (by kernel_rfl) rfl (fun w' hw => exec_mv rfl (ev rfl)) (fun _ _ _ h => h) HS0.out ?_
              simp only [Act.put, List.setIfInBounds_toArray, List.set_cons_succ, List.set_cons_zero]
              refine held_val 1 rfl (by kernel_rfl) (by kernel_rfl) (by kernel_rfl) rfl (fun w' hw => exec_loadPl rfl (ev rfl) (rng_at hw.2)) (fun _ _ _ h => h) HS0.out ?_
              simp only [Act.put, List.setIfInBounds_toArray, List.set_cons_succ, List.set_cons_zero]
              refine held_val 2 rfl (by kernel_rfl) (by kernel_rfl) (by kernel_rfl) rfl (fun w' hw => exec_mv rfl (ev rfl)) (fun _ _ _ h => h) HS0.out ?_
              simp only [Act.put, List.setIfInBounds_toArray, List.set_cons_succ, List.set_cons_zero]
              refine held_val 3 rfl (by kernel_rfl) (by kernel_rfl) (by kernel_rfl) rfl (fun w' hw => exec_mv rfl (ev rfl)) (fun _ _ _ h => h) HS0.out ?_
              simp only [Act.put, List.setIfInBounds_toArray, List.set_cons_succ, List.set_cons_zero]
              refine held_val 4 rfl (by kernel_rfl) (by kernel_rfl) (by kernel_rfl) rfl (fun w' hw => exec_mv rfl (ev rfl)) (fun _ _ _ h => h) HS0.out ?_
              simp only [Act.put, List.setIfInBounds_toArray, List.set_cons_succ, List.set_cons_zero]
              refine held_val 5 rfl (by kernel_rfl) (by kernel_rfl) (by kernel_rfl) rfl (fun w' hw => exec_add rfl (ev rfl) (ev rfl) HIX.out) (fun _ _ _ h => h) HS0.out ?_
              simp only [Act.put, List.setIfInBounds_toArray, List.set_cons_succ, List.set_cons_zero]
              refine held_val 6 rfl (by kernel_rfl) (by kernel_rfl) (by kernel_rfl) rfl (fun w' hw => exec_index rfl (ev rfl) (ev rfl) HMI.out) (fun _ _ _ h => h) HS0.out ?_
              simp only [Act.put, List.setIfInBounds_toArray, List.set_cons_succ, List.set_cons_zero]
              refine held_val 7 rfl (by kernel_rfl) (by kernel_rfl) (by kernel_rfl) rfl (fun w' hw => exec_load rfl (ev rfl) (HRB.out w' k hw.1 hlt)) (fun _ _ _ h => h) HS0.out ?_
              simp only [Act.put, List.setIfInBounds_toArray, List.set_cons_succ, List.set_cons_zero]
              refine held_val 8 rfl (by kernel_rfl) (by kernel_rfl) (by kernel_rfl) rfl (fun w' hw => exec_bldC (s := ((b0 + 256 * b1 : Nat) : Int)) (m := (b2 : Int)) (b := l.getD (h + k) zeroB) rfl (ev rfl) (ev rfl)) (fun _ _ _ h => h) HS0.out ?_
              simp only [Act.put, List.setIfInBounds_toArray, List.set_cons_succ, List.set_cons_zero]
              have HS7 : Hid (Below B2 wA (w6.drew.alloc (.cells (celC (⟨((b0 + 256 * b1 : Nat) : Int), (b2 : Int), l.getD (h + k) zeroB⟩ : Cl)).toArray 46)) ∧ (w6.drew.alloc (.cells (celC (⟨((b0 + 256 * b1 : Nat) : Int), (b2 : Int), l.getD (h + k) zeroB⟩ : Cl)).toArray 46)).heap[q]? = some (.cells (celP ((b0 + 256 * b1 : Nat) : Int) (b2 : Int)).toArray 44 (0, 0))) := Lib.hid ⟨HS0.out.1.alloc HBB6.out _, blk_past HS0.out.2 _⟩
              have HRC := Lib.hid (rdC_new1 w6.drew (⟨((b0 + 256 * b1 : Nat) : Int), (b2 : Int), l.getD (h + k) zeroB⟩ : Cl))
              have HM7 := Lib.hid (HM6.out.below (Below.alloc (bd (Below.refl _ _)) (Nat.le_refl _) (.cells (celC (⟨((b0 + 256 * b1 : Nat) : Int), (b2 : Int), l.getD (h + k) zeroB⟩ : Cl)).toArray 46)))
              refine held_one 9 (by kernel_rfl) (op_val 9 rfl rfl (exec_mk1E (E := CellE) (a := (⟨((b0 + 256 * b1 : Nat) : Int), (b2 : Int), l.getD (h + k) zeroB⟩ : Cl)) rfl (ev rfl) rfl (by show 66 ≤ _; omega)) ?_)
              refine ⟨HS7.out, ?_⟩
              change wpAnyH _ _ _ _ _ _ _ _ (w6.drew.alloc (.cells (celC (⟨((b0 + 256 * b1 : Nat) : Int), (b2 : Int), l.getD (h + k) zeroB⟩ : Cl)).toArray 46))
              simp only [Act.put, List.setIfInBounds_toArray, List.set_cons_succ, List.set_cons_zero]
              generalize w6.drew.alloc (.cells (celC (⟨((b0 + 256 * b1 : Nat) : Int), (b2 : Int), l.getD (h + k) zeroB⟩ : Cl)).toArray 46) = w7 at *
              have HB27 := Lib.hid (show B2 ≤ w7.heap.size by have := HS7.out.1.size; rw [HB2.out] at this; exact this)
              obtain ⟨v8, w8, hrun, hm8, hg8⟩ := run_appE CellE w7 _ B2 _ 1 1 _ ((tol l n).take k) [(⟨((b0 + 256 * b1 : Nat) : Int), (b2 : Int), l.getD (h + k) zeroB⟩ : Cl)] (some ⟨w6.drew.heap.size, 0, none⟩) HM7.out HRC.out HB27.out (by rw [HTN.out]; omega)
              rw [← HNX.out] at hm8
              have HM8 := Lib.hid hm8
              have HS8 : Hid (Below B2 wA w8 ∧ w8.heap[q]? = some (.cells (celP ((b0 + 256 * b1 : Nat) : Int) (b2 : Int)).toArray 44 (0, 0))) := Lib.hid ⟨HS7.out.1.grown hg8 HB27.out (fun j hj => HM7.out.lt_own j hj), (hg8.block q (blk_lt HS7.out.2) (fun e => HM7.out.ty_apart HS7.out.2 (by decide) e.symm)).trans HS7.out.2⟩
              refine held_one 10 (by kernel_rfl) (op_val 10 rfl rfl (exec_appEv rfl (ev rfl) (ev rfl) hrun) ?_)
              refine ⟨HS8.out, ?_⟩
              simp only [Act.put, List.setIfInBounds_toArray, List.set_cons_succ, List.set_cons_zero]
              clear hm8 hg8 hrun HM7 HRC
              refine held_val 11 rfl (by kernel_rfl) (by kernel_rfl) (by kernel_rfl) rfl (fun w' hw => exec_as rfl (ev rfl)) (fun _ _ _ h => h) HS8.out ?_
              simp only [Act.put, List.setIfInBounds_toArray, List.set_cons_succ, List.set_cons_zero]
              refine wpAnyH_done (by kernel_rfl) ?_ _
              have HB8 := Lib.hid HS8.out.1
              go_wp2_with fail
              go_roundw
              case rel =>
                refine ⟨k + 1, by have := HLT.out; omega, by go_num, ?_, HM8.out, HB8.out⟩
                intro j hj
                by_cases h : j = k
                · subst h; exact HF3.out
                · exact HJ.out j (by omega)
              case measure => simp [intOf]; have := HLT.out; omega
            · have HD3 : Hid (((b3 : Int) != 0) = true) := Lib.hid (by simp; exact h3)
              have HE := Lib.hid (HP.out (.inr (by omega)))
              have HC := Lib.hid (HCN.out HE.out)
              clear hq h3
              go_upto_region 18 with fail
              refine wp_region_lit ?_
              refine wpList_valn rfl (exec_loadPl rfl (ev rfl) (rng_at HPR.out)) ?_
              simp only [Act.put, List.setIfInBounds_toArray, List.set_cons_succ, List.set_cons_zero]
              refine wpList_call rfl (exec_cl Tryd.call26 rfl (evc (ev rfl) evn)) ?_
              refine (rmayc _ _ w5).mono ?_
              rintro e w6 ⟨rfl, hb⟩
              rw [show okP ((b0 + 256 * b1 : Nat) : Int) (b2 : Int) = true from HOK.out]
              have HPR6 := Lib.hid (blk_keep2 HPR.out HQ.out hb)
              have HM6 := Lib.hid (HM5.out.below hb)
              have HB6 := Lib.hid (HB5.out.trans (hb.mono HBB5.out))
              have HQ6 := Lib.hid (Nat.lt_of_lt_of_le HQ.out hb.size)
              clear hb HPR HM5 HB5 HQ
              refine ⟨_, rfl, ?_⟩
              simp only [Act.put, List.setIfInBounds_toArray, List.set_cons_succ, List.set_cons_zero]
              refine wpList_valn (v := .bool false) rfl (exec_not true rfl (ev rfl)) ?_
              simp only [Act.put, List.setIfInBounds_toArray, List.set_cons_succ, List.set_cons_zero]
              refine wpList_valn (v := .bool false) rfl (exec_mv rfl (ev rfl)) ?_
              simp only [Act.put, List.setIfInBounds_toArray, List.set_cons_succ, List.set_cons_zero]
              refine wpList_val (wanted_of rfl rfl rfl rfl) (exec_mv rfl (ev rfl)) ?_
              simp only [Act.put, List.setIfInBounds_toArray, List.set_cons_succ, List.set_cons_zero]
              refine wpList_val (wanted_of rfl rfl rfl rfl) (exec_mv rfl (ev rfl)) ?_
              simp only [Act.put, List.setIfInBounds_toArray, List.set_cons_succ, List.set_cons_zero]
              refine wpList_val (wanted_of rfl rfl rfl rfl) (exec_mul rfl evk (ev rfl) HI0.out) ?_
              simp only [Act.put, List.setIfInBounds_toArray, List.set_cons_succ, List.set_cons_zero]
              refine wpList_val (wanted_of rfl rfl rfl rfl) (exec_add rfl (ev rfl) evk HI3.out) ?_
              simp only [Act.put, List.setIfInBounds_toArray, List.set_cons_succ, List.set_cons_zero]
              refine wpList_val (wanted_of rfl rfl rfl rfl) (exec_ix rfl (ev rfl) (ev rfl) (ixU HK64.out)) ?_
              simp only [Act.put, List.setIfInBounds_toArray, List.set_cons_succ, List.set_cons_zero]
              refine wpList_val (wanted_of rfl rfl rfl rfl) (exec_ld rfl (ev rfl) (ldU8 (HC3.out w6 HB6.out))) ?_
              simp only [Act.put, List.setIfInBounds_toArray, List.set_cons_succ, List.set_cons_zero]
              refine wpList_val (v := .bool true) (wanted_of rfl rfl rfl rfl) (exec_neInt true rfl (ev rfl) evk HD3.out) ?_
              simp only [Act.put, List.setIfInBounds_toArray, List.set_cons_succ, List.set_cons_zero]
              refine wpList_valn (v := .bool true) rfl (exec_pf rfl (ev rfl) (ev rfl)) ?_
              simp only [Act.put, List.setIfInBounds_toArray, List.set_cons_succ, List.set_cons_zero]
              refine wpList_nil ?_
              go_upto_region 19 with fail
              refine wp_region_lit ?_
              refine wpList_valn rfl (exec_as rfl evk) ?_
              simp only [Act.put, List.setIfInBounds_toArray, List.set_cons_succ, List.set_cons_zero]
              refine wpList_valn rfl (exec_as rfl evk) ?_
              simp only [Act.put, List.setIfInBounds_toArray, List.set_cons_succ, List.set_cons_zero]
              refine wpList_nil ?_
              go_wp2_with fail
              go_ret2
              exact ⟨_, by rw [HE.out]; rfl, by rw [HC.out]; exact MadeE.nil _ _, HB1.out.trans (HB6.out.mono HBB.out)⟩
        · have hkn : k = n := by omega
          rw [hkn] at HJ HMD
          have HTK : Hid ((tol l n).take n = tol l n) := Lib.hid (List.take_of_length_le (by rw [HTL.out]; exact Nat.le_refl _))
          rw [HTK.out] at HMD
          have HI4 : Hid (IntKind.i64.wrap (4 * (n : Int)) = ((4 * n : Nat) : Int)) := Lib.hid (wrap_small _ (by omega) _ (by omega))
          have HBF := Lib.hid (HB1.out.trans (HB3.out.mono HBB.out))
          have HT1 : Hid (decide ((k : Int) < (n : Int)) = false) := Lib.hid (decide_eq_false (by omega))
          clear hkn hk hlt
          go_upto_region 15 with fail
          refine wp_region_lit ?_
          refine wpList_valn rfl (exec_mv rfl (ev rfl)) ?_
          simp only [Act.put, List.setIfInBounds_toArray, List.set_cons_succ, List.set_cons_zero]
          refine wpList_valn rfl (exec_mv rfl (ev rfl)) ?_
          simp only [Act.put, List.setIfInBounds_toArray, List.set_cons_succ, List.set_cons_zero]
          refine wpList_valn (v := .bool false) rfl (exec_lss false rfl (ev rfl) (ev rfl) HT1.out) ?_
          simp only [Act.put, List.setIfInBounds_toArray, List.set_cons_succ, List.set_cons_zero]
          refine wpList_nil ?_
          go_upto_region 21 with fail
          refine wp_region_lit ?_
          refine wpList_valn rfl (exec_mv rfl (ev rfl)) ?_
          simp only [Act.put, List.setIfInBounds_toArray, List.set_cons_succ, List.set_cons_zero]
          refine wpList_valn rfl (exec_mul rfl evk (ev rfl) HI4.out) ?_
          simp only [Act.put, List.setIfInBounds_toArray, List.set_cons_succ, List.set_cons_zero]
          refine wpList_valn rfl (exec_as rfl (ev rfl)) ?_
          simp only [Act.put, List.setIfInBounds_toArray, List.set_cons_succ, List.set_cons_zero]
          refine wpList_nil ?_
          go_wp2_with fail
          go_loop [12] (fun i => ∃ j : Nat, i = .int .i64 j ∧ 4 * n ≤ j ∧ j ≤ 64 * h ∧ ∀ r, 4 * n ≤ r → r < j → bt (byts l) r = 0) (fun i => 64 * h - (intOf i).toNat)
          case atStart => exact ⟨4 * n, rfl, Nat.le_refl _, HH.out.2.2.1, fun r h1 h2 => absurd h2 (by omega)⟩
          case round =>
            obtain ⟨j, rfl, hj1, hj2, hz⟩ := hrel
            have HZ := Lib.hid hz
            have hjs : j ≤ 128 := by have := HH.out.1; omega
            clear hz
            by_cases hlt : j < 64 * h
            · obtain ⟨x, hx, hx'⟩ := bt_nat (byts l) j
              have HCX := Lib.hid (HCELL.out wr j HB3.out hlt)
              rw [hx] at HCX
              have HLT := Lib.hid hlt
              have HD1 : Hid (decide ((j : Int) < ((64 * h : Nat) : Int)) = true) := Lib.hid (decide_eq_true (by omega))
              by_cases h0 : x = 0
              · have HD2 : Hid (((x : Int) != 0) = false) := Lib.hid (by simp; exact h0)
                have HX0 : Hid (bt (byts l) j = 0) := Lib.hid (by rw [hx, h0]; rfl)
                clear hx hx' h0
                go_upto_region 22 with fail
                refine wp_region_lit ?_
                refine wpList_valn rfl (exec_mv rfl (ev rfl)) ?_
                simp only [Act.put, List.setIfInBounds_toArray, List.set_cons_succ, List.set_cons_zero]
                refine wpList_valn rfl (exec_mv rfl (ev rfl)) ?_
                simp only [Act.put, List.setIfInBounds_toArray, List.set_cons_succ, List.set_cons_zero]
                refine wpList_valn rfl (exec_lenU rfl (ev rfl)) ?_
                simp only [Act.put, List.setIfInBounds_toArray, List.set_cons_succ, List.set_cons_zero]
                refine wpList_valn (v := .bool true) rfl (exec_lss true rfl (ev rfl) (ev rfl) HD1.out) ?_
                simp only [Act.put, List.setIfInBounds_toArray, List.set_cons_succ, List.set_cons_zero]
                refine wpList_nil ?_
                go_upto_region 24 with fail
                refine wp_region_lit ?_
                refine wpList_valn rfl (exec_mv rfl (ev rfl)) ?_
                simp only [Act.put, List.setIfInBounds_toArray, List.set_cons_succ, List.set_cons_zero]
                refine wpList_valn rfl (exec_mv rfl (ev rfl)) ?_
                simp only [Act.put, List.setIfInBounds_toArray, List.set_cons_succ, List.set_cons_zero]
                refine wpList_valn rfl (exec_ix rfl (ev rfl) (ev rfl) (ixU HLT.out)) ?_
                simp only [Act.put, List.setIfInBounds_toArray, List.set_cons_succ, List.set_cons_zero]
                refine wpList_valn rfl (exec_ld rfl (ev rfl) (ldU8 HCX.out)) ?_
                simp only [Act.put, List.setIfInBounds_toArray, List.set_cons_succ, List.set_cons_zero]
                refine wpList_valn (v := .bool false) rfl (exec_neInt false rfl (ev rfl) evk HD2.out) ?_
                simp only [Act.put, List.setIfInBounds_toArray, List.set_cons_succ, List.set_cons_zero]
                refine wpList_nil ?_
                go_wp2_with fail
                go_round
                case rel =>
                  refine ⟨j + 1, by go_num, by omega, by have := HLT.out; omega, ?_⟩
                  intro r h3 h4
                  by_cases e : r = j
                  · subst e; exact HX0.out
                  · exact HZ.out r h3 (by omega)
                case measure => simp [intOf]; have := HLT.out; omega
              · have HD2 : Hid (((x : Int) != 0) = true) := Lib.hid (by simp; exact h0)
                have HE := Lib.hid (HRS.out j hj1 hlt (by rw [hx]; omega))
                have HC := Lib.hid (HCN.out HE.out)
                clear hx hx' h0
                go_upto_region 22 with fail
                refine wp_region_lit ?_
                refine wpList_valn rfl (exec_mv rfl (ev rfl)) ?_
                simp only [Act.put, List.setIfInBounds_toArray, List.set_cons_succ, List.set_cons_zero]
                refine wpList_valn rfl (exec_mv rfl (ev rfl)) ?_
                simp only [Act.put, List.setIfInBounds_toArray, List.set_cons_succ, List.set_cons_zero]
                refine wpList_valn rfl (exec_lenU rfl (ev rfl)) ?_
                simp only [Act.put, List.setIfInBounds_toArray, List.set_cons_succ, List.set_cons_zero]
                refine wpList_valn (v := .bool true) rfl (exec_lss true rfl (ev rfl) (ev rfl) HD1.out) ?_
                simp only [Act.put, List.setIfInBounds_toArray, List.set_cons_succ, List.set_cons_zero]
                refine wpList_nil ?_
                go_upto_region 24 with fail
                refine wp_region_lit ?_
                refine wpList_valn rfl (exec_mv rfl (ev rfl)) ?_
                simp only [Act.put, List.setIfInBounds_toArray, List.set_cons_succ, List.set_cons_zero]
                refine wpList_valn rfl (exec_mv rfl (ev rfl)) ?_
                simp only [Act.put, List.setIfInBounds_toArray, List.set_cons_succ, List.set_cons_zero]
                refine wpList_valn rfl (exec_ix rfl (ev rfl) (ev rfl) (ixU HLT.out)) ?_
                simp only [Act.put, List.setIfInBounds_toArray, List.set_cons_succ, List.set_cons_zero]
                refine wpList_valn rfl (exec_ld rfl (ev rfl) (ldU8 HCX.out)) ?_
                simp only [Act.put, List.setIfInBounds_toArray, List.set_cons_succ, List.set_cons_zero]
                refine wpList_valn (v := .bool true) rfl (exec_neInt true rfl (ev rfl) evk HD2.out) ?_
                simp only [Act.put, List.setIfInBounds_toArray, List.set_cons_succ, List.set_cons_zero]
                refine wpList_nil ?_
                go_upto_region 25 with fail
                refine wp_region_lit ?_
                refine wpList_valn rfl (exec_as rfl evk) ?_
                simp only [Act.put, List.setIfInBounds_toArray, List.set_cons_succ, List.set_cons_zero]
                refine wpList_valn rfl (exec_as rfl evk) ?_
                simp only [Act.put, List.setIfInBounds_toArray, List.set_cons_succ, List.set_cons_zero]
                refine wpList_nil ?_
                go_wp2_with fail
                go_ret2
                exact ⟨_, by rw [HE.out]; rfl, by rw [HC.out]; exact MadeE.nil _ _, HBF.out⟩
            · have HE := Lib.hid (HFN.out HJ.out (fun r h3 h4 => HZ.out r h3 (by omega)))
              have HC := Lib.hid (HCO.out HE.out)
              have HMF := Lib.hid (MadeE.base HMD.out HBB.out)
              have HD1 : Hid (decide ((j : Int) < ((64 * h : Nat) : Int)) = false) := Lib.hid (decide_eq_false (by omega))
              clear hlt hj1 hj2
              go_upto_region 22 with fail
              refine wp_region_lit ?_
              refine wpList_valn rfl (exec_mv rfl (ev rfl)) ?_
              simp only [Act.put, List.setIfInBounds_toArray, List.set_cons_succ, List.set_cons_zero]
              refine wpList_valn rfl (exec_mv rfl (ev rfl)) ?_
              simp only [Act.put, List.setIfInBounds_toArray, List.set_cons_succ, List.set_cons_zero]
              refine wpList_valn rfl (exec_lenU rfl (ev rfl)) ?_
              simp only [Act.put, List.setIfInBounds_toArray, List.set_cons_succ, List.set_cons_zero]
              refine wpList_valn (v := .bool false) rfl (exec_lss false rfl (ev rfl) (ev rfl) HD1.out) ?_
              simp only [Act.put, List.setIfInBounds_toArray, List.set_cons_succ, List.set_cons_zero]
              refine wpList_nil ?_
              go_upto_region 26 with fail
              refine wp_region_lit ?_
              refine wpList_valn rfl (exec_mv rfl (ev rfl)) ?_
              simp only [Act.put, List.setIfInBounds_toArray, List.set_cons_succ, List.set_cons_zero]
              refine wpList_valn rfl (exec_as rfl (ev rfl)) ?_
              simp only [Act.put, List.setIfInBounds_toArray, List.set_cons_succ, List.set_cons_zero]
              refine wpList_valn rfl (exec_as rfl evk) ?_
              simp only [Act.put, List.setIfInBounds_toArray, List.set_cons_succ, List.set_cons_zero]
              refine wpList_nil ?_
              go_wp2_with fail
              go_ret2
              exact ⟨_, by rw [HE.out]; rfl, by rw [HC.out]; exact HMF.out, HBF.out⟩
theorem rcget (A : Option Addr) (m c N B : Nat) (l : List Blk) (n : Int) (w : World) (HB : Hid (B = w.heap.size)) (hl : RdB w N A m l) (hN : N ≤ B) (hx : m ≤ maxLen) :
    Calls Tryd.prog 8 #[.slice A m c, .int .i64 n] w fun e w' => ∃ v, e = .returned (.tuple #[v, .int .i64 (rgE l n : Nat)]) ∧ MadeE CellE w' B v (rgC l n) ∧ Below B w w' := by
  by_cases hno : sizN n = 0 ∨ m ≠ sizN n
  · exact rcget_no A m c N B l n w HB hl hx hno
  · have h0 : sizN n ≠ 0 := fun e => hno (.inl e)
    have h2 : m = sizN n := Classical.byContradiction fun e => hno (.inr e)
    obtain ⟨k, rfl, h3, h4⟩ := of_sizN h0
    rw [sizN_of h3 h4] at h2
    obtain ⟨b, off, rfl, _⟩ := hl.2 0 (by omega)
    exact rcget_at b off m c N B l k w HB hl hN h3 h4 h2
end Go.Proofs.YtfemlaombdeebaaDoor
