import Derived.Test.YtcafafdimcecpaaGreatDoorLsaz
import Derived.Test.YtcafafdimcecpaaGreatDoorLsZ
namespace Go.Proofs.YtcafafdimcecpaaGreatDoor
open Go.RowKit
set_option linter.unusedVariables false
set_option linter.unusedSimpArgs false
set_option maxRecDepth 100000
theorem exec_cv8I {ρ : Operand → Value} {o : Oper} {x : Operand} {w : World} {n : Nat} (ho : o.op = .convert 5 3 x) (hx : ρ x = .int .u8 (n : Int)) (hn : n < 256) : (execOp ρ o).run Tryz.prog w = .ok (.value (.int .i64 (n : Int))) w := by
  have h : IntKind.i64.wrap (n : Int) = (n : Int) := i64w ⟨by omega, by omega⟩
  have hc : (convert 5 3 (.int .u8 (n : Int))).run Tryz.prog w = .ok (.int .i64 (n : Int)) w := by simp [convert, go_sem, h]
  unfold execOp
  simp only [ho, hx, Sem.run_bind, hc, Result.andThen_ok, Sem.run_pure]
theorem exec_cv16I {ρ : Operand → Value} {o : Oper} {x : Operand} {w : World} {n : Nat} (ho : o.op = .convert 22 3 x) (hx : ρ x = .int .u16 (n : Int)) (hn : n < 65536) : (execOp ρ o).run Tryz.prog w = .ok (.value (.int .i64 (n : Int))) w := by
  have h : IntKind.i64.wrap (n : Int) = (n : Int) := i64w ⟨by omega, by omega⟩
  have hc : (convert 22 3 (.int .u16 (n : Int))).run Tryz.prog w = .ok (.int .i64 (n : Int)) w := by simp [convert, go_sem, h]
  unfold execOp
  simp only [ho, hx, Sem.run_bind, hc, Result.andThen_ok, Sem.run_pure]
set_option maxHeartbeats 6000000 in
theorem wspoilt_ (s1 s2 : Nat) (u : UInt8) (A0 : Option Addr) (n0 c0 : Nat) (l0 : List Sl14) (w : World) (T : Tbs w) (h1 : s1 < 256) (h2 : s2 < 65536) (rd : RdE bx w w.heap.size A0 n0 l0) (hn : n0 ≤ maxLen) (hin : ∀ k, k < n0 → ClsIn w (l0.getD k bx.d).A (l0.getD k bx.d).n (l0.getD k bx.d).c) :
    Calls Tryz.prog 7 #[.slice A0 n0 c0, .int .u8 s1, .int .u16 s2, .int .u8 (u.toNat : Int)] w fun e w' => e = .returned (.bool true) ∧ Below w.heap.size w w' := by
  have HT := Lib.hid T
  have H1 := Lib.hid h1
  have H2 := Lib.hid h2
  have HRD := Lib.hid rd
  have HIN := Lib.hid hin
  clear T h1 h2 rd hin
  go_enter Tryz.func7, Tryz.ntmps7
  go_upto_region 1 with fail
  refine wp_region_lit ?_
  refine ao rfl (aq Tryz.call14 rfl (evc evk evn)) ?_
  refine (plaid theLog 200 w HT.out (by omega)).mono ?_
  rintro e w1 hl
  obtain ⟨q, p, rfl, hs⟩ := hl.sps
  have HS := Lib.hid hs
  clear hl hs
  refine ⟨_, rfl, ?_⟩
  simp only [Act.put, aa, ae, af]
  refine ag rfl (ah rfl (ev rfl)) ?_
  simp only [Act.put, aa, ae, af]
  refine ag rfl (aC rfl (ev rfl) rfl) ?_
  simp only [Act.put, aa, ae, af]
  refine ag rfl (aC rfl (ev rfl) rfl) ?_
  simp only [Act.put, aa, ae, af]
  refine ag rfl (aC rfl (ev rfl) rfl) ?_
  simp only [Act.put, aa, ae, af]
  refine ag rfl (ar rfl (ev rfl)) ?_
  simp only [Act.put, aa, ae, af]
  refine ag rfl (ar rfl (ev rfl)) ?_
  simp only [Act.put, aa, ae, af]
  refine ag rfl (ar rfl (ev rfl)) ?_
  simp only [Act.put, aa, ae, af]
  refine wpList_nil ?_
  obtain ⟨x0, hx0⟩ : ∃ x0, layX 0 7 ((40 + 200 % 216 : Nat) : Int) = x0 := ⟨_, rfl⟩
  rw [hx0] at HS
  clear hx0
  go_wp2_with fail
  go_loopw [12, 13] (fun v i wr => ∃ (j : Nat) (x : LgS) (L : List (List Cl)) (K : Nat → Prop) (ss : List Sl14), i = .int .i64 j ∧ j ≤ 8 ∧ SpS w K wr q p j x L ∧ AllAt w.heap.size wr K v L ss) (fun _ i _ => 8 - (intOf i).toNat)
  case atStart => exact ⟨0, x0, [], _, [], by go_num, by omega, HS.out, AllAt.nil _ _⟩
  case round =>
    clear HS
    obtain ⟨j, x, L, K, ss, rfl, hj, hs, ha⟩ := hrel
    have HJ : Hid (j ≤ 1000) := Lib.hid (by omega)
    by_cases hlt : j < n0
    rotate_left 1
    · have HL : Hid (decide ((j : Int) < (n0 : Int)) = false) := Lib.hid (decide_eq_false (by omega))
      have HS := Lib.hid hs
      have HA := Lib.hid ha
      clear hs ha hlt
      go_upto_region 6 with fail
      refine wp_region_lit ?_
      refine ag rfl (ah rfl (ev rfl)) ?_
      simp only [Act.put, aa, ae, af]
      refine ag rfl (ah rfl (ev rfl)) ?_
      simp only [Act.put, aa, ae, af]
      refine ag rfl (a8 Tryz.underlying46 rfl (ev rfl)) ?_
      simp only [Act.put, aa, ae, af]
      refine ag (v := .bool false) rfl (bn false rfl (ev rfl) (ev rfl) HL.out) ?_
      simp only [Act.put, aa, ae, af]
      refine aV 2 (v := .bool false) rfl (ah rfl (ev rfl)) (by kernel_rfl) ?_
      simp only [br, List.take_succ_cons, List.take_zero, List.drop_succ_cons, List.drop_zero, Act.put, List.setIfInBounds_toArray, List.set_cons_succ, List.set_cons_zero]
      refine ag (v := .bool false) rfl (aQ rfl (ev rfl) evk) ?_
      simp only [Act.put, aa, ae, af]
      refine wpList_nil ?_
      have HE8 := Lib.hid HS.out.eight
      obtain ⟨Av, cv, rfl, _⟩ := HA.out.all.open_ HA.out.len
      by_cases hl0 : L.length = 0
      · have HZ : Hid (((L.length : Int) == 0) = true) := Lib.hid (by rw [hl0]; rfl)
        clear hl0
        go_upto_region 11 with fail
        refine wp_region_lit ?_
        refine ag rfl (ah rfl (ev rfl)) ?_
        simp only [Act.put, aa, ae, af]
        refine ag rfl (a8 Tryz.underlying46 rfl (ev rfl)) ?_
        simp only [Act.put, aa, ae, af]
        refine ag (v := .bool true) rfl (aG true rfl (ev rfl) evk HZ.out) ?_
        simp only [Act.put, aa, ae, af]
        refine wpList_nil ?_
        go_upto_region 12 with fail
        refine wp_region_lit ?_
        refine ao rfl (aq Tryz.call13 rfl evn) ?_
        refine (llives theLog _ (HT.out.below HS.out.bel)).mono ?_
        rintro e wz ⟨rfl, hb⟩
        have HB := Lib.hid (HS.out.bel.trans (hb.mono HS.out.bel.size))
        clear hb
        refine ⟨_, rfl, ?_⟩
        simp only [Act.put, aa, ae, af]
        refine ag rfl (ar rfl (ev rfl)) ?_
        simp only [Act.put, aa, ae, af]
        refine wpList_nil ?_
        go_wp2_with fail
        go_ret
        exact ⟨rfl, HB.out⟩
      have HZ : Hid (((L.length : Int) == 0) = false) := Lib.hid (by rw [beq_eq_false_iff_ne]; omega)
      have HL0 : Hid (0 < L.length) := Lib.hid (by omega)
      obtain ⟨kk, hkk⟩ : ∃ kk, s1 % L.length = kk := ⟨_, rfl⟩
      have HK : Hid (kk < L.length) := Lib.hid (by rw [← hkk]; exact Nat.mod_lt _ HL0.out)
      have HKM : Hid ((s1 : Int).tmod (L.length : Int) = (kk : Int)) := Lib.hid (by rw [← hkk]; rfl)
      have HLI : Hid ((L.length : Int) ≠ 0) := Lib.hid (by have := HL0.out; omega)
      obtain ⟨g, cg, heq⟩ : ∃ g c, Value.slice Av L.length cv = .slice (some ⟨g, 0, none⟩) L.length c := by
        obtain ⟨g, c, _, e, _⟩ := HA.out.get HL0.out
        exact ⟨g, c, e⟩
      cases heq
      clear hl0 hkk
      go_upto_region 11 with fail
      refine wp_region_lit ?_
      refine ag rfl (ah rfl (ev rfl)) ?_
      simp only [Act.put, aa, ae, af]
      refine ag rfl (a8 Tryz.underlying46 rfl (ev rfl)) ?_
      simp only [Act.put, aa, ae, af]
      refine ag (v := .bool false) rfl (aG false rfl (ev rfl) evk HZ.out) ?_
      simp only [Act.put, aa, ae, af]
      refine wpList_nil ?_
      go_upto_region 13 with fail
      refine wp_region_lit ?_
      refine ag rfl (ah rfl (ev rfl)) ?_
      simp only [Act.put, aa, ae, af]
      refine ag rfl (exec_cv8I rfl (ev rfl) H1.out) ?_
      simp only [Act.put, aa, ae, af]
      refine ag rfl (ah rfl (ev rfl)) ?_
      simp only [Act.put, aa, ae, af]
      refine ag rfl (a8 Tryz.underlying46 rfl (ev rfl)) ?_
      simp only [Act.put, aa, ae, af]
      refine ag rfl (fB rfl (ev rfl) (ev rfl) HLI.out HKM.out) ?_
      simp only [Act.put, aa, ae, af]
      refine ag rfl (ar rfl (ev rfl)) ?_
      simp only [Act.put, aa, ae, af]
      refine wpList_nil ?_
      go_wp2_with fail
      go_loopw [17, 18] (fun f i wz => ∃ t : Nat, t ≤ kk ∧ i = .int .i64 t ∧ f = .int .i64 ((10 + usd (x.nts.take t) : Nat) : Int) ∧ wz = wr) (fun _ i _ => kk - (intOf i).toNat)
      case atStart => exact ⟨0, by omega, by go_num, by simp [usd], rfl⟩
      case round =>
        obtain ⟨t, ht, rfl, rfl, rfl⟩ := hrel
        by_cases hlt : t < kk
        · have HLT : Hid (decide ((t : Int) < (kk : Int)) = true) := Lib.hid (decide_eq_true (by omega))
          have HTL : Hid (t < L.length) := Lib.hid (by have := HK.out; omega)
          obtain ⟨g2, c2, s, heq, hce, hsn, _⟩ := HA.out.get HTL.out
          cases heq
          have HCE := Lib.hid hce
          obtain ⟨t1, t2, t3, t4, t5, t6⟩ := HS.out.tak HTL.out
          have hul := HS.out.usd_le (i := t) (by have := HTL.out; omega)
          have HSZ : Hid (sizN (s.n : Int) = aN (x.nts.getD t aB)) := Lib.hid (by rw [hsn]; exact t1.symm)
          have HAD : Hid (IntKind.i64.wrap (((10 + usd (x.nts.take t) : Nat) : Int) + (aN (x.nts.getD t aB) : Int)) = ((10 + usd (x.nts.take (t + 1)) : Nat) : Int)) := Lib.hid (by rw [i64w ⟨by omega, by omega⟩]; omega)
          clear hce hsn t1 t2 t3 t4 t5 t6 hul
          go_upto_region 16 with fail
          refine wp_region_lit ?_
          refine ag rfl (ah rfl (ev rfl)) ?_
          simp only [Act.put, aa, ae, af]
          refine ag rfl (ah rfl (ev rfl)) ?_
          simp only [Act.put, aa, ae, af]
          refine ag (v := .bool true) rfl (bn true rfl (ev rfl) (ev rfl) HLT.out) ?_
          simp only [Act.put, aa, ae, af]
          refine wpList_nil ?_
          go_upto_region 18 with fail
          refine wp_region_lit ?_
          refine ag rfl (ah rfl (ev rfl)) ?_
          simp only [Act.put, aa, ae, af]
          refine ag rfl (ah rfl (ev rfl)) ?_
          simp only [Act.put, aa, ae, af]
          refine ag rfl (ah rfl (ev rfl)) ?_
          simp only [Act.put, aa, ae, af]
          refine ag rfl (bX (E := bx) rfl (ev rfl) (ev rfl) HTL.out) ?_
          simp only [Act.put, aa, ae, af]
          refine ag rfl (au rfl (ev rfl) (ldClsA (by rw [show t * bx.n = t from Nat.mul_one t]; exact HCE.out))) ?_
          simp only [Act.put, aa, ae, af]
          refine ag rfl (a8 Tryz.underlying34 rfl (ev rfl)) ?_
          simp only [Act.put, aa, ae, af]
          refine ao rfl (aq Tryz.call33 rfl (evc (ev rfl) evn)) ?_
          refine (rsize (s.n : Int) _).mono ?_
          rintro e w' ⟨rfl, rfl⟩
          rw [HSZ.out]
          refine ⟨_, rfl, ?_⟩
          simp only [Act.put, aa, ae, af]
          refine ag rfl (dL rfl (ev rfl) (ev rfl) HAD.out) ?_
          simp only [Act.put, aa, ae, af]
          refine ag rfl (ar rfl (ev rfl)) ?_
          simp only [Act.put, aa, ae, af]
          refine wpList_nil ?_
          have ht8 : t ≤ 8 := by have := HE8.out; have := HTL.out; omega
          go_wp2_with fail
          go_roundw
          case rel => exact ⟨t + 1, by omega, by go_num, by first | exact ⟨rfl, rfl⟩ | exact ⟨rfl, trivial⟩ | simp⟩
          case measure => simp [intOf]; omega
        have htk : t = kk := by omega
        subst htk
        have HLT : Hid (decide ((t : Int) < (t : Int)) = false) := Lib.hid (decide_eq_false (by omega))
        clear ht hlt
        obtain ⟨g2, c2, s, heq, hce, hsn, _⟩ := HA.out.get HK.out
        cases heq
        have HCE := Lib.hid hce
        obtain ⟨t1, t2, t3, t4, t5, t6⟩ := HS.out.tak HK.out
        have hul := HS.out.usd_le (i := t) (by have := HK.out; omega)
        have HSZ : Hid (sizN (s.n : Int) = aN (x.nts.getD t aB)) := Lib.hid (by rw [hsn]; exact t1.symm)
        obtain ⟨nt, hnt⟩ : ∃ nt, aN (x.nts.getD t aB) = nt := ⟨_, rfl⟩
        rw [hnt] at HSZ t4 t5
        obtain ⟨r, hr⟩ : ∃ r, s2 % nt = r := ⟨_, rfl⟩
        have hrl : r < nt := by rw [← hr]; exact Nat.mod_lt _ (by omega)
        have HRL : Hid (r < aN (x.nts.getD t aB)) := Lib.hid (by rw [hnt]; exact hrl)
        have HRM : Hid ((s2 : Int).tmod (nt : Int) = (r : Int)) := Lib.hid (by rw [← hr]; rfl)
        have HNZ : Hid ((nt : Int) ≠ 0) := Lib.hid (by omega)
        have HAD : Hid (IntKind.i64.wrap (((10 + usd (x.nts.take t) : Nat) : Int) + (r : Int)) = ((10 + usd (x.nts.take t) + r : Nat) : Int)) := Lib.hid (by rw [i64w ⟨by omega, by omega⟩]; omega)
        have HBM : Hid ((s2 : Int).tmod 64 = ((s2 % 64 : Nat) : Int)) := Lib.hid rfl
        have HBL : Hid (s2 % 64 < 64) := Lib.hid (Nat.mod_lt _ (by omega))
        clear hce hsn t1 t2 t3 t4 t5 t6 hul hr hrl hnt
        obtain ⟨sb, hsb⟩ : ∃ sb, s2 % 64 = sb := ⟨_, rfl⟩
        rw [hsb] at HBM HBL
        clear hsb
        go_upto_region 16 with fail
        refine wp_region_lit ?_
        refine ag rfl (ah rfl (ev rfl)) ?_
        simp only [Act.put, aa, ae, af]
        refine ag rfl (ah rfl (ev rfl)) ?_
        simp only [Act.put, aa, ae, af]
        refine ag (v := .bool false) rfl (bn false rfl (ev rfl) (ev rfl) HLT.out) ?_
        simp only [Act.put, aa, ae, af]
        refine wpList_nil ?_
        go_upto_region 19 with fail
        refine wp_region_lit ?_
        refine ag rfl (ah rfl (ev rfl)) ?_
        simp only [Act.put, aa, ae, af]
        refine ag rfl (ah rfl (ev rfl)) ?_
        simp only [Act.put, aa, ae, af]
        refine ag rfl (bX (E := bx) rfl (ev rfl) (ev rfl) HK.out) ?_
        simp only [Act.put, aa, ae, af]
        refine ag rfl (au rfl (ev rfl) (ldClsA (by rw [show t * bx.n = t from Nat.mul_one t]; exact HCE.out))) ?_
        simp only [Act.put, aa, ae, af]
        refine ag rfl (a8 Tryz.underlying34 rfl (ev rfl)) ?_
        simp only [Act.put, aa, ae, af]
        refine ao rfl (aq Tryz.call33 rfl (evc (ev rfl) evn)) ?_
        refine (rsize (s.n : Int) _).mono ?_
        rintro e w' ⟨rfl, rfl⟩
        rw [HSZ.out]
        refine ⟨_, rfl, ?_⟩
        simp only [Act.put, aa, ae, af]
        refine ag rfl (ar rfl (ev rfl)) ?_
        simp only [Act.put, aa, ae, af]
        refine wpList_nil ?_
        go_upto_region 20 with fail
        refine wp_region_lit ?_
        refine ag rfl (ah rfl (ev rfl)) ?_
        simp only [Act.put, aa, ae, af]
        refine ag rfl (ah rfl (ev rfl)) ?_
        simp only [Act.put, aa, ae, af]
        refine ag rfl (ah rfl (ev rfl)) ?_
        simp only [Act.put, aa, ae, af]
        refine ag rfl (exec_cv16I rfl (ev rfl) H2.out) ?_
        simp only [Act.put, aa, ae, af]
        refine ag rfl (ah rfl (ev rfl)) ?_
        simp only [Act.put, aa, ae, af]
        refine ag rfl (fB rfl (ev rfl) (ev rfl) HNZ.out HRM.out) ?_
        simp only [Act.put, aa, ae, af]
        refine ag rfl (dL rfl (ev rfl) (ev rfl) HAD.out) ?_
        simp only [Act.put, aa, ae, af]
        refine ag rfl (ah rfl (ev rfl)) ?_
        simp only [Act.put, aa, ae, af]
        refine ag rfl (exec_cv16I rfl (ev rfl) H2.out) ?_
        simp only [Act.put, aa, ae, af]
        refine ag rfl (fB rfl (ev rfl) evk (by decide) HBM.out) ?_
        simp only [Act.put, aa, ae, af]
        refine ag rfl (ah rfl (ev rfl)) ?_
        simp only [Act.put, aa, ae, af]
        refine ao rfl (aq Tryz.call34 rfl (evc (ev rfl) (evc evk (evc (ev rfl) (evc (ev rfl) (evc (ev rfl) evn)))))) ?_
        refine (HS.out.rot HK.out HRL.out HBL.out u).mono ?_
        rintro e w2 ⟨rfl, hr, hk⟩
        have HR := Lib.hid hr
        have HA2 := Lib.hid (HA.out.kept hk)
        clear HA hr hk HS HCE
        refine ⟨_, rfl, ?_⟩
        simp only [Act.put, aa, ae, af]
        refine ag (v := .bool false) rfl (aY false rfl (ev rfl) evk rfl) ?_
        simp only [Act.put, aa, ae, af]
        refine wpList_nil ?_
        go_wp2_with fail
        go_loopw [20] (fun i wz => ∃ i_ : Nat, i_ ≤ L.length ∧ i = .int .i64 i_ ∧ RotS w K wz q p x L t u ∧ AllAt w.heap.size wz K (.slice (some ⟨g, 0, none⟩) L.length cv) L ss) (fun i _ => L.length - (intOf i).toNat)
        case atStart => exact ⟨0, by omega, by go_num, HR.out, HA2.out⟩
        case round =>
          clear HR HA2
          obtain ⟨i_, hi, rfl, hs, ha⟩ := hrel
          have HS := Lib.hid hs
          have HA := Lib.hid ha
          clear hs ha
          by_cases hlt : i_ < L.length
          rotate_left 1
          · have HLT2 : Hid (decide ((i_ : Int) < (L.length : Int)) = false) := Lib.hid (decide_eq_false (by omega))
            clear hlt hi
            go_upto_region 23 with fail
            refine wp_region_lit ?_
            refine ag rfl (ah rfl (ev rfl)) ?_
            simp only [Act.put, aa, ae, af]
            refine ag rfl (ah rfl (ev rfl)) ?_
            simp only [Act.put, aa, ae, af]
            refine ag rfl (a8 Tryz.underlying46 rfl (ev rfl)) ?_
            simp only [Act.put, aa, ae, af]
            refine ag (v := .bool false) rfl (bn false rfl (ev rfl) (ev rfl) HLT2.out) ?_
            simp only [Act.put, aa, ae, af]
            refine wpList_nil ?_
            go_upto_region 31 with fail
            refine wp_region_lit ?_
            refine ao rfl (aq Tryz.call13 rfl evn) ?_
            refine (llives theLog _ (HT.out.below HS.out.bel)).mono ?_
            rintro e wz ⟨rfl, hb⟩
            have HB := Lib.hid (HS.out.bel.trans (hb.mono HS.out.bel.size))
            clear hb
            refine ⟨_, rfl, ?_⟩
            simp only [Act.put, aa, ae, af]
            refine ag rfl (ar rfl (ev rfl)) ?_
            simp only [Act.put, aa, ae, af]
            refine wpList_nil ?_
            go_wp2_with fail
            go_ret
            exact ⟨rfl, HB.out⟩
          have HLT2 : Hid (decide ((i_ : Int) < (L.length : Int)) = true) := Lib.hid (decide_eq_true (by omega))
          have HIL : Hid (i_ < L.length) := Lib.hid hlt
          have HAU : Hid (IntKind.u64.wrap ((i_ : Int) + 1) = ((i_ + 1 : Nat) : Int)) := Lib.hid (u64w (a := i_ + 1) (by have := HE8.out; omega))
          go_upto_region 23 with fail
          refine wp_region_lit ?_
          refine ag rfl (ah rfl (ev rfl)) ?_
          simp only [Act.put, aa, ae, af]
          refine ag rfl (ah rfl (ev rfl)) ?_
          simp only [Act.put, aa, ae, af]
          refine ag rfl (a8 Tryz.underlying46 rfl (ev rfl)) ?_
          simp only [Act.put, aa, ae, af]
          refine ag (v := .bool true) rfl (bn true rfl (ev rfl) (ev rfl) HLT2.out) ?_
          simp only [Act.put, aa, ae, af]
          refine wpList_nil ?_
          go_upto_region 25 with fail
          refine wp_region_lit ?_
          refine ag rfl (ah rfl (ev rfl)) ?_
          simp only [Act.put, aa, ae, af]
          refine ag rfl (ah rfl (ev rfl)) ?_
          simp only [Act.put, aa, ae, af]
          refine ag rfl (exec_cvIU rfl (ev rfl) (by have := HE8.out; omega)) ?_
          simp only [Act.put, aa, ae, af]
          refine ag rfl (exec_adU rfl (ev rfl) evk HAU.out) ?_
          simp only [Act.put, aa, ae, af]
          refine ao rfl (aq Tryz.call24 rfl (evc (ev rfl) (evc (ev rfl) evn))) ?_
          refine (HS.out.rec_ i_ HIL.out (by have := HE8.out; omega)).mono ?_
          rintro e w4 ⟨Ar, nr, cr, lr, E, rfl, hrr, hnr, hb, hsp, hot⟩
          have HS4 := Lib.hid (HS.out.below hb)
          have HA4 := Lib.hid (HA.out.below hb)
          have HRR := Lib.hid hrr
          have HNR := Lib.hid hnr
          have HSP := Lib.hid hsp
          have HOT := Lib.hid hot
          clear HS HA hb hrr hnr hsp hot
          refine ⟨_, rfl, ?_⟩
          simp only [Act.put, aa, ae, af]
          refine ag rfl (ah rfl (ev rfl)) ?_
          simp only [Act.put, aa, ae, af]
          refine ag rfl (aC rfl (ev rfl) rfl) ?_
          simp only [Act.put, aa, ae, af]
          refine ag rfl (aC rfl (ev rfl) rfl) ?_
          simp only [Act.put, aa, ae, af]
          refine ag rfl (ar rfl (ev rfl)) ?_
          simp only [Act.put, aa, ae, af]
          refine ag rfl (ar rfl (ev rfl)) ?_
          simp only [Act.put, aa, ae, af]
          refine wpList_nil ?_
          by_cases hik : i_ = t
          · have HEQ : Hid (((i_ : Int) == (t : Int)) = true) := Lib.hid (by rw [hik]; exact beq_self_eq_true _)
            by_cases hu : u.toNat = 0
            · have HNU : Hid (((u.toNat : Int) != 0) = false) := Lib.hid (by rw [hu]; rfl)
              have HOR : Hid (i_ ≠ t ∨ u.toNat = 0) := Lib.hid (.inr hu)
              clear hu hik
              go_upto_region 26 with fail
              refine wp_region_lit ?_
              refine ag rfl (ah rfl (ev rfl)) ?_
              simp only [Act.put, aa, ae, af]
              refine ag rfl (ah rfl (ev rfl)) ?_
              simp only [Act.put, aa, ae, af]
              refine ag (v := .bool true) rfl (aG true rfl (ev rfl) (ev rfl) HEQ.out) ?_
              simp only [Act.put, aa, ae, af]
              refine ag (v := .bool true) rfl (ah rfl (ev rfl)) ?_
              simp only [Act.put, aa, ae, af]
              refine ai (aj rfl rfl rfl rfl) (ah rfl (ev rfl)) ?_
              simp only [Act.put, aa, ae, af]
              refine ai (v := .bool false) (aj rfl rfl rfl rfl) (aY false rfl (ev rfl) evk HNU.out) ?_
              simp only [Act.put, aa, ae, af]
              refine ag (v := .bool false) rfl (aM rfl (ev rfl) (ev rfl)) ?_
              simp only [Act.put, aa, ae, af]
              refine wpList_nil ?_
              obtain ⟨rfl, hl⟩ := HOT.out HOR.out
              have HLR := Lib.hid hl
              obtain ⟨g2, c2, s, heq, hce, hsn, hrd⟩ := HA4.out.get HIL.out
              cases heq
              have HCE := Lib.hid hce
              have HSD := Lib.hid hrd
              clear hl hce hsn hrd
              go_upto_region 29 with fail
              refine wp_region_lit ?_
              refine ag rfl (ah rfl (ev rfl)) ?_
              simp only [Act.put, aa, ae, af]
              refine ag (v := .bool false) rfl (aY false rfl (ev rfl) evk rfl) ?_
              simp only [Act.put, aa, ae, af]
              refine ag (v := .bool false) rfl (ah rfl (ev rfl)) ?_
              simp only [Act.put, aa, ae, af]
              refine ai (aj rfl rfl rfl rfl) (ah rfl (ev rfl)) ?_
              simp only [Act.put, aa, ae, af]
              refine ai (aj rfl rfl rfl rfl) (ah rfl (ev rfl)) ?_
              simp only [Act.put, aa, ae, af]
              refine ai (aj rfl rfl rfl rfl) (ah rfl (ev rfl)) ?_
              simp only [Act.put, aa, ae, af]
              refine ai (aj rfl rfl rfl rfl) (bX (E := bx) rfl (ev rfl) (ev rfl) HIL.out) ?_
              simp only [Act.put, aa, ae, af]
              refine ai (aj rfl rfl rfl rfl) (au rfl (ev rfl) (ldClsA (by rw [show i_ * bx.n = i_ from Nat.mul_one i_]; exact HCE.out))) ?_
              simp only [Act.put, aa, ae, af]
              refine ao (aj rfl rfl rfl rfl) (aq Tryz.call25 rfl (evc (ev rfl) (evc (ev rfl) evn))) ?_
              refine (cells_any Ar s.A nr s.n cr s.c _ lr _ _ HRR.out HSD.out (Nat.le_refl _) HNR.out).mono ?_
              rintro e w6 ⟨rfl, hb⟩
              rw [HLR.out, decide_eq_true rfl]
              have HS6 := Lib.hid (HS4.out.below hb)
              have HA6 := Lib.hid (HA4.out.below hb)
              clear hb HS4 HA4
              refine ⟨_, rfl, ?_⟩
              simp only [Act.put, aa, ae, af]
              refine ai (v := .bool false) (aj rfl rfl rfl rfl) (aX true rfl (ev rfl)) ?_
              simp only [Act.put, aa, ae, af]
              refine ag (v := .bool false) rfl (aQ rfl (ev rfl) (ev rfl)) ?_
              simp only [Act.put, aa, ae, af]
              refine wpList_nil ?_
              have hi8 : i_ < L.length := HIL.out
              have hi9 : L.length ≤ 8 := HE8.out
              go_wp2_with fail
              go_roundw
              case rel => exact ⟨i_ + 1, by omega, by go_num, HS6.out, HA6.out⟩
              case measure => simp [intOf]; omega
            · have HNU : Hid (((u.toNat : Int) != 0) = true) := Lib.hid (by rw [bne_iff_ne]; omega)
              obtain ⟨rfl, rfl⟩ := HSP.out hik hu
              clear hu hik
              go_upto_region 26 with fail
              refine wp_region_lit ?_
              refine ag rfl (ah rfl (ev rfl)) ?_
              simp only [Act.put, aa, ae, af]
              refine ag rfl (ah rfl (ev rfl)) ?_
              simp only [Act.put, aa, ae, af]
              refine ag (v := .bool true) rfl (aG true rfl (ev rfl) (ev rfl) HEQ.out) ?_
              simp only [Act.put, aa, ae, af]
              refine ag (v := .bool true) rfl (ah rfl (ev rfl)) ?_
              simp only [Act.put, aa, ae, af]
              refine ai (aj rfl rfl rfl rfl) (ah rfl (ev rfl)) ?_
              simp only [Act.put, aa, ae, af]
              refine ai (v := .bool true) (aj rfl rfl rfl rfl) (aY true rfl (ev rfl) evk HNU.out) ?_
              simp only [Act.put, aa, ae, af]
              refine ag (v := .bool true) rfl (aM rfl (ev rfl) (ev rfl)) ?_
              simp only [Act.put, aa, ae, af]
              refine wpList_nil ?_
              go_upto_region 27 with fail
              refine wp_region_lit ?_
              refine ag rfl (ah rfl (ev rfl)) ?_
              simp only [Act.put, aa, ae, af]
              refine ag (v := .bool false) rfl (aY false rfl (ev rfl) evk rfl) ?_
              simp only [Act.put, aa, ae, af]
              refine ag (v := .bool false) rfl (ah rfl (ev rfl)) ?_
              simp only [Act.put, aa, ae, af]
              refine ai (aj rfl rfl rfl rfl) (ah rfl (ev rfl)) ?_
              simp only [Act.put, aa, ae, af]
              refine ai (aj rfl rfl rfl rfl) (a8 Tryz.underlying34 rfl (ev rfl)) ?_
              simp only [Act.put, aa, ae, af]
              refine ai (v := .bool false) (aj rfl rfl rfl rfl) (aY false rfl (ev rfl) evk rfl) ?_
              simp only [Act.put, aa, ae, af]
              refine ag (v := .bool false) rfl (aQ rfl (ev rfl) (ev rfl)) ?_
              simp only [Act.put, aa, ae, af]
              refine wpList_nil ?_
              have hi8 : i_ < L.length := HIL.out
              have hi9 : L.length ≤ 8 := HE8.out
              go_wp2_with fail
              go_roundw
              case rel => exact ⟨i_ + 1, by omega, by go_num, HS4.out, HA4.out⟩
              case measure => simp [intOf]; omega
          · have HEQ : Hid (((i_ : Int) == (t : Int)) = false) := Lib.hid (by rw [beq_eq_false_iff_ne]; omega)
            have HOR : Hid (i_ ≠ t ∨ u.toNat = 0) := Lib.hid (.inl hik)
            clear hik
            go_upto_region 26 with fail
            refine wp_region_lit ?_
            refine ag rfl (ah rfl (ev rfl)) ?_
            simp only [Act.put, aa, ae, af]
            refine ag rfl (ah rfl (ev rfl)) ?_
            simp only [Act.put, aa, ae, af]
            refine ag (v := .bool false) rfl (aG false rfl (ev rfl) (ev rfl) HEQ.out) ?_
            simp only [Act.put, aa, ae, af]
            refine aV 2 (v := .bool false) rfl (ah rfl (ev rfl)) (by kernel_rfl) ?_
            simp only [br, List.take_succ_cons, List.take_zero, List.drop_succ_cons, List.drop_zero, Act.put, List.setIfInBounds_toArray, List.set_cons_succ, List.set_cons_zero]
            refine ag (v := .bool false) rfl (aQ rfl (ev rfl) evk) ?_
            simp only [Act.put, aa, ae, af]
            refine wpList_nil ?_
            obtain ⟨rfl, hl⟩ := HOT.out HOR.out
            have HLR := Lib.hid hl
            obtain ⟨g2, c2, s, heq, hce, hsn, hrd⟩ := HA4.out.get HIL.out
            cases heq
            have HCE := Lib.hid hce
            have HSD := Lib.hid hrd
            clear hl hce hsn hrd
            go_upto_region 29 with fail
            refine wp_region_lit ?_
            refine ag rfl (ah rfl (ev rfl)) ?_
            simp only [Act.put, aa, ae, af]
            refine ag (v := .bool false) rfl (aY false rfl (ev rfl) evk rfl) ?_
            simp only [Act.put, aa, ae, af]
            refine ag (v := .bool false) rfl (ah rfl (ev rfl)) ?_
            simp only [Act.put, aa, ae, af]
            refine ai (aj rfl rfl rfl rfl) (ah rfl (ev rfl)) ?_
            simp only [Act.put, aa, ae, af]
            refine ai (aj rfl rfl rfl rfl) (ah rfl (ev rfl)) ?_
            simp only [Act.put, aa, ae, af]
            refine ai (aj rfl rfl rfl rfl) (ah rfl (ev rfl)) ?_
            simp only [Act.put, aa, ae, af]
            refine ai (aj rfl rfl rfl rfl) (bX (E := bx) rfl (ev rfl) (ev rfl) HIL.out) ?_
            simp only [Act.put, aa, ae, af]
            refine ai (aj rfl rfl rfl rfl) (au rfl (ev rfl) (ldClsA (by rw [show i_ * bx.n = i_ from Nat.mul_one i_]; exact HCE.out))) ?_
            simp only [Act.put, aa, ae, af]
            refine ao (aj rfl rfl rfl rfl) (aq Tryz.call25 rfl (evc (ev rfl) (evc (ev rfl) evn))) ?_
            refine (cells_any Ar s.A nr s.n cr s.c _ lr _ _ HRR.out HSD.out (Nat.le_refl _) HNR.out).mono ?_
            rintro e w6 ⟨rfl, hb⟩
            rw [HLR.out, decide_eq_true rfl]
            have HS6 := Lib.hid (HS4.out.below hb)
            have HA6 := Lib.hid (HA4.out.below hb)
            clear hb HS4 HA4
            refine ⟨_, rfl, ?_⟩
            simp only [Act.put, aa, ae, af]
            refine ai (v := .bool false) (aj rfl rfl rfl rfl) (aX true rfl (ev rfl)) ?_
            simp only [Act.put, aa, ae, af]
            refine ag (v := .bool false) rfl (aQ rfl (ev rfl) (ev rfl)) ?_
            simp only [Act.put, aa, ae, af]
            refine wpList_nil ?_
            have hi8 : i_ < L.length := HIL.out
            have hi9 : L.length ≤ 8 := HE8.out
            go_wp2_with fail
            go_roundw
            case rel => exact ⟨i_ + 1, by omega, by go_num, HS6.out, HA6.out⟩
            case measure => simp [intOf]; omega
    have HL : Hid (decide ((j : Int) < (n0 : Int)) = true) := Lib.hid (decide_eq_true (by omega))
    by_cases h8 : j < 8
    rotate_left 1
    · have HM8 : Hid (decide ((j : Int) < 8) = false) := Lib.hid (decide_eq_false (by omega))
      have HS := Lib.hid hs
      have HA := Lib.hid ha
      clear hs ha hlt h8
      go_upto_region 6 with fail
      refine wp_region_lit ?_
      refine ag rfl (ah rfl (ev rfl)) ?_
      simp only [Act.put, aa, ae, af]
      refine ag rfl (ah rfl (ev rfl)) ?_
      simp only [Act.put, aa, ae, af]
      refine ag rfl (a8 Tryz.underlying46 rfl (ev rfl)) ?_
      simp only [Act.put, aa, ae, af]
      refine ag (v := .bool true) rfl (bn true rfl (ev rfl) (ev rfl) HL.out) ?_
      simp only [Act.put, aa, ae, af]
      refine ag (v := .bool true) rfl (ah rfl (ev rfl)) ?_
      simp only [Act.put, aa, ae, af]
      refine ai (aj rfl rfl rfl rfl) (ah rfl (ev rfl)) ?_
      simp only [Act.put, aa, ae, af]
      refine ai (v := .bool false) (aj rfl rfl rfl rfl) (bn false rfl (ev rfl) evk HM8.out) ?_
      simp only [Act.put, aa, ae, af]
      refine ag (v := .bool false) rfl (aM rfl (ev rfl) (ev rfl)) ?_
      simp only [Act.put, aa, ae, af]
      refine wpList_nil ?_
      have HE8 := Lib.hid HS.out.eight
      obtain ⟨Av, cv, rfl, _⟩ := HA.out.all.open_ HA.out.len
      by_cases hl0 : L.length = 0
      · have HZ : Hid (((L.length : Int) == 0) = true) := Lib.hid (by rw [hl0]; rfl)
        clear hl0
        go_upto_region 11 with fail
        refine wp_region_lit ?_
        refine ag rfl (ah rfl (ev rfl)) ?_
        simp only [Act.put, aa, ae, af]
        refine ag rfl (a8 Tryz.underlying46 rfl (ev rfl)) ?_
        simp only [Act.put, aa, ae, af]
        refine ag (v := .bool true) rfl (aG true rfl (ev rfl) evk HZ.out) ?_
        simp only [Act.put, aa, ae, af]
        refine wpList_nil ?_
        go_upto_region 12 with fail
        refine wp_region_lit ?_
        refine ao rfl (aq Tryz.call13 rfl evn) ?_
        refine (llives theLog _ (HT.out.below HS.out.bel)).mono ?_
        rintro e wz ⟨rfl, hb⟩
        have HB := Lib.hid (HS.out.bel.trans (hb.mono HS.out.bel.size))
        clear hb
        refine ⟨_, rfl, ?_⟩
        simp only [Act.put, aa, ae, af]
        refine ag rfl (ar rfl (ev rfl)) ?_
        simp only [Act.put, aa, ae, af]
        refine wpList_nil ?_
        go_wp2_with fail
        go_ret
        exact ⟨rfl, HB.out⟩
      have HZ : Hid (((L.length : Int) == 0) = false) := Lib.hid (by rw [beq_eq_false_iff_ne]; omega)
      have HL0 : Hid (0 < L.length) := Lib.hid (by omega)
      obtain ⟨kk, hkk⟩ : ∃ kk, s1 % L.length = kk := ⟨_, rfl⟩
      have HK : Hid (kk < L.length) := Lib.hid (by rw [← hkk]; exact Nat.mod_lt _ HL0.out)
      have HKM : Hid ((s1 : Int).tmod (L.length : Int) = (kk : Int)) := Lib.hid (by rw [← hkk]; rfl)
      have HLI : Hid ((L.length : Int) ≠ 0) := Lib.hid (by have := HL0.out; omega)
      obtain ⟨g, cg, heq⟩ : ∃ g c, Value.slice Av L.length cv = .slice (some ⟨g, 0, none⟩) L.length c := by
        obtain ⟨g, c, _, e, _⟩ := HA.out.get HL0.out
        exact ⟨g, c, e⟩
      cases heq
      clear hl0 hkk
      go_upto_region 11 with fail
      refine wp_region_lit ?_
      refine ag rfl (ah rfl (ev rfl)) ?_
      simp only [Act.put, aa, ae, af]
      refine ag rfl (a8 Tryz.underlying46 rfl (ev rfl)) ?_
      simp only [Act.put, aa, ae, af]
      refine ag (v := .bool false) rfl (aG false rfl (ev rfl) evk HZ.out) ?_
      simp only [Act.put, aa, ae, af]
      refine wpList_nil ?_
      go_upto_region 13 with fail
      refine wp_region_lit ?_
      refine ag rfl (ah rfl (ev rfl)) ?_
      simp only [Act.put, aa, ae, af]
      refine ag rfl (exec_cv8I rfl (ev rfl) H1.out) ?_
      simp only [Act.put, aa, ae, af]
      refine ag rfl (ah rfl (ev rfl)) ?_
      simp only [Act.put, aa, ae, af]
      refine ag rfl (a8 Tryz.underlying46 rfl (ev rfl)) ?_
      simp only [Act.put, aa, ae, af]
      refine ag rfl (fB rfl (ev rfl) (ev rfl) HLI.out HKM.out) ?_
      simp only [Act.put, aa, ae, af]
      refine ag rfl (ar rfl (ev rfl)) ?_
      simp only [Act.put, aa, ae, af]
      refine wpList_nil ?_
      go_wp2_with fail
      go_loopw [17, 18] (fun f i wz => ∃ t : Nat, t ≤ kk ∧ i = .int .i64 t ∧ f = .int .i64 ((10 + usd (x.nts.take t) : Nat) : Int) ∧ wz = wr) (fun _ i _ => kk - (intOf i).toNat)
      case atStart => exact ⟨0, by omega, by go_num, by simp [usd], rfl⟩
      case round =>
        obtain ⟨t, ht, rfl, rfl, rfl⟩ := hrel
        by_cases hlt : t < kk
        · have HLT : Hid (decide ((t : Int) < (kk : Int)) = true) := Lib.hid (decide_eq_true (by omega))
          have HTL : Hid (t < L.length) := Lib.hid (by have := HK.out; omega)
          obtain ⟨g2, c2, s, heq, hce, hsn, _⟩ := HA.out.get HTL.out
          cases heq
          have HCE := Lib.hid hce
          obtain ⟨t1, t2, t3, t4, t5, t6⟩ := HS.out.tak HTL.out
          have hul := HS.out.usd_le (i := t) (by have := HTL.out; omega)
          have HSZ : Hid (sizN (s.n : Int) = aN (x.nts.getD t aB)) := Lib.hid (by rw [hsn]; exact t1.symm)
          have HAD : Hid (IntKind.i64.wrap (((10 + usd (x.nts.take t) : Nat) : Int) + (aN (x.nts.getD t aB) : Int)) = ((10 + usd (x.nts.take (t + 1)) : Nat) : Int)) := Lib.hid (by rw [i64w ⟨by omega, by omega⟩]; omega)
          clear hce hsn t1 t2 t3 t4 t5 t6 hul
          go_upto_region 16 with fail
          refine wp_region_lit ?_
          refine ag rfl (ah rfl (ev rfl)) ?_
          simp only [Act.put, aa, ae, af]
          refine ag rfl (ah rfl (ev rfl)) ?_
          simp only [Act.put, aa, ae, af]
          refine ag (v := .bool true) rfl (bn true rfl (ev rfl) (ev rfl) HLT.out) ?_
          simp only [Act.put, aa, ae, af]
          refine wpList_nil ?_
          go_upto_region 18 with fail
          refine wp_region_lit ?_
          refine ag rfl (ah rfl (ev rfl)) ?_
          simp only [Act.put, aa, ae, af]
          refine ag rfl (ah rfl (ev rfl)) ?_
          simp only [Act.put, aa, ae, af]
          refine ag rfl (ah rfl (ev rfl)) ?_
          simp only [Act.put, aa, ae, af]
          refine ag rfl (bX (E := bx) rfl (ev rfl) (ev rfl) HTL.out) ?_
          simp only [Act.put, aa, ae, af]
          refine ag rfl (au rfl (ev rfl) (ldClsA (by rw [show t * bx.n = t from Nat.mul_one t]; exact HCE.out))) ?_
          simp only [Act.put, aa, ae, af]
          refine ag rfl (a8 Tryz.underlying34 rfl (ev rfl)) ?_
          simp only [Act.put, aa, ae, af]
          refine ao rfl (aq Tryz.call33 rfl (evc (ev rfl) evn)) ?_
          refine (rsize (s.n : Int) _).mono ?_
          rintro e w' ⟨rfl, rfl⟩
          rw [HSZ.out]
          refine ⟨_, rfl, ?_⟩
          simp only [Act.put, aa, ae, af]
          refine ag rfl (dL rfl (ev rfl) (ev rfl) HAD.out) ?_
          simp only [Act.put, aa, ae, af]
          refine ag rfl (ar rfl (ev rfl)) ?_
          simp only [Act.put, aa, ae, af]
          refine wpList_nil ?_
          have ht8 : t ≤ 8 := by have := HE8.out; have := HTL.out; omega
          go_wp2_with fail
          go_roundw
          case rel => exact ⟨t + 1, by omega, by go_num, by first | exact ⟨rfl, rfl⟩ | exact ⟨rfl, trivial⟩ | simp⟩
          case measure => simp [intOf]; omega
        have htk : t = kk := by omega
        subst htk
        have HLT : Hid (decide ((t : Int) < (t : Int)) = false) := Lib.hid (decide_eq_false (by omega))
        clear ht hlt
        obtain ⟨g2, c2, s, heq, hce, hsn, _⟩ := HA.out.get HK.out
        cases heq
        have HCE := Lib.hid hce
        obtain ⟨t1, t2, t3, t4, t5, t6⟩ := HS.out.tak HK.out
        have hul := HS.out.usd_le (i := t) (by have := HK.out; omega)
        have HSZ : Hid (sizN (s.n : Int) = aN (x.nts.getD t aB)) := Lib.hid (by rw [hsn]; exact t1.symm)
        obtain ⟨nt, hnt⟩ : ∃ nt, aN (x.nts.getD t aB) = nt := ⟨_, rfl⟩
        rw [hnt] at HSZ t4 t5
        obtain ⟨r, hr⟩ : ∃ r, s2 % nt = r := ⟨_, rfl⟩
        have hrl : r < nt := by rw [← hr]; exact Nat.mod_lt _ (by omega)
        have HRL : Hid (r < aN (x.nts.getD t aB)) := Lib.hid (by rw [hnt]; exact hrl)
        have HRM : Hid ((s2 : Int).tmod (nt : Int) = (r : Int)) := Lib.hid (by rw [← hr]; rfl)
        have HNZ : Hid ((nt : Int) ≠ 0) := Lib.hid (by omega)
        have HAD : Hid (IntKind.i64.wrap (((10 + usd (x.nts.take t) : Nat) : Int) + (r : Int)) = ((10 + usd (x.nts.take t) + r : Nat) : Int)) := Lib.hid (by rw [i64w ⟨by omega, by omega⟩]; omega)
        have HBM : Hid ((s2 : Int).tmod 64 = ((s2 % 64 : Nat) : Int)) := Lib.hid rfl
        have HBL : Hid (s2 % 64 < 64) := Lib.hid (Nat.mod_lt _ (by omega))
        clear hce hsn t1 t2 t3 t4 t5 t6 hul hr hrl hnt
        obtain ⟨sb, hsb⟩ : ∃ sb, s2 % 64 = sb := ⟨_, rfl⟩
        rw [hsb] at HBM HBL
        clear hsb
        go_upto_region 16 with fail
        refine wp_region_lit ?_
        refine ag rfl (ah rfl (ev rfl)) ?_
        simp only [Act.put, aa, ae, af]
        refine ag rfl (ah rfl (ev rfl)) ?_
        simp only [Act.put, aa, ae, af]
        refine ag (v := .bool false) rfl (bn false rfl (ev rfl) (ev rfl) HLT.out) ?_
        simp only [Act.put, aa, ae, af]
        refine wpList_nil ?_
        go_upto_region 19 with fail
        refine wp_region_lit ?_
        refine ag rfl (ah rfl (ev rfl)) ?_
        simp only [Act.put, aa, ae, af]
        refine ag rfl (ah rfl (ev rfl)) ?_
        simp only [Act.put, aa, ae, af]
        refine ag rfl (bX (E := bx) rfl (ev rfl) (ev rfl) HK.out) ?_
        simp only [Act.put, aa, ae, af]
        refine ag rfl (au rfl (ev rfl) (ldClsA (by rw [show t * bx.n = t from Nat.mul_one t]; exact HCE.out))) ?_
        simp only [Act.put, aa, ae, af]
        refine ag rfl (a8 Tryz.underlying34 rfl (ev rfl)) ?_
        simp only [Act.put, aa, ae, af]
        refine ao rfl (aq Tryz.call33 rfl (evc (ev rfl) evn)) ?_
        refine (rsize (s.n : Int) _).mono ?_
        rintro e w' ⟨rfl, rfl⟩
        rw [HSZ.out]
        refine ⟨_, rfl, ?_⟩
        simp only [Act.put, aa, ae, af]
        refine ag rfl (ar rfl (ev rfl)) ?_
        simp only [Act.put, aa, ae, af]
        refine wpList_nil ?_
        go_upto_region 20 with fail
        refine wp_region_lit ?_
        refine ag rfl (ah rfl (ev rfl)) ?_
        simp only [Act.put, aa, ae, af]
        refine ag rfl (ah rfl (ev rfl)) ?_
        simp only [Act.put, aa, ae, af]
        refine ag rfl (ah rfl (ev rfl)) ?_
        simp only [Act.put, aa, ae, af]
        refine ag rfl (exec_cv16I rfl (ev rfl) H2.out) ?_
        simp only [Act.put, aa, ae, af]
        refine ag rfl (ah rfl (ev rfl)) ?_
        simp only [Act.put, aa, ae, af]
        refine ag rfl (fB rfl (ev rfl) (ev rfl) HNZ.out HRM.out) ?_
        simp only [Act.put, aa, ae, af]
        refine ag rfl (dL rfl (ev rfl) (ev rfl) HAD.out) ?_
        simp only [Act.put, aa, ae, af]
        refine ag rfl (ah rfl (ev rfl)) ?_
        simp only [Act.put, aa, ae, af]
        refine ag rfl (exec_cv16I rfl (ev rfl) H2.out) ?_
        simp only [Act.put, aa, ae, af]
        refine ag rfl (fB rfl (ev rfl) evk (by decide) HBM.out) ?_
        simp only [Act.put, aa, ae, af]
        refine ag rfl (ah rfl (ev rfl)) ?_
        simp only [Act.put, aa, ae, af]
        refine ao rfl (aq Tryz.call34 rfl (evc (ev rfl) (evc evk (evc (ev rfl) (evc (ev rfl) (evc (ev rfl) evn)))))) ?_
        refine (HS.out.rot HK.out HRL.out HBL.out u).mono ?_
        rintro e w2 ⟨rfl, hr, hk⟩
        have HR := Lib.hid hr
        have HA2 := Lib.hid (HA.out.kept hk)
        clear HA hr hk HS HCE
        refine ⟨_, rfl, ?_⟩
        simp only [Act.put, aa, ae, af]
        refine ag (v := .bool false) rfl (aY false rfl (ev rfl) evk rfl) ?_
        simp only [Act.put, aa, ae, af]
        refine wpList_nil ?_
        go_wp2_with fail
        go_loopw [20] (fun i wz => ∃ i_ : Nat, i_ ≤ L.length ∧ i = .int .i64 i_ ∧ RotS w K wz q p x L t u ∧ AllAt w.heap.size wz K (.slice (some ⟨g, 0, none⟩) L.length cv) L ss) (fun i _ => L.length - (intOf i).toNat)
        case atStart => exact ⟨0, by omega, by go_num, HR.out, HA2.out⟩
        case round =>
          clear HR HA2
          obtain ⟨i_, hi, rfl, hs, ha⟩ := hrel
          have HS := Lib.hid hs
          have HA := Lib.hid ha
          clear hs ha
          by_cases hlt : i_ < L.length
          rotate_left 1
          · have HLT2 : Hid (decide ((i_ : Int) < (L.length : Int)) = false) := Lib.hid (decide_eq_false (by omega))
            clear hlt hi
            go_upto_region 23 with fail
            refine wp_region_lit ?_
            refine ag rfl (ah rfl (ev rfl)) ?_
            simp only [Act.put, aa, ae, af]
            refine ag rfl (ah rfl (ev rfl)) ?_
            simp only [Act.put, aa, ae, af]
            refine ag rfl (a8 Tryz.underlying46 rfl (ev rfl)) ?_
            simp only [Act.put, aa, ae, af]
            refine ag (v := .bool false) rfl (bn false rfl (ev rfl) (ev rfl) HLT2.out) ?_
            simp only [Act.put, aa, ae, af]
            refine wpList_nil ?_
            go_upto_region 31 with fail
            refine wp_region_lit ?_
            refine ao rfl (aq Tryz.call13 rfl evn) ?_
            refine (llives theLog _ (HT.out.below HS.out.bel)).mono ?_
            rintro e wz ⟨rfl, hb⟩
            have HB := Lib.hid (HS.out.bel.trans (hb.mono HS.out.bel.size))
            clear hb
            refine ⟨_, rfl, ?_⟩
            simp only [Act.put, aa, ae, af]
            refine ag rfl (ar rfl (ev rfl)) ?_
            simp only [Act.put, aa, ae, af]
            refine wpList_nil ?_
            go_wp2_with fail
            go_ret
            exact ⟨rfl, HB.out⟩
          have HLT2 : Hid (decide ((i_ : Int) < (L.length : Int)) = true) := Lib.hid (decide_eq_true (by omega))
          have HIL : Hid (i_ < L.length) := Lib.hid hlt
          have HAU : Hid (IntKind.u64.wrap ((i_ : Int) + 1) = ((i_ + 1 : Nat) : Int)) := Lib.hid (u64w (a := i_ + 1) (by have := HE8.out; omega))
          go_upto_region 23 with fail
          refine wp_region_lit ?_
          refine ag rfl (ah rfl (ev rfl)) ?_
          simp only [Act.put, aa, ae, af]
          refine ag rfl (ah rfl (ev rfl)) ?_
          simp only [Act.put, aa, ae, af]
          refine ag rfl (a8 Tryz.underlying46 rfl (ev rfl)) ?_
          simp only [Act.put, aa, ae, af]
          refine ag (v := .bool true) rfl (bn true rfl (ev rfl) (ev rfl) HLT2.out) ?_
          simp only [Act.put, aa, ae, af]
          refine wpList_nil ?_
          go_upto_region 25 with fail
          refine wp_region_lit ?_
          refine ag rfl (ah rfl (ev rfl)) ?_
          simp only [Act.put, aa, ae, af]
          refine ag rfl (ah rfl (ev rfl)) ?_
          simp only [Act.put, aa, ae, af]
          refine ag rfl (exec_cvIU rfl (ev rfl) (by have := HE8.out; omega)) ?_
          simp only [Act.put, aa, ae, af]
          refine ag rfl (exec_adU rfl (ev rfl) evk HAU.out) ?_
          simp only [Act.put, aa, ae, af]
          refine ao rfl (aq Tryz.call24 rfl (evc (ev rfl) (evc (ev rfl) evn))) ?_
          refine (HS.out.rec_ i_ HIL.out (by have := HE8.out; omega)).mono ?_
          rintro e w4 ⟨Ar, nr, cr, lr, E, rfl, hrr, hnr, hb, hsp, hot⟩
          have HS4 := Lib.hid (HS.out.below hb)
          have HA4 := Lib.hid (HA.out.below hb)
          have HRR := Lib.hid hrr
          have HNR := Lib.hid hnr
          have HSP := Lib.hid hsp
          have HOT := Lib.hid hot
          clear HS HA hb hrr hnr hsp hot
          refine ⟨_, rfl, ?_⟩
          simp only [Act.put, aa, ae, af]
          refine ag rfl (ah rfl (ev rfl)) ?_
          simp only [Act.put, aa, ae, af]
          refine ag rfl (aC rfl (ev rfl) rfl) ?_
          simp only [Act.put, aa, ae, af]
          refine ag rfl (aC rfl (ev rfl) rfl) ?_
          simp only [Act.put, aa, ae, af]
          refine ag rfl (ar rfl (ev rfl)) ?_
          simp only [Act.put, aa, ae, af]
          refine ag rfl (ar rfl (ev rfl)) ?_
          simp only [Act.put, aa, ae, af]
          refine wpList_nil ?_
          by_cases hik : i_ = t
          · have HEQ : Hid (((i_ : Int) == (t : Int)) = true) := Lib.hid (by rw [hik]; exact beq_self_eq_true _)
            by_cases hu : u.toNat = 0
            · have HNU : Hid (((u.toNat : Int) != 0) = false) := Lib.hid (by rw [hu]; rfl)
              have HOR : Hid (i_ ≠ t ∨ u.toNat = 0) := Lib.hid (.inr hu)
              clear hu hik
              go_upto_region 26 with fail
              refine wp_region_lit ?_
              refine ag rfl (ah rfl (ev rfl)) ?_
              simp only [Act.put, aa, ae, af]
              refine ag rfl (ah rfl (ev rfl)) ?_
              simp only [Act.put, aa, ae, af]
              refine ag (v := .bool true) rfl (aG true rfl (ev rfl) (ev rfl) HEQ.out) ?_
              simp only [Act.put, aa, ae, af]
              refine ag (v := .bool true) rfl (ah rfl (ev rfl)) ?_
              simp only [Act.put, aa, ae, af]
              refine ai (aj rfl rfl rfl rfl) (ah rfl (ev rfl)) ?_
              simp only [Act.put, aa, ae, af]
              refine ai (v := .bool false) (aj rfl rfl rfl rfl) (aY false rfl (ev rfl) evk HNU.out) ?_
              simp only [Act.put, aa, ae, af]
              refine ag (v := .bool false) rfl (aM rfl (ev rfl) (ev rfl)) ?_
              simp only [Act.put, aa, ae, af]
              refine wpList_nil ?_
              obtain ⟨rfl, hl⟩ := HOT.out HOR.out
              have HLR := Lib.hid hl
              obtain ⟨g2, c2, s, heq, hce, hsn, hrd⟩ := HA4.out.get HIL.out
              cases heq
              have HCE := Lib.hid hce
              have HSD := Lib.hid hrd
              clear hl hce hsn hrd
              go_upto_region 29 with fail
              refine wp_region_lit ?_
              refine ag rfl (ah rfl (ev rfl)) ?_
              simp only [Act.put, aa, ae, af]
              refine ag (v := .bool false) rfl (aY false rfl (ev rfl) evk rfl) ?_
              simp only [Act.put, aa, ae, af]
              refine ag (v := .bool false) rfl (ah rfl (ev rfl)) ?_
              simp only [Act.put, aa, ae, af]
              refine ai (aj rfl rfl rfl rfl) (ah rfl (ev rfl)) ?_
              simp only [Act.put, aa, ae, af]
              refine ai (aj rfl rfl rfl rfl) (ah rfl (ev rfl)) ?_
              simp only [Act.put, aa, ae, af]
              refine ai (aj rfl rfl rfl rfl) (ah rfl (ev rfl)) ?_
              simp only [Act.put, aa, ae, af]
              refine ai (aj rfl rfl rfl rfl) (bX (E := bx) rfl (ev rfl) (ev rfl) HIL.out) ?_
              simp only [Act.put, aa, ae, af]
              refine ai (aj rfl rfl rfl rfl) (au rfl (ev rfl) (ldClsA (by rw [show i_ * bx.n = i_ from Nat.mul_one i_]; exact HCE.out))) ?_
              simp only [Act.put, aa, ae, af]
              refine ao (aj rfl rfl rfl rfl) (aq Tryz.call25 rfl (evc (ev rfl) (evc (ev rfl) evn))) ?_
              refine (cells_any Ar s.A nr s.n cr s.c _ lr _ _ HRR.out HSD.out (Nat.le_refl _) HNR.out).mono ?_
              rintro e w6 ⟨rfl, hb⟩
              rw [HLR.out, decide_eq_true rfl]
              have HS6 := Lib.hid (HS4.out.below hb)
              have HA6 := Lib.hid (HA4.out.below hb)
              clear hb HS4 HA4
              refine ⟨_, rfl, ?_⟩
              simp only [Act.put, aa, ae, af]
              refine ai (v := .bool false) (aj rfl rfl rfl rfl) (aX true rfl (ev rfl)) ?_
              simp only [Act.put, aa, ae, af]
              refine ag (v := .bool false) rfl (aQ rfl (ev rfl) (ev rfl)) ?_
              simp only [Act.put, aa, ae, af]
              refine wpList_nil ?_
              have hi8 : i_ < L.length := HIL.out
              have hi9 : L.length ≤ 8 := HE8.out
              go_wp2_with fail
              go_roundw
              case rel => exact ⟨i_ + 1, by omega, by go_num, HS6.out, HA6.out⟩
              case measure => simp [intOf]; omega
            · have HNU : Hid (((u.toNat : Int) != 0) = true) := Lib.hid (by rw [bne_iff_ne]; omega)
              obtain ⟨rfl, rfl⟩ := HSP.out hik hu
              clear hu hik
              go_upto_region 26 with fail
              refine wp_region_lit ?_
              refine ag rfl (ah rfl (ev rfl)) ?_
              simp only [Act.put, aa, ae, af]
              refine ag rfl (ah rfl (ev rfl)) ?_
              simp only [Act.put, aa, ae, af]
              refine ag (v := .bool true) rfl (aG true rfl (ev rfl) (ev rfl) HEQ.out) ?_
              simp only [Act.put, aa, ae, af]
              refine ag (v := .bool true) rfl (ah rfl (ev rfl)) ?_
              simp only [Act.put, aa, ae, af]
              refine ai (aj rfl rfl rfl rfl) (ah rfl (ev rfl)) ?_
              simp only [Act.put, aa, ae, af]
              refine ai (v := .bool true) (aj rfl rfl rfl rfl) (aY true rfl (ev rfl) evk HNU.out) ?_
              simp only [Act.put, aa, ae, af]
              refine ag (v := .bool true) rfl (aM rfl (ev rfl) (ev rfl)) ?_
              simp only [Act.put, aa, ae, af]
              refine wpList_nil ?_
              go_upto_region 27 with fail
              refine wp_region_lit ?_
              refine ag rfl (ah rfl (ev rfl)) ?_
              simp only [Act.put, aa, ae, af]
              refine ag (v := .bool false) rfl (aY false rfl (ev rfl) evk rfl) ?_
              simp only [Act.put, aa, ae, af]
              refine ag (v := .bool false) rfl (ah rfl (ev rfl)) ?_
              simp only [Act.put, aa, ae, af]
              refine ai (aj rfl rfl rfl rfl) (ah rfl (ev rfl)) ?_
              simp only [Act.put, aa, ae, af]
              refine ai (aj rfl rfl rfl rfl) (a8 Tryz.underlying34 rfl (ev rfl)) ?_
              simp only [Act.put, aa, ae, af]
              refine ai (v := .bool false) (aj rfl rfl rfl rfl) (aY false rfl (ev rfl) evk rfl) ?_
              simp only [Act.put, aa, ae, af]
              refine ag (v := .bool false) rfl (aQ rfl (ev rfl) (ev rfl)) ?_
              simp only [Act.put, aa, ae, af]
              refine wpList_nil ?_
              have hi8 : i_ < L.length := HIL.out
              have hi9 : L.length ≤ 8 := HE8.out
              go_wp2_with fail
              go_roundw
              case rel => exact ⟨i_ + 1, by omega, by go_num, HS4.out, HA4.out⟩
              case measure => simp [intOf]; omega
          · have HEQ : Hid (((i_ : Int) == (t : Int)) = false) := Lib.hid (by rw [beq_eq_false_iff_ne]; omega)
            have HOR : Hid (i_ ≠ t ∨ u.toNat = 0) := Lib.hid (.inl hik)
            clear hik
            go_upto_region 26 with fail
            refine wp_region_lit ?_
            refine ag rfl (ah rfl (ev rfl)) ?_
            simp only [Act.put, aa, ae, af]
            refine ag rfl (ah rfl (ev rfl)) ?_
            simp only [Act.put, aa, ae, af]
            refine ag (v := .bool false) rfl (aG false rfl (ev rfl) (ev rfl) HEQ.out) ?_
            simp only [Act.put, aa, ae, af]
            refine aV 2 (v := .bool false) rfl (ah rfl (ev rfl)) (by kernel_rfl) ?_
            simp only [br, List.take_succ_cons, List.take_zero, List.drop_succ_cons, List.drop_zero, Act.put, List.setIfInBounds_toArray, List.set_cons_succ, List.set_cons_zero]
            refine ag (v := .bool false) rfl (aQ rfl (ev rfl) evk) ?_
            simp only [Act.put, aa, ae, af]
            refine wpList_nil ?_
            obtain ⟨rfl, hl⟩ := HOT.out HOR.out
            have HLR := Lib.hid hl
            obtain ⟨g2, c2, s, heq, hce, hsn, hrd⟩ := HA4.out.get HIL.out
            cases heq
            have HCE := Lib.hid hce
            have HSD := Lib.hid hrd
            clear hl hce hsn hrd
            go_upto_region 29 with fail
            refine wp_region_lit ?_
            refine ag rfl (ah rfl (ev rfl)) ?_
            simp only [Act.put, aa, ae, af]
            refine ag (v := .bool false) rfl (aY false rfl (ev rfl) evk rfl) ?_
            simp only [Act.put, aa, ae, af]
            refine ag (v := .bool false) rfl (ah rfl (ev rfl)) ?_
            simp only [Act.put, aa, ae, af]
            refine ai (aj rfl rfl rfl rfl) (ah rfl (ev rfl)) ?_
            simp only [Act.put, aa, ae, af]
            refine ai (aj rfl rfl rfl rfl) (ah rfl (ev rfl)) ?_
            simp only [Act.put, aa, ae, af]
            refine ai (aj rfl rfl rfl rfl) (ah rfl (ev rfl)) ?_
            simp only [Act.put, aa, ae, af]
            refine ai (aj rfl rfl rfl rfl) (bX (E := bx) rfl (ev rfl) (ev rfl) HIL.out) ?_
            simp only [Act.put, aa, ae, af]
            refine ai (aj rfl rfl rfl rfl) (au rfl (ev rfl) (ldClsA (by rw [show i_ * bx.n = i_ from Nat.mul_one i_]; exact HCE.out))) ?_
            simp only [Act.put, aa, ae, af]
            refine ao (aj rfl rfl rfl rfl) (aq Tryz.call25 rfl (evc (ev rfl) (evc (ev rfl) evn))) ?_
            refine (cells_any Ar s.A nr s.n cr s.c _ lr _ _ HRR.out HSD.out (Nat.le_refl _) HNR.out).mono ?_
            rintro e w6 ⟨rfl, hb⟩
            rw [HLR.out, decide_eq_true rfl]
            have HS6 := Lib.hid (HS4.out.below hb)
            have HA6 := Lib.hid (HA4.out.below hb)
            clear hb HS4 HA4
            refine ⟨_, rfl, ?_⟩
            simp only [Act.put, aa, ae, af]
            refine ai (v := .bool false) (aj rfl rfl rfl rfl) (aX true rfl (ev rfl)) ?_
            simp only [Act.put, aa, ae, af]
            refine ag (v := .bool false) rfl (aQ rfl (ev rfl) (ev rfl)) ?_
            simp only [Act.put, aa, ae, af]
            refine wpList_nil ?_
            have hi8 : i_ < L.length := HIL.out
            have hi9 : L.length ≤ 8 := HE8.out
            go_wp2_with fail
            go_roundw
            case rel => exact ⟨i_ + 1, by omega, by go_num, HS6.out, HA6.out⟩
            case measure => simp [intOf]; omega
    have HM8 : Hid (decide ((j : Int) < 8) = true) := Lib.hid (decide_eq_true (by omega))
    obtain ⟨ab, off, rfl, hab, hrg⟩ := HRD.out.2 j hlt
    obtain ⟨s, hsd⟩ : ∃ s, l0.getD j bx.d = s := ⟨_, rfl⟩
    have hi := HIN.out j hlt
    rw [hsd] at hi
    obtain ⟨cl, hcl, hc1, hc2⟩ := hi
    have HCE : Hid (∀ w', Below w.heap.size w w' → w'.cell? ⟨ab, off + j * bx.n, none⟩ = some (.slice s.A s.n s.c)) := Lib.hid fun w' hb => by
      rw [hb.cell (p := ⟨ab, off + j * bx.n, none⟩) hab, ← hsd]
      exact hrg 0 _ rfl
    have HCL := Lib.hid hcl
    have HCN : Hid (s.n ≤ maxLen) := Lib.hid (Nat.le_trans hc1 hc2)
    have HJN := Lib.hid hlt
    have HS := Lib.hid hs
    have HA := Lib.hid ha
    clear hsd hcl hc1 hc2 hrg hlt hab hs ha
    go_upto_region 6 with fail
    refine wp_region_lit ?_
    refine ag rfl (ah rfl (ev rfl)) ?_
    simp only [Act.put, aa, ae, af]
    refine ag rfl (ah rfl (ev rfl)) ?_
    simp only [Act.put, aa, ae, af]
    refine ag rfl (a8 Tryz.underlying46 rfl (ev rfl)) ?_
    simp only [Act.put, aa, ae, af]
    refine ag (v := .bool true) rfl (bn true rfl (ev rfl) (ev rfl) HL.out) ?_
    simp only [Act.put, aa, ae, af]
    refine ag (v := .bool true) rfl (ah rfl (ev rfl)) ?_
    simp only [Act.put, aa, ae, af]
    refine ai (aj rfl rfl rfl rfl) (ah rfl (ev rfl)) ?_
    simp only [Act.put, aa, ae, af]
    refine ai (v := .bool true) (aj rfl rfl rfl rfl) (bn true rfl (ev rfl) evk HM8.out) ?_
    simp only [Act.put, aa, ae, af]
    refine ag (v := .bool true) rfl (aM rfl (ev rfl) (ev rfl)) ?_
    simp only [Act.put, aa, ae, af]
    refine wpList_nil ?_
    go_upto_region 8 with fail
    refine wp_region_lit ?_
    refine ag rfl (ah rfl (ev rfl)) ?_
    simp only [Act.put, aa, ae, af]
    refine ag rfl (ah rfl (ev rfl)) ?_
    simp only [Act.put, aa, ae, af]
    refine ag rfl (ah rfl (ev rfl)) ?_
    simp only [Act.put, aa, ae, af]
    refine ag rfl (aZ (E := bx) rfl (ev rfl) (ev rfl) HJN.out) ?_
    simp only [Act.put, aa, ae, af]
    refine ag rfl (au rfl (ev rfl) (ldClsA (HCE.out _ HS.out.bel))) ?_
    simp only [Act.put, aa, ae, af]
    refine ao rfl (aq Tryz.call19 rfl (evc (ev rfl) (evc (ev rfl) evn))) ?_
    refine (HS.out.app s.A s.n s.c w.heap.size cl HJ.out (HCL.out.below HS.out.bel) HS.out.bel.size HCN.out).mono ?_
    rintro e w2 ⟨hk, an, E, x', rfl, hc⟩
    have HA2 := Lib.hid (HA.out.kept hk)
    clear HS HA hk
    refine ⟨_, rfl, ?_⟩
    simp only [Act.put, aa, ae, af]
    refine ag rfl (ah rfl (ev rfl)) ?_
    simp only [Act.put, aa, ae, af]
    refine ag rfl (aC rfl (ev rfl) rfl) ?_
    simp only [Act.put, aa, ae, af]
    refine ag rfl (aC rfl (ev rfl) rfl) ?_
    simp only [Act.put, aa, ae, af]
    refine ag rfl (ar rfl (ev rfl)) ?_
    simp only [Act.put, aa, ae, af]
    refine ag rfl (ar rfl (ev rfl)) ?_
    simp only [Act.put, aa, ae, af]
    refine wpList_nil ?_
    rcases hc with ⟨hE, hs2⟩ | ⟨rfl, hs2, hl1, hl2⟩
    · have HZE : Hid ((E == 0) = false) := Lib.hid (by rw [beq_eq_false_iff_ne]; exact hE)
      have HS2 := Lib.hid hs2
      clear hE hs2
      go_upto_region 9 with fail
      refine wp_region_lit ?_
      refine ag rfl (ah rfl (ev rfl)) ?_
      simp only [Act.put, aa, ae, af]
      refine ag (v := .bool false) rfl (aG false rfl (ev rfl) evk HZE.out) ?_
      simp only [Act.put, aa, ae, af]
      refine wpList_nil ?_
      go_wp2_with fail
      go_roundw
      case rel => exact ⟨j + 1, _, _, _, _, by go_num, by omega, HS2.out, HA2.out⟩
      case measure => simp [intOf]; omega
    · have HS2 := Lib.hid hs2
      have hcn : s.n = cl.length := (HCL.out.1).symm
      have HCC : Hid (s.n ≤ 1759218604390) := Lib.hid (by omega)
      have HE8 := Lib.hid hs2.eight
      clear hs2 hcn hl1 hl2
      go_upto_region 9 with fail
      refine wp_region_lit ?_
      refine ag rfl (ah rfl (ev rfl)) ?_
      simp only [Act.put, aa, ae, af]
      refine ag (v := .bool true) rfl (aG true rfl (ev rfl) evk rfl) ?_
      simp only [Act.put, aa, ae, af]
      refine wpList_nil ?_
      go_upto_region 10 with fail
      refine wp_region_lit ?_
      refine ag rfl (ah rfl (ev rfl)) ?_
      simp only [Act.put, aa, ae, af]
      refine ag rfl (ah rfl (ev rfl)) ?_
      simp only [Act.put, aa, ae, af]
      refine ag rfl (ah rfl (ev rfl)) ?_
      simp only [Act.put, aa, ae, af]
      refine ag rfl (aZ (E := bx) rfl (ev rfl) (ev rfl) HJN.out) ?_
      simp only [Act.put, aa, ae, af]
      refine ag rfl (au rfl (ev rfl) (ldClsA (HCE.out _ HS2.out.bel))) ?_
      simp only [Act.put, aa, ae, af]
      refine ao rfl (aq Tryz.call20 rfl (evc (ev rfl) evn)) ?_
      refine (copyC_any s.A s.n s.c w.heap.size _ cl w2 (Lib.hid rfl) (HCL.out.below HS2.out.bel) HS2.out.bel.size HCC.out).mono ?_
      rintro e w3 ⟨vc, rfl, hmc, hb3⟩
      obtain ⟨Ac, cc, rfl, v5, w5, K5, hrun, hs5, ha5⟩ := sp_add 46 HS2.out HA2.out hmc hb3 (by have := HE8.out; rw [List.length_append] at this; omega)
      have HRUN := Lib.hid hrun
      have HS5 := Lib.hid hs5
      have HA5 := Lib.hid ha5
      clear hmc hb3 hrun hs5 ha5
      refine ⟨_, rfl, ?_⟩
      simp only [Act.put, aa, ae, af]
      refine ag rfl (df (E := bx) (a := ⟨Ac, cl.length, cc⟩) rfl (ev rfl) rfl (by show 1 ≤ _; omega)) ?_
      simp only [Act.put, aa, ae, af]
      refine ag rfl (fv (E := bx) rfl (ev rfl) (ev rfl) HRUN.out) ?_
      simp only [Act.put, aa, ae, af]
      refine ag rfl (ar rfl (ev rfl)) ?_
      simp only [Act.put, aa, ae, af]
      refine wpList_nil ?_
      go_wp2_with fail
      go_roundw
      case rel => exact ⟨j + 1, _, _, _, _, by go_num, by omega, HS5.out, HA5.out⟩
      case measure => simp [intOf]; omega
theorem wspoilt (s1 s2 s3 : Nat) (A0 : Option Addr) (n0 c0 : Nat) (l0 : List Sl14) (w : World) (T : Tbs w) (h1 : s1 < 256) (h2 : s2 < 65536) (h3 : s3 < 256) (rd : RdE bx w w.heap.size A0 n0 l0) (hn : n0 ≤ maxLen) (hin : ∀ k, k < n0 → ClsIn w (l0.getD k bx.d).A (l0.getD k bx.d).n (l0.getD k bx.d).c) :
    Calls Tryz.prog 7 #[.slice A0 n0 c0, .int .u8 s1, .int .u16 s2, .int .u8 s3] w fun e w' => e = .returned (.bool true) ∧ Below w.heap.size w w' := by
  have e : (UInt8.ofNat s3).toNat = s3 := by rw [UInt8.toNat_ofNat']; omega
  have := wspoilt_ s1 s2 (UInt8.ofNat s3) A0 n0 c0 l0 w T h1 h2 rd hn hin
  rwa [e] at this
end Go.Proofs.YtcafafdimcecpaaGreatDoor
