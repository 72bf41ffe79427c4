import Derived.Test.YtcafafdimcecpaaGreatDoorLcba
import Derived.Test.YtcafafdimcecpaaGreatDoorLcZ
namespace Go.Proofs.YtcafafdimcecpaaGreatDoor
open Go.RowKit
set_option linter.unusedVariables false
set_option linter.unusedSimpArgs false
set_option maxRecDepth 100000
theorem exec_cv16J {ρ : Operand → Value} {o : Oper} {x : Operand} {w : World} {n : Nat} (ho : o.op = .convert 22 3 x) (hx : ρ x = .int .u16 (n : Int)) (hn : n < 65536) : (execOp ρ o).run Tryz.prog w = .ok (.value (.int .i64 (n : Int))) w := by
  have h : IntKind.i64.wrap (n : Int) = (n : Int) := i64w ⟨by omega, by omega⟩
  have hc : (convert 22 3 (.int .u16 (n : Int))).run Tryz.prog w = .ok (.int .i64 (n : Int)) w := by simp [convert, go_sem, h]
  unfold execOp
  simp only [ho, hx, Sem.run_bind, hc, Result.andThen_ok, Sem.run_pure]
theorem exec_rem16 {ρ : Operand → Value} {o : Oper} {x y : Operand} {w : World} {t r : TypeId} {a b c : Int} (ho : o.op = .binOp .rem t x y r) (hx : ρ x = .int .u16 a) (hy : ρ y = .int .u16 b) (h0 : b ≠ 0) (h : a.tmod b = c) : (execOp ρ o).run Tryz.prog w = .ok (.value (.int .u16 c)) w := by
  unfold execOp
  simp [ho, hx, hy, eqGuard, binOp, Op.intDiv, h, h0]
theorem pgreat (A : Option Addr) (n c : Nat) (w : World) : Calls Tryz.prog 18 #[.slice A n c] w fun e w' => e = .returned (.bool (decide (60 < n))) ∧ w = w' := by
  go_enter Tryz.func18, Tryz.ntmps18
  go_wp2_with fail
  go_ret
  refine ⟨?_, rfl⟩
  first | rfl | (simp; omega) | (congr 2; simp; omega)
set_option maxHeartbeats 8000000 in
theorem wcuts (s0 s2 : Nat) (A1 : Option Addr) (n1 c1 : Nat) (l1 : List Step14) (A3 : Option Addr) (n3 c3 : Nat) (l3 : List Int) (w : World) (T : Tbs w) (h0 : s0 < 256) (h2 : s2 < 65536) (rd : RdE Step14E w w.heap.size A1 n1 l1) (hn : n1 ≤ maxLen) (hin : ∀ k, k < n1 → (l1.getD k Step14.zero).In w) (rd3 : RdE dq w w.heap.size A3 n3 l3) (hn3 : n3 ≤ c3) (hc3 : c3 ≤ maxLen) :
    Calls Tryz.prog 4 #[.int .u8 s0, .slice A1 n1 c1, .int .u16 s2, .slice A3 n3 c3] w fun e w' => e = .returned (.bool true) ∧ Below w.heap.size w w' := by
  have HT := Lib.hid T
  have H0 := Lib.hid h0
  have H2 := Lib.hid h2
  have HRD := Lib.hid rd
  have HIN := Lib.hid hin
  have HR3 := Lib.hid rd3
  have HN3 := Lib.hid hn3
  have HC3 := Lib.hid hc3
  obtain ⟨ar, har⟩ : ∃ ar, s2 % 400 = ar := ⟨_, rfl⟩
  have harl : ar < 400 := by rw [← har]; exact Nat.mod_lt _ (by omega)
  have HAM : Hid ((s2 : Int).tmod 400 = (ar : Int)) := Lib.hid (by rw [← har]; rfl)
  have HAL : Hid (ar < 65536) := Lib.hid (by omega)
  have HAA : Hid (IntKind.i64.wrap (1 + (ar : Int)) = ((1 + ar : Nat) : Int)) := Lib.hid (by rw [i64w ⟨by omega, by omega⟩]; omega)
  have HAB : Hid (1 ≤ 1 + ar ∧ 1 + ar ≤ 1000) := Lib.hid (by omega)
  clear T h0 h2 rd hin rd3 hn3 hc3 har harl
  go_enter Tryz.func4, Tryz.ntmps4
  go_upto_region 1 with fail
  refine wp_region_lit ?_
  refine ag rfl (ah rfl (ev rfl)) ?_
  simp only [Act.put, aa, ae, af]
  refine ao rfl (au Tryz.call14 rfl (evc (ev rfl) evn)) ?_
  refine (plaid eA s0 w HT.out H0.out).mono ?_
  rintro e w1 hl
  obtain ⟨q, p, S, rfl, h1, h2, h3⟩ := hl.cut
  have HL1 := Lib.hid h1
  have HL2 := Lib.hid h2
  have HL3 := Lib.hid h3
  clear hl h1 h2 h3
  refine ⟨_, rfl, ?_⟩
  simp only [Act.put, aa, ae, af]
  refine ag rfl (ah rfl (ev rfl)) ?_
  simp only [Act.put, aa, ae, af]
  refine ag rfl (aC rfl (ev rfl) rfl) ?_
  simp only [Act.put, aa, ae, af]
  refine ag rfl (aC rfl (ev rfl) rfl) ?_
  simp only [Act.put, aa, ae, af]
  refine ag rfl (aC rfl (ev rfl) rfl) ?_
  simp only [Act.put, aa, ae, af]
  refine ag rfl (aq rfl (ev rfl)) ?_
  simp only [Act.put, aa, ae, af]
  refine ag rfl (aq rfl (ev rfl)) ?_
  simp only [Act.put, aa, ae, af]
  refine ag rfl (aq rfl (ev rfl)) ?_
  simp only [Act.put, aa, ae, af]
  refine wpList_nil ?_
  go_upto_region 2 with fail
  refine wp_region_lit ?_
  refine ag (v := .bool true) rfl (ah rfl (ev rfl)) ?_
  simp only [Act.put, aa, ae, af]
  refine ag (v := .bool false) rfl (aX true rfl (ev rfl)) ?_
  simp only [Act.put, aa, ae, af]
  refine ag (v := .bool false) rfl (ah rfl (ev rfl)) ?_
  simp only [Act.put, aa, ae, af]
  refine ai (aj rfl rfl rfl rfl) (ah rfl (ev rfl)) ?_
  simp only [Act.put, aa, ae, af]
  refine ai (aj rfl rfl rfl rfl) (ah rfl (ev rfl)) ?_
  simp only [Act.put, aa, ae, af]
  refine ai (aj rfl rfl rfl rfl) (exec_rem16 rfl (ev rfl) evk (by decide) HAM.out) ?_
  simp only [Act.put, aa, ae, af]
  refine ai (aj rfl rfl rfl rfl) (exec_cv16J rfl (ev rfl) HAL.out) ?_
  simp only [Act.put, aa, ae, af]
  refine ai (aj rfl rfl rfl rfl) (fb rfl evk (ev rfl) HAA.out) ?_
  simp only [Act.put, aa, ae, af]
  refine ao (aj rfl rfl rfl rfl) (au Tryz.call15 rfl (evc (ev rfl) (evc (ev rfl) evn))) ?_
  refine (cut_arm HAB.out HL1.out HL2.out HL3.out (Nat.le_refl _) ⟨rfl, rfl⟩).mono ?_
  rintro e w2 ⟨rfl, hs, _⟩
  have HS := Lib.hid hs
  clear hs HL1 HL2 HL3
  refine ⟨_, rfl, ?_⟩
  simp only [Act.put, aa, ae, af]
  refine ai (v := .bool false) (aj rfl rfl rfl rfl) (aP false rfl (ev rfl) evk rfl) ?_
  simp only [Act.put, aa, ae, af]
  refine ag (v := .bool false) rfl (aN rfl (ev rfl) (ev rfl)) ?_
  simp only [Act.put, aa, ae, af]
  refine wpList_nil ?_
  obtain ⟨x0, hx0⟩ : ∃ x0, layX 0 7 ((40 + s0 % 216 : Nat) : Int) = x0 := ⟨_, rfl⟩
  have HF0 : Hid (x0.fst = 1) := Lib.hid (by rw [← hx0]; rfl)
  rw [hx0] at HS
  clear hx0
  go_wp2_with fail
  go_loopw [12, 13, 14, 15, 16] (fun v12 v13 v14 v15 i wr => ∃ (j fs un : Nat) (L : List (List Cl)) (K : Nat → Prop) (ss : List Sl14) (Al : Option Addr) (nl cl : Nat) (la : List Cl) (dk : Bool), CutR w q p v12 v13 v14 v15 i wr j fs un L K ss Al nl cl la dk) (fun _ _ _ _ i _ => 40 - (intOf i).toNat)
  case atStart => exact ⟨0, 1, 1, [], _, [], none, 0, 0, [], false, by go_num, by omega, by go_num, by go_num, rfl, RdE.nil _ _ _, by omega, AllAt.nil _ _, by simp, by have := HS.out.fin; rwa [HF0.out] at this, fun _ => ⟨x0, HS.out, HF0.out.symm, HF0.out.symm, rfl⟩⟩
  case round =>
    clear HS HF0
    obtain ⟨j, fs, un, L, K, ss, Al, nl, cl, la, dk, rfl, hj, rfl, rfl, rfl, hla, hnl, ha, hLj, hf, hlv⟩ := hrel
    have HLA := Lib.hid hla
    have HNL := Lib.hid hnl
    have HLJ := Lib.hid hLj
    have HA := Lib.hid ha
    have HF := Lib.hid hf
    have HLV := Lib.hid hlv
    clear hla hnl hLj ha hf hlv
    go_upto_region 9 with fail
    apply share13 (F := fun wz => (∃ dk, FinC w K wz q fs un L la dk) ∧ AllAt w.heap.size wz K u12 L ss)
    · intro tail_
      by_cases hlt : j < n1
      rotate_left 1
      · have HLN : Hid (decide ((j : Int) < (n1 : Int)) = false) := Lib.hid (decide_eq_false (by omega))
        clear hlt
        refine wp_region_lit ?_
        refine ag rfl (ah rfl (ev rfl)) ?_
        simp only [Act.put, aa, ae, af]
        refine ag rfl (ah rfl (ev rfl)) ?_
        simp only [Act.put, aa, ae, af]
        refine ag rfl (bQ Tryz.underlying41 rfl (ev rfl)) ?_
        simp only [Act.put, aa, ae, af]
        refine ag (v := .bool false) rfl (br false rfl (ev rfl) (ev rfl) HLN.out) ?_
        simp only [Act.put, aa, ae, af]
        refine aO 2 (v := .bool false) rfl (ah rfl (ev rfl)) (by kernel_rfl) ?_
        simp only [bc, List.take_succ_cons, List.take_zero, List.drop_succ_cons, List.drop_zero, Act.put, List.setIfInBounds_toArray, List.set_cons_succ, List.set_cons_zero]
        refine ag (v := .bool false) rfl (aN rfl (ev rfl) evk) ?_
        simp only [Act.put, aa, ae, af]
        refine aO 3 (v := .bool false) rfl (ah rfl (ev rfl)) (by kernel_rfl) ?_
        simp only [bc, List.take_succ_cons, List.take_zero, List.drop_succ_cons, List.drop_zero, Act.put, List.setIfInBounds_toArray, List.set_cons_succ, List.set_cons_zero]
        refine ag (v := .bool false) rfl (aN rfl (ev rfl) evk) ?_
        simp only [Act.put, aa, ae, af]
        refine wpList_nil ?_
        refine forget 49 fun u49 => forget 50 fun u50 => forget 51 fun u51 => forget 52 fun u52 => forget 53 fun u53 => forget 54 fun u54 => forget 55 fun u55 => forget 56 fun u56 => forget 57 fun u57 => forget 58 fun u58 => forget 59 fun u59 => forget 60 fun u60 => forget 61 fun u61 => ?_
        simp only [List.set_cons_succ, List.set_cons_zero]
        exact tail_ u49 u50 u51 u52 u53 u54 u55 u56 u57 u58 u59 u60 u61 wr ⟨⟨_, HF.out⟩, HA.out⟩
      have HLN : Hid (decide ((j : Int) < (n1 : Int)) = true) := Lib.hid (decide_eq_true (by omega))
      by_cases h40 : j < 40
      rotate_left 1
      · have HM40 : Hid (decide ((j : Int) < 40) = false) := Lib.hid (decide_eq_false (by omega))
        clear hlt h40
        refine wp_region_lit ?_
        refine ag rfl (ah rfl (ev rfl)) ?_
        simp only [Act.put, aa, ae, af]
        refine ag rfl (ah rfl (ev rfl)) ?_
        simp only [Act.put, aa, ae, af]
        refine ag rfl (bQ Tryz.underlying41 rfl (ev rfl)) ?_
        simp only [Act.put, aa, ae, af]
        refine ag (v := .bool true) rfl (br true rfl (ev rfl) (ev rfl) HLN.out) ?_
        simp only [Act.put, aa, ae, af]
        refine ag (v := .bool true) rfl (ah rfl (ev rfl)) ?_
        simp only [Act.put, aa, ae, af]
        refine ai (aj rfl rfl rfl rfl) (ah rfl (ev rfl)) ?_
        simp only [Act.put, aa, ae, af]
        refine ai (v := .bool false) (aj rfl rfl rfl rfl) (br false rfl (ev rfl) evk HM40.out) ?_
        simp only [Act.put, aa, ae, af]
        refine ag (v := .bool false) rfl (aM rfl (ev rfl) (ev rfl)) ?_
        simp only [Act.put, aa, ae, af]
        refine aO 3 (v := .bool false) rfl (ah rfl (ev rfl)) (by kernel_rfl) ?_
        simp only [bc, List.take_succ_cons, List.take_zero, List.drop_succ_cons, List.drop_zero, Act.put, List.setIfInBounds_toArray, List.set_cons_succ, List.set_cons_zero]
        refine ag (v := .bool false) rfl (aN rfl (ev rfl) evk) ?_
        simp only [Act.put, aa, ae, af]
        refine wpList_nil ?_
        refine forget 49 fun u49 => forget 50 fun u50 => forget 51 fun u51 => forget 52 fun u52 => forget 53 fun u53 => forget 54 fun u54 => forget 55 fun u55 => forget 56 fun u56 => forget 57 fun u57 => forget 58 fun u58 => forget 59 fun u59 => forget 60 fun u60 => forget 61 fun u61 => ?_
        simp only [List.set_cons_succ, List.set_cons_zero]
        exact tail_ u49 u50 u51 u52 u53 u54 u55 u56 u57 u58 u59 u60 u61 wr ⟨⟨_, HF.out⟩, HA.out⟩
      have HM40 : Hid (decide ((j : Int) < 40) = true) := Lib.hid (decide_eq_true (by omega))
      by_cases hdk : dk = true
      · have HDK := Lib.hid hdk
        clear hlt h40 hdk
        refine wp_region_lit ?_
        refine ag rfl (ah rfl (ev rfl)) ?_
        simp only [Act.put, aa, ae, af]
        refine ag rfl (ah rfl (ev rfl)) ?_
        simp only [Act.put, aa, ae, af]
        refine ag rfl (bQ Tryz.underlying41 rfl (ev rfl)) ?_
        simp only [Act.put, aa, ae, af]
        refine ag (v := .bool true) rfl (br true rfl (ev rfl) (ev rfl) HLN.out) ?_
        simp only [Act.put, aa, ae, af]
        refine ag (v := .bool true) rfl (ah rfl (ev rfl)) ?_
        simp only [Act.put, aa, ae, af]
        refine ai (aj rfl rfl rfl rfl) (ah rfl (ev rfl)) ?_
        simp only [Act.put, aa, ae, af]
        refine ai (v := .bool true) (aj rfl rfl rfl rfl) (br true rfl (ev rfl) evk HM40.out) ?_
        simp only [Act.put, aa, ae, af]
        refine ag (v := .bool true) rfl (aM rfl (ev rfl) (ev rfl)) ?_
        simp only [Act.put, aa, ae, af]
        refine ag (v := .bool true) rfl (ah rfl (ev rfl)) ?_
        simp only [Act.put, aa, ae, af]
        refine ai (aj rfl rfl rfl rfl) (ah rfl (ev rfl)) ?_
        simp only [Act.put, aa, ae, af]
        refine ao (aj rfl rfl rfl rfl) (au Tryz.call16 rfl (evc (ev rfl) evn)) ?_
        refine HF.out.dark_.mono ?_
        rintro e w3 ⟨rfl, hb⟩
        rw [HDK.out]
        have HF3 := Lib.hid (HF.out.below hb)
        have HA3 := Lib.hid (HA.out.below hb)
        have HB3 := Lib.hid hb
        clear hb
        refine ⟨_, rfl, ?_⟩
        simp only [Act.put, aa, ae, af]
        refine ai (v := .bool false) (aj rfl rfl rfl rfl) (aX true rfl (ev rfl)) ?_
        simp only [Act.put, aa, ae, af]
        refine ag (v := .bool false) rfl (aM rfl (ev rfl) (ev rfl)) ?_
        simp only [Act.put, aa, ae, af]
        refine wpList_nil ?_
        refine forget 49 fun u49 => forget 50 fun u50 => forget 51 fun u51 => forget 52 fun u52 => forget 53 fun u53 => forget 54 fun u54 => forget 55 fun u55 => forget 56 fun u56 => forget 57 fun u57 => forget 58 fun u58 => forget 59 fun u59 => forget 60 fun u60 => forget 61 fun u61 => ?_
        simp only [List.set_cons_succ, List.set_cons_zero]
        exact tail_ u49 u50 u51 u52 u53 u54 u55 u56 u57 u58 u59 u60 u61 w3 ⟨⟨_, HF3.out⟩, HA3.out⟩
      have hdk2 : dk = false := by cases dk; rfl; exact absurd rfl hdk
      have HDK := Lib.hid hdk2
      obtain ⟨x, hl, hfs, hun, hla0⟩ := HLV.out hdk2
      have HLA0 := Lib.hid hla0
      rw [hfs, hun]
      have hl3 : True := trivial
      have HLL := Lib.hid hl
      have HJN := Lib.hid hlt
      have HJ : Hid (j ≤ 1000) := Lib.hid (by omega)
      clear hl hl3 hlt hdk hdk2 hla0 hfs hun
      refine wp_region_lit ?_
      refine ag rfl (ah rfl (ev rfl)) ?_
      simp only [Act.put, aa, ae, af]
      refine ag rfl (ah rfl (ev rfl)) ?_
      simp only [Act.put, aa, ae, af]
      refine ag rfl (bQ Tryz.underlying41 rfl (ev rfl)) ?_
      simp only [Act.put, aa, ae, af]
      refine ag (v := .bool true) rfl (br true rfl (ev rfl) (ev rfl) HLN.out) ?_
      simp only [Act.put, aa, ae, af]
      refine ag (v := .bool true) rfl (ah rfl (ev rfl)) ?_
      simp only [Act.put, aa, ae, af]
      refine ai (aj rfl rfl rfl rfl) (ah rfl (ev rfl)) ?_
      simp only [Act.put, aa, ae, af]
      refine ai (v := .bool true) (aj rfl rfl rfl rfl) (br true rfl (ev rfl) evk HM40.out) ?_
      simp only [Act.put, aa, ae, af]
      refine ag (v := .bool true) rfl (aM rfl (ev rfl) (ev rfl)) ?_
      simp only [Act.put, aa, ae, af]
      refine ag (v := .bool true) rfl (ah rfl (ev rfl)) ?_
      simp only [Act.put, aa, ae, af]
      refine ai (aj rfl rfl rfl rfl) (ah rfl (ev rfl)) ?_
      simp only [Act.put, aa, ae, af]
      refine ao (aj rfl rfl rfl rfl) (au Tryz.call16 rfl (evc (ev rfl) evn)) ?_
      refine HF.out.dark_.mono ?_
      rintro e w3 ⟨rfl, hb⟩
      rw [HDK.out]
      have HF3 := Lib.hid (HF.out.below hb)
      have HA3 := Lib.hid (HA.out.below hb)
      have HB3 := Lib.hid hb
      clear hb
      refine ⟨_, rfl, ?_⟩
      simp only [Act.put, aa, ae, af]
      refine ai (v := .bool true) (aj rfl rfl rfl rfl) (aX false rfl (ev rfl)) ?_
      simp only [Act.put, aa, ae, af]
      refine ag (v := .bool true) rfl (aM rfl (ev rfl) (ev rfl)) ?_
      simp only [Act.put, aa, ae, af]
      refine wpList_nil ?_
      have HS := Lib.hid (HLL.out.below HB3.out)
      have HN := Lib.hid HS.out.nums
      have HNIL : Hid (RdE bn w w.heap.size Al nl []) := Lib.hid (by have := HLA.out; rwa [HLA0.out] at this)
      clear HLL HF HA HF3 HLV HLA0 HDK HLA tail_
      clear la
      have HLA := HNIL
      clear HNIL
      obtain ⟨Av, cv, rfl, _⟩ := HA3.out.all.open_ HA3.out.len
      obtain ⟨ab, off, rfl, hab, hrg⟩ := (HRD.out.below HS.out.bel).2 j HJN.out
      obtain ⟨a, hsa⟩ : ∃ a, l1.getD j Step14.zero = a := ⟨_, rfl⟩
      have hi := HIN.out j HJN.out
      rw [hsa] at hi
      obtain ⟨cs, hcl, hc1, hc2⟩ := hi
      have hrg2 : w3.rangeAt ab (off + j * 3) a.C := by rw [← hsa]; exact hrg
      have HRG := Lib.hid hrg2
      have HCL := Lib.hid hcl
      have HCN : Hid (a.Csn ≤ maxLen) := Lib.hid (Nat.le_trans hc1 hc2)
      clear hsa hcl hc1 hc2 hrg hrg2 hab HB3
      go_upto_region 11 with fail
      refine wp_region_lit ?_
      refine ag rfl (ah rfl (ev rfl)) ?_
      simp only [Act.put, aa, ae, af]
      refine ag rfl (ah rfl (ev rfl)) ?_
      simp only [Act.put, aa, ae, af]
      refine ag rfl (a8 (E := Step14E) rfl (ev rfl) (ev rfl) HJN.out) ?_
      simp only [Act.put, aa, ae, af]
      refine ag rfl (exec_loadStep14 rfl (ev rfl) HRG.out) ?_
      simp only [Act.put, aa, ae, af]
      refine ag rfl (exec_allocStep14 rfl) ?_
      simp only [Act.put, aa, ae, af]
      refine aB rfl (exec_fillStep14 (c := Step14.zero) rfl (ev rfl) (ev rfl)) ?_
      simp only [Act.put, aa, ae, af]
      refine wpList_nil ?_
      have HT_ := Lib.hid (Step14.At_.new w3 a)
      have hal := (Below.refl w3.heap.size w3).alloc (Nat.le_refl _) (.cells a.C.toArray 48)
      have HS4 : Hid (cW w (fun b => K b ∨ b = w3.heap.size) (w3.alloc (.cells a.C.toArray 48)) q p j x L) := Lib.hid (HS.out.guard hal fun b e => e.imp id fun e => by subst e; rw [World.size_alloc]; omega)
      have HA4 := Lib.hid ((HA3.out.below hal).mono (K' := fun b => K b ∨ b = w3.heap.size) fun b e => .inl e)
      clear hal HS HA3 HRG
      generalize w3.alloc (.cells a.C.toArray 48) = w4 at *
      generalize w3.heap.size = bs at *
      have HLU : Hid (IntKind.u64.wrap ((L.length : Int) + 1) = ((L.length + 1 : Nat) : Int)) := Lib.hid (u64w (a := L.length + 1) (by have := HLJ.out; have := HJ.out; omega))
      go_upto_region 12 with fail
      refine wp_region_lit ?_
      refine ag rfl (ah rfl (ev rfl)) ?_
      simp only [Act.put, aa, ae, af]
      refine ag rfl (bQ Tryz.underlying46 rfl (ev rfl)) ?_
      simp only [Act.put, aa, ae, af]
      refine ag rfl (exec_cvIU rfl (ev rfl) (by have := HLJ.out; have := HJ.out; omega)) ?_
      simp only [Act.put, aa, ae, af]
      refine ag rfl (dM rfl (ev rfl) evk HLU.out) ?_
      simp only [Act.put, aa, ae, af]
      refine ag rfl (aq rfl (ev rfl)) ?_
      simp only [Act.put, aa, ae, af]
      refine wpList_nil ?_
      obtain ⟨cb, hcb⟩ : ∃ cb, a.Clear = cb := ⟨_, rfl⟩
      have HF0 := Lib.hid HT_.out.f0
      rw [hcb] at HF0
      clear hcb
      cases cb
      rotate_left 1
      ·
        go_upto_region 13 with fail
        refine wp_region_lit ?_
        refine ag rfl (ak rfl (ev rfl) faStep140) ?_
        simp only [Act.put, aa, ae, af]
        refine ag (v := .bool true) rfl (av rfl (ev rfl) (ldBoolA HF0.out)) ?_
        simp only [Act.put, aa, ae, af]
        refine wpList_nil ?_
        obtain ⟨r, hr⟩ : ∃ r, a.N.toNat % (x.nts.length + 1) = r := ⟨_, rfl⟩
        have hrl : r ≤ x.nts.length := by have := Nat.mod_lt a.N.toNat (show 0 < x.nts.length + 1 by omega); omega
        have HR : Hid ((a.N.toNat : Int).tmod ((x.nts.length + 1 : Nat) : Int) = (r : Int)) := Lib.hid (by rw [← hr]; rfl)
        have HSB : Hid (IntKind.u64.wrap (((L.length + 1 : Nat) : Int) - (x.fst : Int)) = (x.nts.length : Int)) := Lib.hid (by have := HN.out; rw [show ((L.length + 1 : Nat) : Int) - (x.fst : Int) = (x.nts.length : Int) from by omega]; exact u64w (by omega))
        have HAD : Hid (IntKind.u64.wrap ((x.nts.length : Int) + 1) = ((x.nts.length + 1 : Nat) : Int)) := Lib.hid (u64w (a := x.nts.length + 1) (by have := HN.out; omega))
        have HAF : Hid (IntKind.u64.wrap ((x.fst : Int) + (r : Int)) = ((x.fst + r : Nat) : Int)) := Lib.hid (by rw [← Int.natCast_add]; exact u64w (by have := HN.out; have := HJ.out; omega))
        have HQ : Hid (clrQ x (x.fst + r) = true) := Lib.hid (decide_eq_true ⟨by omega, by have := HN.out.2.1; omega⟩)
        have HUN : Hid (a.N.toNat < 256) := Lib.hid a.N.toNat_lt
        clear hr hrl
        go_upto_region 14 with fail
        refine wp_region_lit ?_
        refine ag rfl (ah rfl (ev rfl)) ?_
        simp only [Act.put, aa, ae, af]
        refine ag rfl (ak rfl (ev rfl) faStep141) ?_
        simp only [Act.put, aa, ae, af]
        refine ag rfl (av rfl (ev rfl) (ldU8 HT_.out.f1)) ?_
        simp only [Act.put, aa, ae, af]
        refine ag rfl (exec_cv8U rfl (ev rfl) HUN.out) ?_
        simp only [Act.put, aa, ae, af]
        refine ag rfl (ah rfl (ev rfl)) ?_
        simp only [Act.put, aa, ae, af]
        refine ag rfl (ah rfl (ev rfl)) ?_
        simp only [Act.put, aa, ae, af]
        refine ag rfl (exec_sbI rfl (ev rfl) (ev rfl) HSB.out) ?_
        simp only [Act.put, aa, ae, af]
        refine ag rfl (dM rfl (ev rfl) evk HAD.out) ?_
        simp only [Act.put, aa, ae, af]
        refine ag rfl (exec_remI rfl (ev rfl) (ev rfl) (by omega) HR.out) ?_
        simp only [Act.put, aa, ae, af]
        refine ag rfl (dM rfl (ev rfl) (ev rfl) HAF.out) ?_
        simp only [Act.put, aa, ae, af]
        refine ag rfl (aq rfl (ev rfl)) ?_
        simp only [Act.put, aa, ae, af]
        refine wpList_nil ?_
        go_upto_region 15 with fail
        refine wp_region_lit ?_
        refine ag rfl (ah rfl (ev rfl)) ?_
        simp only [Act.put, aa, ae, af]
        refine ag rfl (ah rfl (ev rfl)) ?_
        simp only [Act.put, aa, ae, af]
        refine ao rfl (au Tryz.call17 rfl (evc (ev rfl) (evc (ev rfl) evn))) ?_
        refine (HS4.out.clr (x.fst + r) HJ.out HQ.out).mono ?_
        rintro e w5 ⟨hk, E, rfl, hc⟩
        have HA5 := Lib.hid (HA4.out.kept hk)
        clear hk HS4 HA4
        refine ⟨_, rfl, ?_⟩
        simp only [Act.put, aa, ae, af]
        refine ag rfl (aq rfl (ev rfl)) ?_
        simp only [Act.put, aa, ae, af]
        refine wpList_nil ?_
        rcases hc with ⟨rfl, hs⟩ | ⟨rfl, hs⟩
        · have HS5 := Lib.hid hs
          clear hs
          go_upto_region 16 with fail
          refine wp_region_lit ?_
          refine ag rfl (ah rfl (ev rfl)) ?_
          simp only [Act.put, aa, ae, af]
          refine ag (v := .bool true) rfl (aI true rfl (ev rfl) evk rfl) ?_
          simp only [Act.put, aa, ae, af]
          refine wpList_nil ?_
          go_upto_region 17 with fail
          refine wp_region_lit ?_
          refine ag rfl (ah rfl (ev rfl)) ?_
          simp only [Act.put, aa, ae, af]
          refine ag rfl (aq rfl (ev rfl)) ?_
          simp only [Act.put, aa, ae, af]
          refine wpList_nil ?_
          go_upto_region 18 with fail
          refine wp_region_lit ?_
          refine ag rfl (ah rfl (ev rfl)) ?_
          simp only [Act.put, aa, ae, af]
          refine ag rfl (aq rfl (ev rfl)) ?_
          simp only [Act.put, aa, ae, af]
          refine wpList_nil ?_
          go_upto_region 19 with fail
          refine wp_region_lit ?_
          refine ag rfl (ah rfl (ev rfl)) ?_
          simp only [Act.put, aa, ae, af]
          refine ag (v := .bool false) rfl (aP false rfl (ev rfl) evk rfl) ?_
          simp only [Act.put, aa, ae, af]
          refine aO 2 (v := .bool false) rfl (ah rfl (ev rfl)) (by kernel_rfl) ?_
          simp only [bc, List.take_succ_cons, List.take_zero, List.drop_succ_cons, List.drop_zero, Act.put, List.setIfInBounds_toArray, List.set_cons_succ, List.set_cons_zero]
          refine ag (v := .bool false) rfl (aN rfl (ev rfl) evk) ?_
          simp only [Act.put, aa, ae, af]
          refine wpList_nil ?_
          have hj40 : j < 40 := by omega
          go_wp2_with fail
          go_roundw
          case rel => exact ⟨j + 1, _, _, _, _, _, _, _, _, _, _, by go_num, by omega, rfl, rfl, rfl, HLA.out, HNL.out, HA5.out, (by have := HLJ.out; omega), HS5.out.fin, (fun _ => ⟨_, HS5.out, rfl, rfl, rfl⟩)⟩
          case measure => simp [intOf]; omega
        · have HS5 := Lib.hid hs
          clear hs
          go_upto_region 16 with fail
          refine wp_region_lit ?_
          refine ag rfl (ah rfl (ev rfl)) ?_
          simp only [Act.put, aa, ae, af]
          refine ag (v := .bool false) rfl (aI false rfl (ev rfl) evk rfl) ?_
          simp only [Act.put, aa, ae, af]
          refine wpList_nil ?_
          go_upto_region 18 with fail
          refine wp_region_lit ?_
          refine ag rfl (ah rfl (ev rfl)) ?_
          simp only [Act.put, aa, ae, af]
          refine ag rfl (aq rfl (ev rfl)) ?_
          simp only [Act.put, aa, ae, af]
          refine wpList_nil ?_
          go_upto_region 19 with fail
          refine wp_region_lit ?_
          refine ag rfl (ah rfl (ev rfl)) ?_
          simp only [Act.put, aa, ae, af]
          refine ag (v := .bool true) rfl (aP true rfl (ev rfl) evk rfl) ?_
          simp only [Act.put, aa, ae, af]
          refine ag (v := .bool true) rfl (ah rfl (ev rfl)) ?_
          simp only [Act.put, aa, ae, af]
          refine ai (aj rfl rfl rfl rfl) (ah rfl (ev rfl)) ?_
          simp only [Act.put, aa, ae, af]
          refine ai (v := .bool false) (aj rfl rfl rfl rfl) (aP false rfl (ev rfl) evk rfl) ?_
          simp only [Act.put, aa, ae, af]
          refine ag (v := .bool false) rfl (aM rfl (ev rfl) (ev rfl)) ?_
          simp only [Act.put, aa, ae, af]
          refine wpList_nil ?_
          have hj40 : j < 40 := by omega
          go_wp2_with fail
          go_roundw
          case rel => exact ⟨j + 1, _, _, _, _, _, _, _, _, _, _, by go_num, by omega, rfl, rfl, rfl, HLA.out, HNL.out, HA5.out, (by have := HLJ.out; omega), HS5.out, (fun e => by cases e)⟩
          case measure => simp [intOf]; omega
      go_upto_region 13 with fail
      refine wp_region_lit ?_
      refine ag rfl (ak rfl (ev rfl) faStep140) ?_
      simp only [Act.put, aa, ae, af]
      refine ag (v := .bool false) rfl (av rfl (ev rfl) (ldBoolA HF0.out)) ?_
      simp only [Act.put, aa, ae, af]
      refine wpList_nil ?_
      go_upto_region 21 with fail
      refine wp_region_lit ?_
      refine ag rfl (ah rfl (ev rfl)) ?_
      simp only [Act.put, aa, ae, af]
      refine ag rfl (aq rfl (ev rfl)) ?_
      simp only [Act.put, aa, ae, af]
      refine wpList_nil ?_
      by_cases hg : 60 < a.Csn
      · have HG : Hid (decide (60 < a.Csn) = true) := Lib.hid (decide_eq_true hg)
        clear hg
        go_upto_region 22 with fail
        refine wp_region_lit ?_
        refine ag rfl (ak rfl (ev rfl) faStep142) ?_
        simp only [Act.put, aa, ae, af]
        refine ag rfl (av rfl (ev rfl) (ldClsA HT_.out.f2)) ?_
        simp only [Act.put, aa, ae, af]
        refine ao rfl (au Tryz.call18 rfl (evc (ev rfl) evn)) ?_
        refine (pgreat a.CsA a.Csn a.Csc _).mono ?_
        rintro e w5 ⟨rfl, rfl⟩
        rw [HG.out]
        refine ⟨_, rfl, ?_⟩
        simp only [Act.put, aa, ae, af]
        refine wpList_nil ?_
        have hj40 : j < 40 := by omega
        go_wp2_with fail
        go_roundw
        case rel => exact ⟨j + 1, _, _, _, _, _, _, _, _, _, _, by go_num, by omega, rfl, rfl, rfl, HLA.out, HNL.out, HA4.out, (by have := HLJ.out; omega), HS4.out.fin, (fun _ => ⟨_, HS4.out.more (Nat.le_succ j), rfl, rfl, rfl⟩)⟩
        case measure => simp [intOf]; omega
      have HG : Hid (decide (60 < a.Csn) = false) := Lib.hid (decide_eq_false hg)
      clear hg
      go_upto_region 22 with fail
      refine wp_region_lit ?_
      refine ag rfl (ak rfl (ev rfl) faStep142) ?_
      simp only [Act.put, aa, ae, af]
      refine ag rfl (av rfl (ev rfl) (ldClsA HT_.out.f2)) ?_
      simp only [Act.put, aa, ae, af]
      refine ao rfl (au Tryz.call18 rfl (evc (ev rfl) evn)) ?_
      refine (pgreat a.CsA a.Csn a.Csc _).mono ?_
      rintro e w5 ⟨rfl, rfl⟩
      rw [HG.out]
      refine ⟨_, rfl, ?_⟩
      simp only [Act.put, aa, ae, af]
      refine wpList_nil ?_
      go_upto_region 23 with fail
      refine wp_region_lit ?_
      refine ag rfl (ah rfl (ev rfl)) ?_
      simp only [Act.put, aa, ae, af]
      refine ag rfl (ak rfl (ev rfl) faStep142) ?_
      simp only [Act.put, aa, ae, af]
      refine ag rfl (av rfl (ev rfl) (ldClsA HT_.out.f2)) ?_
      simp only [Act.put, aa, ae, af]
      refine ao rfl (au Tryz.call19 rfl (evc (ev rfl) (evc (ev rfl) evn))) ?_
      refine (HS4.out.app a.CsA a.Csn a.Csc w.heap.size cs HJ.out (HCL.out.below HS4.out.bel) HS4.out.bel.size HCN.out).mono ?_
      rintro e w5 ⟨hk, an, E, rfl, hc⟩
      have HA5 := Lib.hid (HA4.out.kept hk)
      have HT5 : Hid (Step14.At_ w5 bs a) := Lib.hid ((hk bs (.inr rfl)).trans HT_.out)
      clear hk HS4 HA4 HT_
      have HT_ := HT5
      clear HT5
      refine ⟨_, rfl, ?_⟩
      simp only [Act.put, aa, ae, af]
      refine ag rfl (ah rfl (ev rfl)) ?_
      simp only [Act.put, aa, ae, af]
      refine ag rfl (aC rfl (ev rfl) rfl) ?_
      simp only [Act.put, aa, ae, af]
      refine ag rfl (aC rfl (ev rfl) rfl) ?_
      simp only [Act.put, aa, ae, af]
      refine ag rfl (aq rfl (ev rfl)) ?_
      simp only [Act.put, aa, ae, af]
      refine ag rfl (aq rfl (ev rfl)) ?_
      simp only [Act.put, aa, ae, af]
      refine wpList_nil ?_
      rcases hc with ⟨rfl, rfl, hl2, x', hxf, hs⟩ | ⟨hE0, hE8, hs⟩ | ⟨rfl, hl2, hs⟩
      · have HS5 := Lib.hid hs
        have HXF := Lib.hid hxf
        have hcn : a.Csn = cs.length := (HCL.out.1).symm
        have HCC : Hid (a.Csn ≤ 1759218604390) := Lib.hid (by omega)
        have HNX : Hid (((x.next : Int) != ((L.length + 1 : Nat) : Int)) = false) := Lib.hid (by rw [HN.out.1]; exact bne_self_eq_false _)
        clear hs hl2 hxf hcn
        go_upto_region 24 with fail
        refine wp_region_lit ?_
        refine ag rfl (ah rfl (ev rfl)) ?_
        simp only [Act.put, aa, ae, af]
        refine ag (v := .bool true) rfl (aI true rfl (ev rfl) evk rfl) ?_
        simp only [Act.put, aa, ae, af]
        refine wpList_nil ?_
        go_upto_region 25 with fail
        refine wp_region_lit ?_
        refine ag rfl (ah rfl (ev rfl)) ?_
        simp only [Act.put, aa, ae, af]
        refine ag rfl (ah rfl (ev rfl)) ?_
        simp only [Act.put, aa, ae, af]
        refine ag (v := .bool false) rfl (aP false rfl (ev rfl) (ev rfl) HNX.out) ?_
        simp only [Act.put, aa, ae, af]
        refine wpList_nil ?_
        go_upto_region 27 with fail
        refine wp_region_lit ?_
        refine ag rfl (ah rfl (ev rfl)) ?_
        simp only [Act.put, aa, ae, af]
        refine ag rfl (ak rfl (ev rfl) faStep142) ?_
        simp only [Act.put, aa, ae, af]
        refine ag rfl (av rfl (ev rfl) (ldClsA HT_.out.f2)) ?_
        simp only [Act.put, aa, ae, af]
        refine ao rfl (au Tryz.call20 rfl (evc (ev rfl) evn)) ?_
        refine (copyC_any a.CsA a.Csn a.Csc w.heap.size _ cs w5 (Lib.hid rfl) (HCL.out.below HS5.out.bel) HS5.out.bel.size HCC.out).mono ?_
        rintro e w6 ⟨vc, rfl, hmc, hb3⟩
        obtain ⟨Ac, cc, rfl, v7, w7, K7, hrun, hs7, ha7⟩ := cut_add 46 HS5.out HA5.out hmc hb3 (by have := HLJ.out; have := HJ.out; omega)
        have HRUN := Lib.hid hrun
        have HS7 := Lib.hid hs7
        have HA7 := Lib.hid ha7
        clear hmc hb3 hrun hs7 ha7
        refine ⟨_, rfl, ?_⟩
        simp only [Act.put, aa, ae, af]
        refine ag rfl (dc (E := dm) (a := ⟨Ac, cs.length, cc⟩) rfl (ev rfl) rfl (by show 1 ≤ _; omega)) ?_
        simp only [Act.put, aa, ae, af]
        refine ag rfl (fB (E := dm) rfl (ev rfl) (ev rfl) HRUN.out) ?_
        simp only [Act.put, aa, ae, af]
        refine ag rfl (aq rfl (ev rfl)) ?_
        simp only [Act.put, aa, ae, af]
        refine wpList_nil ?_
        go_upto_region 28 with fail
        refine wp_region_lit ?_
        refine ag rfl (aq rfl evk) ?_
        simp only [Act.put, aa, ae, af]
        refine wpList_nil ?_
        go_upto_region 29 with fail
        refine wp_region_lit ?_
        refine ag rfl (ah rfl (ev rfl)) ?_
        simp only [Act.put, aa, ae, af]
        refine ag (v := .bool false) rfl (aI false rfl (ev rfl) evk rfl) ?_
        simp only [Act.put, aa, ae, af]
        refine wpList_nil ?_
        have hj40 : j < 40 := by omega
        go_wp2_with fail
        go_roundw
        case rel => exact ⟨j + 1, _, _, _, _, _, _, _, _, _, _, by go_num, by omega, rfl, rfl, rfl, RdE.nil _ _ _, (by omega), HA7.out, (by have := HLJ.out; rw [List.length_append]; exact Nat.add_le_add_right this 1), (by have := HS7.out.fin; rwa [HXF.out] at this), (fun _ => ⟨_, HS7.out, HXF.out.symm, HXF.out.symm, rfl⟩)⟩
        case measure => simp [intOf]; omega
      · have HE0 : Hid ((E == 0) = false) := Lib.hid (by rw [beq_eq_false_iff_ne]; exact hE0)
        have HE8 : Hid ((E == 8) = false) := Lib.hid (by rw [beq_eq_false_iff_ne]; exact hE8)
        have HS5 := Lib.hid hs
        clear hE0 hE8 hs
        go_upto_region 24 with fail
        refine wp_region_lit ?_
        refine ag rfl (ah rfl (ev rfl)) ?_
        simp only [Act.put, aa, ae, af]
        refine ag (v := .bool false) rfl (aI false rfl (ev rfl) evk HE0.out) ?_
        simp only [Act.put, aa, ae, af]
        refine wpList_nil ?_
        go_upto_region 28 with fail
        refine wp_region_lit ?_
        refine ag rfl (aq rfl evk) ?_
        simp only [Act.put, aa, ae, af]
        refine wpList_nil ?_
        go_upto_region 29 with fail
        refine wp_region_lit ?_
        refine ag rfl (ah rfl (ev rfl)) ?_
        simp only [Act.put, aa, ae, af]
        refine ag (v := .bool false) rfl (aI false rfl (ev rfl) evk HE8.out) ?_
        simp only [Act.put, aa, ae, af]
        refine wpList_nil ?_
        have hj40 : j < 40 := by omega
        go_wp2_with fail
        go_roundw
        case rel => exact ⟨j + 1, _, _, _, _, _, _, _, _, _, _, by go_num, by omega, rfl, rfl, rfl, RdE.nil _ _ _, (by omega), HA5.out, (by have := HLJ.out; omega), HS5.out.fin, (fun _ => ⟨_, HS5.out, rfl, rfl, rfl⟩)⟩
        case measure => simp [intOf]; omega
      · have HS5 := Lib.hid hs
        clear hs hl2
        go_upto_region 24 with fail
        refine wp_region_lit ?_
        refine ag rfl (ah rfl (ev rfl)) ?_
        simp only [Act.put, aa, ae, af]
        refine ag (v := .bool false) rfl (aI false rfl (ev rfl) evk rfl) ?_
        simp only [Act.put, aa, ae, af]
        refine wpList_nil ?_
        go_upto_region 28 with fail
        refine wp_region_lit ?_
        refine ag rfl (aq rfl evk) ?_
        simp only [Act.put, aa, ae, af]
        refine wpList_nil ?_
        go_upto_region 29 with fail
        refine wp_region_lit ?_
        refine ag rfl (ah rfl (ev rfl)) ?_
        simp only [Act.put, aa, ae, af]
        refine ag (v := .bool true) rfl (aI true rfl (ev rfl) evk rfl) ?_
        simp only [Act.put, aa, ae, af]
        refine wpList_nil ?_
        go_upto_region 30 with fail
        refine wp_region_lit ?_
        refine ag rfl (ak rfl (ev rfl) faStep142) ?_
        simp only [Act.put, aa, ae, af]
        refine ag rfl (av rfl (ev rfl) (ldClsA HT_.out.f2)) ?_
        simp only [Act.put, aa, ae, af]
        refine ag rfl (aq rfl (ev rfl)) ?_
        simp only [Act.put, aa, ae, af]
        refine wpList_nil ?_
        have hj40 : j < 40 := by omega
        go_wp2_with fail
        go_roundw
        case rel => exact ⟨j + 1, _, _, _, _, _, _, _, _, _, _, by go_num, by omega, rfl, rfl, rfl, HCL.out, HCN.out, HA5.out, (by have := HLJ.out; omega), HS5.out, (fun e => by cases e)⟩
        case measure => simp [intOf]; omega
    · intro u49 u50 u51 u52 u53 u54 u55 u56 u57 u58 u59 u60 u61 wz hf
      clear HA HF HLV
      obtain ⟨⟨dk, hf⟩, ha⟩ := hf
      have HF := Lib.hid hf
      have HA := Lib.hid ha
      clear hf ha
      have HL4 : Hid (L.length ≤ 40) := Lib.hid (by have := HLJ.out; omega)
      obtain ⟨Av, cv, rfl, _⟩ := HA.out.all.open_ HA.out.len
      go_upto_region 31 with fail
      refine wp_region_lit ?_
      refine ag rfl (ah rfl (ev rfl)) ?_
      simp only [Act.put, aa, ae, af]
      refine ag rfl (ah rfl (ev rfl)) ?_
      simp only [Act.put, aa, ae, af]
      refine ao rfl (au Tryz.call21 rfl (evc (ev rfl) (evc (ev rfl) evn))) ?_
      refine (HF.out.crash HR3.out HN3.out HC3.out).mono ?_
      rintro e w3 ⟨rfl, ho, hk⟩
      have HO := Lib.hid ho
      have HA3 := Lib.hid (HA.out.kept hk)
      clear HF HA ho hk
      refine ⟨_, rfl, ?_⟩
      simp only [Act.put, aa, ae, af]
      refine ag (v := .bool false) rfl (aP false rfl (ev rfl) evk rfl) ?_
      simp only [Act.put, aa, ae, af]
      refine wpList_nil ?_
      go_upto_region 33 with fail
      refine wp_region_lit ?_
      refine ag rfl (ah rfl (ev rfl)) ?_
      simp only [Act.put, aa, ae, af]
      refine ao rfl (au Tryz.call22 rfl (evc (ev rfl) (evc evk evn))) ?_
      refine HO.out.open_.mono ?_
      rintro e w4 ⟨p', x, rfl, hr, hk, hfst, hnxt, hf1, hfn⟩
      have HR := Lib.hid hr
      have HA4 := Lib.hid (HA3.out.kept hk)
      have HFS := Lib.hid hfst
      have HNX := Lib.hid hnxt
      have HF1 := Lib.hid (And.intro hf1 hfn)
      clear HO HA3 hr hk hfst hnxt hf1 hfn
      refine ⟨_, rfl, ?_⟩
      simp only [Act.put, aa, ae, af]
      refine ag rfl (ah rfl (ev rfl)) ?_
      simp only [Act.put, aa, ae, af]
      refine ag rfl (aC rfl (ev rfl) rfl) ?_
      simp only [Act.put, aa, ae, af]
      refine ag rfl (aC rfl (ev rfl) rfl) ?_
      simp only [Act.put, aa, ae, af]
      refine ag rfl (aq rfl (ev rfl)) ?_
      simp only [Act.put, aa, ae, af]
      refine ag rfl (aq rfl (ev rfl)) ?_
      simp only [Act.put, aa, ae, af]
      refine wpList_nil ?_
      go_upto_region 34 with fail
      refine wp_region_lit ?_
      refine ag rfl (ah rfl (ev rfl)) ?_
      simp only [Act.put, aa, ae, af]
      refine ag (v := .bool false) rfl (aP false rfl (ev rfl) evk rfl) ?_
      simp only [Act.put, aa, ae, af]
      refine wpList_nil ?_
      go_upto_region 36 with fail
      refine wp_region_lit ?_
      refine ag rfl (ah rfl (ev rfl)) ?_
      simp only [Act.put, aa, ae, af]
      refine ao rfl (au Tryz.call23 rfl (evc (ev rfl) evn)) ?_
      refine HR.out.live.mono ?_
      rintro e w5 ⟨rfl, hb⟩
      have HR5 := Lib.hid (HR.out.below hb)
      have HA5 := Lib.hid (HA4.out.below hb)
      clear HR HA4 hb
      refine ⟨_, rfl, ?_⟩
      simp only [Act.put, aa, ae, af]
      refine ag rfl (ah rfl (ev rfl)) ?_
      simp only [Act.put, aa, ae, af]
      refine ag rfl (aC rfl (ev rfl) rfl) ?_
      simp only [Act.put, aa, ae, af]
      refine ag rfl (aC rfl (ev rfl) rfl) ?_
      simp only [Act.put, aa, ae, af]
      refine ag rfl (aq rfl (ev rfl)) ?_
      simp only [Act.put, aa, ae, af]
      refine ag rfl (aq rfl (ev rfl)) ?_
      simp only [Act.put, aa, ae, af]
      refine wpList_nil ?_
      have HLU : Hid (IntKind.u64.wrap ((L.length : Int) + 1) = ((L.length + 1 : Nat) : Int)) := Lib.hid (u64w (a := L.length + 1) (by have := HL4.out; omega))
      have HLV : Hid (IntKind.u64.wrap (((L.length + 1 : Nat) : Int) + 1) = ((L.length + 2 : Nat) : Int)) := Lib.hid (u64w (a := L.length + 2) (by have := HL4.out; omega))
      have HX2 : Hid (x.next ≤ 2000) := Lib.hid (by have := HNX.out; have := HL4.out; omega)
      go_upto_region 37 with fail
      refine wp_region_lit ?_
      refine ag rfl (ah rfl (ev rfl)) ?_
      simp only [Act.put, aa, ae, af]
      refine ag rfl (bQ Tryz.underlying46 rfl (ev rfl)) ?_
      simp only [Act.put, aa, ae, af]
      refine ag rfl (exec_cvIU rfl (ev rfl) (by have := HL4.out; omega)) ?_
      simp only [Act.put, aa, ae, af]
      refine ag rfl (dM rfl (ev rfl) evk HLU.out) ?_
      simp only [Act.put, aa, ae, af]
      refine ag rfl (aq rfl (ev rfl)) ?_
      simp only [Act.put, aa, ae, af]
      refine wpList_nil ?_
      go_upto_region 38 with fail
      apply share24
      · intro tail_
        by_cases hc1 : x.fst = fs
        · have HC1 : Hid (((x.fst : Int) != (fs : Int)) = false) := Lib.hid (by rw [hc1]; exact bne_self_eq_false _)
          clear hc1
          by_cases hc2 : x.next = L.length + 1
          · have HC2 : Hid (((x.next : Int) != ((L.length + 1 : Nat) : Int)) = false) := Lib.hid (by rw [hc2]; exact bne_self_eq_false _)
            clear hc2
            refine wp_region_lit ?_
            refine ag rfl (ah rfl (ev rfl)) ?_
            simp only [Act.put, aa, ae, af]
            refine ag rfl (ah rfl (ev rfl)) ?_
            simp only [Act.put, aa, ae, af]
            refine ag (v := .bool false) rfl (aP false rfl (ev rfl) (ev rfl) HC1.out) ?_
            simp only [Act.put, aa, ae, af]
            refine aO 3 (v := .bool false) rfl (ah rfl (ev rfl)) (by kernel_rfl) ?_
            simp only [bc, List.take_succ_cons, List.take_zero, List.drop_succ_cons, List.drop_zero, Act.put, List.setIfInBounds_toArray, List.set_cons_succ, List.set_cons_zero]
            refine ag (v := .bool false) rfl (aN rfl (ev rfl) evk) ?_
            simp only [Act.put, aa, ae, af]
            refine ag (v := .bool false) rfl (ah rfl (ev rfl)) ?_
            simp only [Act.put, aa, ae, af]
            refine ai (aj rfl rfl rfl rfl) (ah rfl (ev rfl)) ?_
            simp only [Act.put, aa, ae, af]
            refine ai (aj rfl rfl rfl rfl) (ah rfl (ev rfl)) ?_
            simp only [Act.put, aa, ae, af]
            refine ai (v := .bool false) (aj rfl rfl rfl rfl) (aP false rfl (ev rfl) (ev rfl) HC2.out) ?_
            simp only [Act.put, aa, ae, af]
            refine aO 9 (v := .bool false) (aj rfl rfl rfl rfl) (ah rfl (ev rfl)) (by kernel_rfl) ?_
            simp only [bc, List.take_succ_cons, List.take_zero, List.drop_succ_cons, List.drop_zero, Act.put, List.setIfInBounds_toArray, List.set_cons_succ, List.set_cons_zero]
            refine ai (v := .bool false) (aj rfl rfl rfl rfl) (aN rfl (ev rfl) evk) ?_
            simp only [Act.put, aa, ae, af]
            refine ag (v := .bool false) rfl (aN rfl (ev rfl) (ev rfl)) ?_
            simp only [Act.put, aa, ae, af]
            refine wpList_nil ?_
            refine forget 143 fun u143 => forget 144 fun u144 => forget 145 fun u145 => forget 146 fun u146 => forget 147 fun u147 => forget 148 fun u148 => forget 149 fun u149 => forget 150 fun u150 => forget 151 fun u151 => forget 152 fun u152 => forget 153 fun u153 => forget 154 fun u154 => forget 155 fun u155 => forget 156 fun u156 => forget 157 fun u157 => forget 158 fun u158 => forget 159 fun u159 => forget 160 fun u160 => forget 161 fun u161 => forget 162 fun u162 => forget 163 fun u163 => forget 164 fun u164 => forget 165 fun u165 => forget 166 fun u166 => ?_
            simp only [List.set_cons_succ, List.set_cons_zero]
            exact tail_ u143 u144 u145 u146 u147 u148 u149 u150 u151 u152 u153 u154 u155 u156 u157 u158 u159 u160 u161 u162 u163 u164 u165 u166
          · have HC2 : Hid (((x.next : Int) != ((L.length + 1 : Nat) : Int)) = true) := Lib.hid (by rw [bne_iff_ne]; omega)
            obtain ⟨hne, hn2⟩ := HNX.out.resolve_left hc2
            have hnl0 : nl ≠ 0 := fun e => hne (List.length_eq_zero_iff.1 (HLA.out.1.trans e))
            have HC4 : Hid (((nl : Int) == 0) = false) := Lib.hid (by rw [beq_eq_false_iff_ne]; omega)
            have HC5 : Hid (((x.next : Int) != ((L.length + 2 : Nat) : Int)) = false) := Lib.hid (by rw [hn2]; exact bne_self_eq_false _)
            clear hc2 hne hn2 hnl0
            refine wp_region_lit ?_
            refine ag rfl (ah rfl (ev rfl)) ?_
            simp only [Act.put, aa, ae, af]
            refine ag rfl (ah rfl (ev rfl)) ?_
            simp only [Act.put, aa, ae, af]
            refine ag (v := .bool false) rfl (aP false rfl (ev rfl) (ev rfl) HC1.out) ?_
            simp only [Act.put, aa, ae, af]
            refine aO 3 (v := .bool false) rfl (ah rfl (ev rfl)) (by kernel_rfl) ?_
            simp only [bc, List.take_succ_cons, List.take_zero, List.drop_succ_cons, List.drop_zero, Act.put, List.setIfInBounds_toArray, List.set_cons_succ, List.set_cons_zero]
            refine ag (v := .bool false) rfl (aN rfl (ev rfl) evk) ?_
            simp only [Act.put, aa, ae, af]
            refine ag (v := .bool false) rfl (ah rfl (ev rfl)) ?_
            simp only [Act.put, aa, ae, af]
            refine ai (aj rfl rfl rfl rfl) (ah rfl (ev rfl)) ?_
            simp only [Act.put, aa, ae, af]
            refine ai (aj rfl rfl rfl rfl) (ah rfl (ev rfl)) ?_
            simp only [Act.put, aa, ae, af]
            refine ai (v := .bool true) (aj rfl rfl rfl rfl) (aP true rfl (ev rfl) (ev rfl) HC2.out) ?_
            simp only [Act.put, aa, ae, af]
            refine ai (v := .bool true) (aj rfl rfl rfl rfl) (ah rfl (ev rfl)) ?_
            simp only [Act.put, aa, ae, af]
            refine ai (aj rfl rfl rfl rfl) (ah rfl (ev rfl)) ?_
            simp only [Act.put, aa, ae, af]
            refine ai (aj rfl rfl rfl rfl) (bQ Tryz.underlying34 rfl (ev rfl)) ?_
            simp only [Act.put, aa, ae, af]
            refine ai (v := .bool false) (aj rfl rfl rfl rfl) (aI false rfl (ev rfl) evk HC4.out) ?_
            simp only [Act.put, aa, ae, af]
            refine ai (v := .bool false) (aj rfl rfl rfl rfl) (ah rfl (ev rfl)) ?_
            simp only [Act.put, aa, ae, af]
            refine ai (aj rfl rfl rfl rfl) (ah rfl (ev rfl)) ?_
            simp only [Act.put, aa, ae, af]
            refine ai (aj rfl rfl rfl rfl) (ah rfl (ev rfl)) ?_
            simp only [Act.put, aa, ae, af]
            refine ai (aj rfl rfl rfl rfl) (dM rfl (ev rfl) evk HLV.out) ?_
            simp only [Act.put, aa, ae, af]
            refine ai (v := .bool false) (aj rfl rfl rfl rfl) (aP false rfl (ev rfl) (ev rfl) HC5.out) ?_
            simp only [Act.put, aa, ae, af]
            refine ai (v := .bool false) (aj rfl rfl rfl rfl) (aN rfl (ev rfl) (ev rfl)) ?_
            simp only [Act.put, aa, ae, af]
            refine ai (v := .bool false) (aj rfl rfl rfl rfl) (aM rfl (ev rfl) (ev rfl)) ?_
            simp only [Act.put, aa, ae, af]
            refine ag (v := .bool false) rfl (aN rfl (ev rfl) (ev rfl)) ?_
            simp only [Act.put, aa, ae, af]
            refine wpList_nil ?_
            refine forget 143 fun u143 => forget 144 fun u144 => forget 145 fun u145 => forget 146 fun u146 => forget 147 fun u147 => forget 148 fun u148 => forget 149 fun u149 => forget 150 fun u150 => forget 151 fun u151 => forget 152 fun u152 => forget 153 fun u153 => forget 154 fun u154 => forget 155 fun u155 => forget 156 fun u156 => forget 157 fun u157 => forget 158 fun u158 => forget 159 fun u159 => forget 160 fun u160 => forget 161 fun u161 => forget 162 fun u162 => forget 163 fun u163 => forget 164 fun u164 => forget 165 fun u165 => forget 166 fun u166 => ?_
            simp only [List.set_cons_succ, List.set_cons_zero]
            exact tail_ u143 u144 u145 u146 u147 u148 u149 u150 u151 u152 u153 u154 u155 u156 u157 u158 u159 u160 u161 u162 u163 u164 u165 u166
        · have HC1 : Hid (((x.fst : Int) != (fs : Int)) = true) := Lib.hid (by rw [bne_iff_ne]; omega)
          have HC3_ : Hid (((x.fst : Int) != (un : Int)) = false) := Lib.hid (by rw [HFS.out.resolve_left hc1]; exact bne_self_eq_false _)
          clear hc1
          by_cases hc2 : x.next = L.length + 1
          · have HC2 : Hid (((x.next : Int) != ((L.length + 1 : Nat) : Int)) = false) := Lib.hid (by rw [hc2]; exact bne_self_eq_false _)
            clear hc2
            refine wp_region_lit ?_
            refine ag rfl (ah rfl (ev rfl)) ?_
            simp only [Act.put, aa, ae, af]
            refine ag rfl (ah rfl (ev rfl)) ?_
            simp only [Act.put, aa, ae, af]
            refine ag (v := .bool true) rfl (aP true rfl (ev rfl) (ev rfl) HC1.out) ?_
            simp only [Act.put, aa, ae, af]
            refine ag (v := .bool true) rfl (ah rfl (ev rfl)) ?_
            simp only [Act.put, aa, ae, af]
            refine ai (aj rfl rfl rfl rfl) (ah rfl (ev rfl)) ?_
            simp only [Act.put, aa, ae, af]
            refine ai (aj rfl rfl rfl rfl) (ah rfl (ev rfl)) ?_
            simp only [Act.put, aa, ae, af]
            refine ai (v := .bool false) (aj rfl rfl rfl rfl) (aP false rfl (ev rfl) (ev rfl) HC3_.out) ?_
            simp only [Act.put, aa, ae, af]
            refine ag (v := .bool false) rfl (aM rfl (ev rfl) (ev rfl)) ?_
            simp only [Act.put, aa, ae, af]
            refine ag (v := .bool false) rfl (ah rfl (ev rfl)) ?_
            simp only [Act.put, aa, ae, af]
            refine ai (aj rfl rfl rfl rfl) (ah rfl (ev rfl)) ?_
            simp only [Act.put, aa, ae, af]
            refine ai (aj rfl rfl rfl rfl) (ah rfl (ev rfl)) ?_
            simp only [Act.put, aa, ae, af]
            refine ai (v := .bool false) (aj rfl rfl rfl rfl) (aP false rfl (ev rfl) (ev rfl) HC2.out) ?_
            simp only [Act.put, aa, ae, af]
            refine aO 9 (v := .bool false) (aj rfl rfl rfl rfl) (ah rfl (ev rfl)) (by kernel_rfl) ?_
            simp only [bc, List.take_succ_cons, List.take_zero, List.drop_succ_cons, List.drop_zero, Act.put, List.setIfInBounds_toArray, List.set_cons_succ, List.set_cons_zero]
            refine ai (v := .bool false) (aj rfl rfl rfl rfl) (aN rfl (ev rfl) evk) ?_
            simp only [Act.put, aa, ae, af]
            refine ag (v := .bool false) rfl (aN rfl (ev rfl) (ev rfl)) ?_
            simp only [Act.put, aa, ae, af]
            refine wpList_nil ?_
            refine forget 143 fun u143 => forget 144 fun u144 => forget 145 fun u145 => forget 146 fun u146 => forget 147 fun u147 => forget 148 fun u148 => forget 149 fun u149 => forget 150 fun u150 => forget 151 fun u151 => forget 152 fun u152 => forget 153 fun u153 => forget 154 fun u154 => forget 155 fun u155 => forget 156 fun u156 => forget 157 fun u157 => forget 158 fun u158 => forget 159 fun u159 => forget 160 fun u160 => forget 161 fun u161 => forget 162 fun u162 => forget 163 fun u163 => forget 164 fun u164 => forget 165 fun u165 => forget 166 fun u166 => ?_
            simp only [List.set_cons_succ, List.set_cons_zero]
            exact tail_ u143 u144 u145 u146 u147 u148 u149 u150 u151 u152 u153 u154 u155 u156 u157 u158 u159 u160 u161 u162 u163 u164 u165 u166
          · have HC2 : Hid (((x.next : Int) != ((L.length + 1 : Nat) : Int)) = true) := Lib.hid (by rw [bne_iff_ne]; omega)
            obtain ⟨hne, hn2⟩ := HNX.out.resolve_left hc2
            have hnl0 : nl ≠ 0 := fun e => hne (List.length_eq_zero_iff.1 (HLA.out.1.trans e))
            have HC4 : Hid (((nl : Int) == 0) = false) := Lib.hid (by rw [beq_eq_false_iff_ne]; omega)
            have HC5 : Hid (((x.next : Int) != ((L.length + 2 : Nat) : Int)) = false) := Lib.hid (by rw [hn2]; exact bne_self_eq_false _)
            clear hc2 hne hn2 hnl0
            refine wp_region_lit ?_
            refine ag rfl (ah rfl (ev rfl)) ?_
            simp only [Act.put, aa, ae, af]
            refine ag rfl (ah rfl (ev rfl)) ?_
            simp only [Act.put, aa, ae, af]
            refine ag (v := .bool true) rfl (aP true rfl (ev rfl) (ev rfl) HC1.out) ?_
            simp only [Act.put, aa, ae, af]
            refine ag (v := .bool true) rfl (ah rfl (ev rfl)) ?_
            simp only [Act.put, aa, ae, af]
            refine ai (aj rfl rfl rfl rfl) (ah rfl (ev rfl)) ?_
            simp only [Act.put, aa, ae, af]
            refine ai (aj rfl rfl rfl rfl) (ah rfl (ev rfl)) ?_
            simp only [Act.put, aa, ae, af]
            refine ai (v := .bool false) (aj rfl rfl rfl rfl) (aP false rfl (ev rfl) (ev rfl) HC3_.out) ?_
            simp only [Act.put, aa, ae, af]
            refine ag (v := .bool false) rfl (aM rfl (ev rfl) (ev rfl)) ?_
            simp only [Act.put, aa, ae, af]
            refine ag (v := .bool false) rfl (ah rfl (ev rfl)) ?_
            simp only [Act.put, aa, ae, af]
            refine ai (aj rfl rfl rfl rfl) (ah rfl (ev rfl)) ?_
            simp only [Act.put, aa, ae, af]
            refine ai (aj rfl rfl rfl rfl) (ah rfl (ev rfl)) ?_
            simp only [Act.put, aa, ae, af]
            refine ai (v := .bool true) (aj rfl rfl rfl rfl) (aP true rfl (ev rfl) (ev rfl) HC2.out) ?_
            simp only [Act.put, aa, ae, af]
            refine ai (v := .bool true) (aj rfl rfl rfl rfl) (ah rfl (ev rfl)) ?_
            simp only [Act.put, aa, ae, af]
            refine ai (aj rfl rfl rfl rfl) (ah rfl (ev rfl)) ?_
            simp only [Act.put, aa, ae, af]
            refine ai (aj rfl rfl rfl rfl) (bQ Tryz.underlying34 rfl (ev rfl)) ?_
            simp only [Act.put, aa, ae, af]
            refine ai (v := .bool false) (aj rfl rfl rfl rfl) (aI false rfl (ev rfl) evk HC4.out) ?_
            simp only [Act.put, aa, ae, af]
            refine ai (v := .bool false) (aj rfl rfl rfl rfl) (ah rfl (ev rfl)) ?_
            simp only [Act.put, aa, ae, af]
            refine ai (aj rfl rfl rfl rfl) (ah rfl (ev rfl)) ?_
            simp only [Act.put, aa, ae, af]
            refine ai (aj rfl rfl rfl rfl) (ah rfl (ev rfl)) ?_
            simp only [Act.put, aa, ae, af]
            refine ai (aj rfl rfl rfl rfl) (dM rfl (ev rfl) evk HLV.out) ?_
            simp only [Act.put, aa, ae, af]
            refine ai (v := .bool false) (aj rfl rfl rfl rfl) (aP false rfl (ev rfl) (ev rfl) HC5.out) ?_
            simp only [Act.put, aa, ae, af]
            refine ai (v := .bool false) (aj rfl rfl rfl rfl) (aN rfl (ev rfl) (ev rfl)) ?_
            simp only [Act.put, aa, ae, af]
            refine ai (v := .bool false) (aj rfl rfl rfl rfl) (aM rfl (ev rfl) (ev rfl)) ?_
            simp only [Act.put, aa, ae, af]
            refine ag (v := .bool false) rfl (aN rfl (ev rfl) (ev rfl)) ?_
            simp only [Act.put, aa, ae, af]
            refine wpList_nil ?_
            refine forget 143 fun u143 => forget 144 fun u144 => forget 145 fun u145 => forget 146 fun u146 => forget 147 fun u147 => forget 148 fun u148 => forget 149 fun u149 => forget 150 fun u150 => forget 151 fun u151 => forget 152 fun u152 => forget 153 fun u153 => forget 154 fun u154 => forget 155 fun u155 => forget 156 fun u156 => forget 157 fun u157 => forget 158 fun u158 => forget 159 fun u159 => forget 160 fun u160 => forget 161 fun u161 => forget 162 fun u162 => forget 163 fun u163 => forget 164 fun u164 => forget 165 fun u165 => forget 166 fun u166 => ?_
            simp only [List.set_cons_succ, List.set_cons_zero]
            exact tail_ u143 u144 u145 u146 u147 u148 u149 u150 u151 u152 u153 u154 u155 u156 u157 u158 u159 u160 u161 u162 u163 u164 u165 u166
      · intro u143 u144 u145 u146 u147 u148 u149 u150 u151 u152 u153 u154 u155 u156 u157 u158 u159 u160 u161 u162 u163 u164 u165 u166
        go_upto_region 40 with fail
        refine wp_region_lit ?_
        refine ag rfl (ah rfl (ev rfl)) ?_
        simp only [Act.put, aa, ae, af]
        refine ag rfl (aq rfl (ev rfl)) ?_
        simp only [Act.put, aa, ae, af]
        refine wpList_nil ?_
        go_wp2_with fail
        go_loopw [28] (fun i wz => ∃ t : Nat, x.fst ≤ t ∧ t ≤ x.next ∧ i = .int .u64 t ∧ RecC w K wz q p' x L la ∧ AllAt w.heap.size wz K (.slice Av L.length cv) L ss) (fun i _ => x.next - (intOf i).toNat)
        case atStart => exact ⟨x.fst, Nat.le_refl _, HF1.out.2, by go_num, HR5.out, HA5.out⟩
        case round =>
          clear HR5 HA5
          obtain ⟨t, ht1, ht2, rfl, hs, ha⟩ := hrel
          have HS := Lib.hid hs
          have HA := Lib.hid ha
          clear hs ha
          by_cases hlt : t < x.next
          rotate_left 1
          · have HLT2 : Hid (decide ((t : Int) < (x.next : Int)) = false) := Lib.hid (decide_eq_false (by omega))
            clear hlt ht1 ht2
            go_upto_region 41 with fail
            refine wp_region_lit ?_
            refine ag rfl (ah rfl (ev rfl)) ?_
            simp only [Act.put, aa, ae, af]
            refine ag rfl (ah rfl (ev rfl)) ?_
            simp only [Act.put, aa, ae, af]
            refine ag (v := .bool false) rfl (br false rfl (ev rfl) (ev rfl) HLT2.out) ?_
            simp only [Act.put, aa, ae, af]
            refine wpList_nil ?_
            go_upto_region 49 with fail
            refine wp_region_lit ?_
            refine ao rfl (au Tryz.call13 rfl evn) ?_
            refine (llives eA _ (HT.out.below HS.out.bel)).mono ?_
            rintro e wy ⟨rfl, hb⟩
            have HB := Lib.hid (HS.out.bel.trans (hb.mono HS.out.bel.size))
            clear hb
            refine ⟨_, rfl, ?_⟩
            simp only [Act.put, aa, ae, af]
            refine ag rfl (aq rfl (ev rfl)) ?_
            simp only [Act.put, aa, ae, af]
            refine wpList_nil ?_
            go_wp2_with fail
            go_ret
            exact ⟨rfl, HB.out⟩
          have HLT2 : Hid (decide ((t : Int) < (x.next : Int)) = true) := Lib.hid (decide_eq_true (by omega))
          have HTX := Lib.hid hlt
          have HTF := Lib.hid ht1
          have HIU : Hid (IntKind.u64.wrap ((t : Int) + 1) = ((t + 1 : Nat) : Int)) := Lib.hid (u64w (a := t + 1) (by have := HX2.out; omega))
          clear hlt ht1 ht2
          go_upto_region 41 with fail
          refine wp_region_lit ?_
          refine ag rfl (ah rfl (ev rfl)) ?_
          simp only [Act.put, aa, ae, af]
          refine ag rfl (ah rfl (ev rfl)) ?_
          simp only [Act.put, aa, ae, af]
          refine ag (v := .bool true) rfl (br true rfl (ev rfl) (ev rfl) HLT2.out) ?_
          simp only [Act.put, aa, ae, af]
          refine wpList_nil ?_
          go_upto_region 43 with fail
          refine wp_region_lit ?_
          refine ag rfl (ah rfl (ev rfl)) ?_
          simp only [Act.put, aa, ae, af]
          refine ag rfl (ah rfl (ev rfl)) ?_
          simp only [Act.put, aa, ae, af]
          refine ao rfl (au Tryz.call24 rfl (evc (ev rfl) (evc (ev rfl) evn))) ?_
          refine (HS.out.rec_ t HTF.out HTX.out HX2.out).mono ?_
          rintro e w6 ⟨Ar, nr, cr, lr, rfl, hrr, hnr, hb, hlr⟩
          have HS6 := Lib.hid (HS.out.below hb)
          have HA6 := Lib.hid (HA.out.below hb)
          have HRR := Lib.hid hrr
          have HNR := Lib.hid hnr
          have HLR := Lib.hid hlr
          clear HS HA hb hrr hnr hlr
          refine ⟨_, rfl, ?_⟩
          simp only [Act.put, aa, ae, af]
          refine ag rfl (ah rfl (ev rfl)) ?_
          simp only [Act.put, aa, ae, af]
          refine ag rfl (aC rfl (ev rfl) rfl) ?_
          simp only [Act.put, aa, ae, af]
          refine ag rfl (aC rfl (ev rfl) rfl) ?_
          simp only [Act.put, aa, ae, af]
          refine ag rfl (aq rfl (ev rfl)) ?_
          simp only [Act.put, aa, ae, af]
          refine ag rfl (aq rfl (ev rfl)) ?_
          simp only [Act.put, aa, ae, af]
          refine wpList_nil ?_
          go_upto_region 44 with fail
          refine wp_region_lit ?_
          refine ag rfl (ah rfl (ev rfl)) ?_
          simp only [Act.put, aa, ae, af]
          refine ag rfl (aq rfl (ev rfl)) ?_
          simp only [Act.put, aa, ae, af]
          refine wpList_nil ?_
          by_cases hts : t ≤ L.length
          · have HTS : Hid (decide ((t : Int) < ((L.length + 1 : Nat) : Int)) = true) := Lib.hid (decide_eq_true (by omega))
            have h1t : 1 ≤ t := by have := HTF.out; have := HF1.out.1; omega
            have HI1 : Hid (t - 1 < L.length) := Lib.hid (by omega)
            have HSB : Hid (IntKind.u64.wrap ((t : Int) - 1) = ((t - 1 : Nat) : Int)) := Lib.hid (by rw [show (t : Int) - 1 = ((t - 1 : Nat) : Int) from by omega]; exact u64w (by have := HX2.out; have := HTX.out; omega))
            have hlr := HLR.out
            rw [if_pos hts] at hlr
            have HLT := Lib.hid hlr
            obtain ⟨g2, c2, s, heq, hce, hsn, hrd⟩ := HA6.out.get HI1.out
            cases heq
            have HCE := Lib.hid hce
            have HSD := Lib.hid hrd
            clear hts h1t hlr hce hsn hrd
            go_upto_region 45 with fail
            refine wp_region_lit ?_
            refine ag rfl (ah rfl (ev rfl)) ?_
            simp only [Act.put, aa, ae, af]
            refine ag rfl (ah rfl (ev rfl)) ?_
            simp only [Act.put, aa, ae, af]
            refine ag (v := .bool true) rfl (br true rfl (ev rfl) (ev rfl) HTS.out) ?_
            simp only [Act.put, aa, ae, af]
            refine wpList_nil ?_
            go_upto_region 46 with fail
            refine wp_region_lit ?_
            refine ag rfl (ah rfl (ev rfl)) ?_
            simp only [Act.put, aa, ae, af]
            refine ag rfl (ah rfl (ev rfl)) ?_
            simp only [Act.put, aa, ae, af]
            refine ag rfl (exec_sbI rfl (ev rfl) evk HSB.out) ?_
            simp only [Act.put, aa, ae, af]
            refine ag rfl (exec_cvU6I rfl (ev rfl) (by have := HI1.out; have := HL4.out; omega)) ?_
            simp only [Act.put, aa, ae, af]
            refine ag rfl (du (E := dm) rfl (ev rfl) (ev rfl) HI1.out) ?_
            simp only [Act.put, aa, ae, af]
            refine ag rfl (av rfl (ev rfl) (ldClsA (by rw [show (t - 1) * dm.n = t - 1 from Nat.mul_one _]; exact HCE.out))) ?_
            simp only [Act.put, aa, ae, af]
            refine ag rfl (aq rfl (ev rfl)) ?_
            simp only [Act.put, aa, ae, af]
            refine wpList_nil ?_
            go_upto_region 47 with fail
            refine wp_region_lit ?_
            refine ag rfl (ah rfl (ev rfl)) ?_
            simp only [Act.put, aa, ae, af]
            refine ag (v := .bool false) rfl (aP false rfl (ev rfl) evk rfl) ?_
            simp only [Act.put, aa, ae, af]
            refine ag (v := .bool false) rfl (ah rfl (ev rfl)) ?_
            simp only [Act.put, aa, ae, af]
            refine ai (aj rfl rfl rfl rfl) (ah rfl (ev rfl)) ?_
            simp only [Act.put, aa, ae, af]
            refine ai (aj rfl rfl rfl rfl) (ah rfl (ev rfl)) ?_
            simp only [Act.put, aa, ae, af]
            refine ao (aj rfl rfl rfl rfl) (au Tryz.call25 rfl (evc (ev rfl) (evc (ev rfl) evn))) ?_
            refine (cells_any Ar s.A nr s.n cr s.c _ lr _ _ HRR.out HSD.out (Nat.le_refl _) HNR.out).mono ?_
            rintro e w7 ⟨rfl, hb⟩
            rw [HLT.out, decide_eq_true rfl]
            have HS7 := Lib.hid (HS6.out.below hb)
            have HA7 := Lib.hid (HA6.out.below hb)
            clear hb HS6 HA6
            refine ⟨_, rfl, ?_⟩
            simp only [Act.put, aa, ae, af]
            refine ai (v := .bool false) (aj rfl rfl rfl rfl) (aX true rfl (ev rfl)) ?_
            simp only [Act.put, aa, ae, af]
            refine ag (v := .bool false) rfl (aN rfl (ev rfl) (ev rfl)) ?_
            simp only [Act.put, aa, ae, af]
            refine wpList_nil ?_
            go_upto_region 42 with fail
            refine wp_region_lit ?_
            refine ag rfl (ah rfl (ev rfl)) ?_
            simp only [Act.put, aa, ae, af]
            refine ag rfl (dM rfl (ev rfl) evk HIU.out) ?_
            simp only [Act.put, aa, ae, af]
            refine ag rfl (aq rfl (ev rfl)) ?_
            simp only [Act.put, aa, ae, af]
            refine wpList_nil ?_
            have ht9 : t < x.next := HTX.out
            go_wp2_with fail
            go_roundw
            case rel => exact ⟨t + 1, by have := HTF.out; omega, by omega, rfl, HS7.out, HA7.out⟩
            case measure => simp [intOf]; omega
          · have HTS : Hid (decide ((t : Int) < ((L.length + 1 : Nat) : Int)) = false) := Lib.hid (decide_eq_false (by omega))
            have hlr := HLR.out
            rw [if_neg hts] at hlr
            have HLT := Lib.hid hlr
            have HSD := Lib.hid ((HLA.out.below HS6.out.bel).more HS6.out.bel.size)
            clear hts hlr
            go_upto_region 45 with fail
            refine wp_region_lit ?_
            refine ag rfl (ah rfl (ev rfl)) ?_
            simp only [Act.put, aa, ae, af]
            refine ag rfl (ah rfl (ev rfl)) ?_
            simp only [Act.put, aa, ae, af]
            refine ag (v := .bool false) rfl (br false rfl (ev rfl) (ev rfl) HTS.out) ?_
            simp only [Act.put, aa, ae, af]
            refine wpList_nil ?_
            go_upto_region 47 with fail
            refine wp_region_lit ?_
            refine ag rfl (ah rfl (ev rfl)) ?_
            simp only [Act.put, aa, ae, af]
            refine ag (v := .bool false) rfl (aP false rfl (ev rfl) evk rfl) ?_
            simp only [Act.put, aa, ae, af]
            refine ag (v := .bool false) rfl (ah rfl (ev rfl)) ?_
            simp only [Act.put, aa, ae, af]
            refine ai (aj rfl rfl rfl rfl) (ah rfl (ev rfl)) ?_
            simp only [Act.put, aa, ae, af]
            refine ai (aj rfl rfl rfl rfl) (ah rfl (ev rfl)) ?_
            simp only [Act.put, aa, ae, af]
            refine ao (aj rfl rfl rfl rfl) (au Tryz.call25 rfl (evc (ev rfl) (evc (ev rfl) evn))) ?_
            refine (cells_any Ar Al nr nl cr cl _ lr _ _ HRR.out HSD.out (Nat.le_refl _) HNR.out).mono ?_
            rintro e w7 ⟨rfl, hb⟩
            rw [HLT.out, decide_eq_true rfl]
            have HS7 := Lib.hid (HS6.out.below hb)
            have HA7 := Lib.hid (HA6.out.below hb)
            clear hb HS6 HA6
            refine ⟨_, rfl, ?_⟩
            simp only [Act.put, aa, ae, af]
            refine ai (v := .bool false) (aj rfl rfl rfl rfl) (aX true rfl (ev rfl)) ?_
            simp only [Act.put, aa, ae, af]
            refine ag (v := .bool false) rfl (aN rfl (ev rfl) (ev rfl)) ?_
            simp only [Act.put, aa, ae, af]
            refine wpList_nil ?_
            go_upto_region 42 with fail
            refine wp_region_lit ?_
            refine ag rfl (ah rfl (ev rfl)) ?_
            simp only [Act.put, aa, ae, af]
            refine ag rfl (dM rfl (ev rfl) evk HIU.out) ?_
            simp only [Act.put, aa, ae, af]
            refine ag rfl (aq rfl (ev rfl)) ?_
            simp only [Act.put, aa, ae, af]
            refine wpList_nil ?_
            have ht9 : t < x.next := HTX.out
            go_wp2_with fail
            go_roundw
            case rel => exact ⟨t + 1, by have := HTF.out; omega, by omega, rfl, HS7.out, HA7.out⟩
            case measure => simp [intOf]; omega
end Go.Proofs.YtcafafdimcecpaaGreatDoor
