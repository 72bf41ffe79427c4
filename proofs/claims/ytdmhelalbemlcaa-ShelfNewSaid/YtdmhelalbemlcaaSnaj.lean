import Derived.Test.YtdmhelalbemlcaaSnai
import Derived.Test.YtdmhelalbemlcaaSnab
import Derived.Test.YtdmhelalbemlcaaSnac
import Derived.Test.YtdmhelalbemlcaaSnZ
namespace Go.Proofs.Ytdmhelalbemlcaa
open Go.RowKit
set_option linter.unusedVariables false
set_option linter.unusedSimpArgs false
set_option maxRecDepth 100000
open Go.Maps (Keyed)
def emR : Value → Option (DataW Unit × List MemPlace)
  | .agg a => if a.size = 0 then some (.nil, []) else none
  | _ => none
def MapS (w : World) (b N : Nat) (P : Int → Bool) : Prop :=
  ∃ D : DataW Unit, w.ownsMap Try.prog 3 emR b N D ∧ Maps.size D = N ∧ ∀ k, (Lit.int .i64 k).wf = true → Maps.has D (.int .i64 k) = P k
section
variable {w w' : World} {b N : Nat} {P : Int → Bool} {k : Int}
theorem MapS.kept (h : MapS w b N P) (hk : ∀ es c, w.heap[b]? = some (.map es c) → w'.heap[b]? = some (.map es c)) : MapS w' b N P := by
  obtain ⟨D, ⟨es, c, hb, r⟩, h2⟩ := h
  exact ⟨D, ⟨es, c, hk es c hb, r⟩, h2⟩
theorem MapS.below (h : MapS w b N P) (hb : Below w.heap.size w w') : MapS w' b N P := h.kept fun es c e => aw e hb
theorem MapS.made (w : World) : MapS (w.alloc (.map #[] 0)) w.heap.size 0 (fun _ => false) :=
  ⟨.map [], World.ownsMap_made _ _ _ _, rfl, fun k _ => rfl⟩
theorem MapS.len (h : MapS w b N P) (ty : TypeId) : (Builtin.len_ #[87] ty #[.map (some b)]).run Try.prog w = .ok (.int .i64 (N : Int)) w := by
  obtain ⟨D, h1, h2, _⟩ := h
  rw [h1.len Try.underlying87 ty, h2]
theorem MapS.store (h : MapS w b N P) (hw : (Lit.int .i64 k).wf = true) (hN : N < maxLen) :
    ∃ w', (Instr.mapUpdate 87 (.map (some b)) (.int .i64 k) (.agg #[])).run Try.prog w = .ok () w' ∧ MapS w' b (if P k = true then N else N + 1) (fun j => decide (j = k) || P j) ∧ w.mapTurned w' b := by
  obtain ⟨D, h1, h2, h3⟩ := h
  obtain ⟨w', hr, ho, ht⟩ := h1.store bI Try.underlying87 hN (keyI hw) (show emR (.agg #[]) = some (.nil, []) from rfl)
  have hT := h1.tidy bI
  have hk : WideAt.IsKeyLit (Lit.int .i64 k) := bI.key (keyI hw)
  have hs : Maps.size (D.put (.int .i64 k) (.nil : DataW Unit)) = if P k = true then N else N + 1 := by
    rw [Maps.size_put hT, h3 k hw, h2]
  refine ⟨w', hr, ⟨_, by
    obtain ⟨es, clock, hb, F, hs', he⟩ := ho
    rw [← hs]
    exact ⟨es, clock, hb, F, by rw [he]; simp [Maps.size, length_sorted], he⟩, hs, fun j hj => ?_⟩, ht⟩
  by_cases e : j = k
  · subst e
    dsimp only
    rw [Maps.has_put_same hT.isMap hk, decide_eq_true rfl]
    rfl
  · dsimp only
    rw [Maps.has_put_other (lit_ne e), decide_eq_false e, h3 j hj]
    rfl
theorem exec_lenS {ρ : Operand → Value} {o : Oper} {x : Operand} (ho : o.op = .call { callee := .builtin .len, args := #[x], argTypes := #[87] }) (hx : ρ x = .map (some b)) (h : MapS w b N P) : (execOp ρ o).run Try.prog w = .ok (.value (.int .i64 (N : Int))) w := by
  simp [execOp, ho, resolve, invoke, builtin, hx, h.len, Result.andThen]
theorem exec_em {ρ : Operand → Value} {o : Oper} (ho : o.op = .build 88 #[]) : (execOp ρ o).run Try.prog w = .ok (.value (.agg #[])) w := by
  have h : (Instr.build 88 #[]).run Try.prog w = .ok (.agg #[]) w := by kernel_rfl
  unfold execOp
  simp [ho, h, Result.andThen]
def MapU (w : World) (b : Nat) (U : List Int) : Prop := MapS w b U.length (fun j => U.contains j)
theorem MapU.store {U : List Int} (h : MapU w b U) (hw : (Lit.int .i64 k).wf = true) (hN : U.length < maxLen) :
    ∃ w', (Instr.mapUpdate 87 (.map (some b)) (.int .i64 k) (.agg #[])).run Try.prog w = .ok () w' ∧ MapU w' b (if U.contains k = true then U else U ++ [k]) ∧ w.mapTurned w' b := by
  obtain ⟨w', h1, h2, h3⟩ := MapS.store h hw hN
  refine ⟨w', h1, ?_, h3⟩
  unfold MapU
  have e1 : (if U.contains k = true then U else U ++ [k]).length = if U.contains k = true then U.length else U.length + 1 := by split <;> simp
  have e2 : (fun j => (if U.contains k = true then U else U ++ [k]).contains j) = fun j => decide (j = k) || U.contains j := funext fun j => by
    by_cases hc : U.contains k = true
    · rw [if_pos hc]
      by_cases e : j = k
      · subst e; rw [hc, decide_eq_true rfl]; rfl
      · rw [decide_eq_false e]; rfl
    · rw [if_neg hc, Bool.eq_iff_iff]
      simp [or_comm]
  rw [e1, e2]
  exact h2
theorem MapU.below {U : List Int} (h : MapU w b U) (hb : Below w.heap.size w w') : MapU w' b U := MapS.below h hb
end
section
variable {w : World} {t lp mp K : Nat} {FL : Nat → Prop} {m : Nat → Option Nat} {r : Int} {s : ShS}
set_option maxHeartbeats 4000000 in
theorem ps_Fits {l : List Int} {A : Option Addr} {nl cl : Nat} (h : PRu w t lp mp FL (kyL s.dty s.o) s.o.length m s.ln s.N s.T s.room r) (hok : ShOk s) (hl : RdE aH w w.heap.size A nl l) (hwf : ∀ x ∈ l, (Lit.int .i64 x).wf = true) (hbig : l.length ≤ 17592186043904) : Calls Try.prog 28 #[.pointer (some ⟨t, 0, none⟩), .slice A nl cl] w fun e w' => e = .returned (.bool (s.fits l)) ∧ Below w.heap.size w w' := by
  have hnl := hl.1
  subst hnl
  have HBG := Lib.hid hbig
  have HOK := Lib.hid hok
  have HDL : Hid (s.aW.length ≤ 64) := Lib.hid (Nat.le_trans (dtyK_len _ _) hok.t64)
  have HDR := Lib.hid hok.dirty_le
  have HD64 : Hid (∀ i, i < s.aW.length → (Lit.int .i64 (s.aW.getD i 0)).wf = true) := Lib.hid fun i hi => by
    have hm : s.aW.getD i 0 ∈ s.aW := aK hi
    obtain ⟨j, e, hj, _⟩ := dtyK_mem.1 hm
    rw [e]
    exact wf_nat (by have := hok.t64; omega)
  have HLW : Hid (∀ i, i < l.length → (Lit.int .i64 (l.getD i 0)).wf = true) := Lib.hid fun i hi => hwf _ (aK hi)
  have HUN : Hid (∀ i, unlk [] (s.aW.take i) = s.aW.take i) := Lib.hid (unlk_nil s)
  obtain ⟨D, hD⟩ : ∃ D, s.aW = D := ⟨_, rfl⟩
  have HF0 : Hid (s.fits l = decide ((unlk D l).length ≤ s.room)) := Lib.hid (by unfold ShS.fits; rw [hD])
  obtain ⟨ft, hft⟩ : ∃ ft, s.fits l = ft := ⟨_, rfl⟩
  rw [hft] at HF0
  rw [hD] at HDL HDR HD64 HUN
  rw [hft]
  have HDQ := Lib.hid hD
  clear hD hft
  have hbx := (Below.refl w.heap.size w).alloc (Nat.le_refl _) (.map #[] 0)
  have HS1 := Lib.hid (MapS.made w)
  have HH0 := Lib.hid h
  have HH := Lib.hid (h.below hbx)
  have HL := Lib.hid hl
  have HB := Lib.hid hbx
  have HSZ : Hid ((w.alloc (.map #[] 0)).heap.size = w.heap.size + 1) := Lib.hid (World.size_alloc ..)
  clear h hok hl hwf hbig hbx
  go_enter Try.func28, Try.ntmps28
  go_upto_region 1 with fail
  refine wp_region_lit ?_
  refine af rfl (ah rfl (ev rfl)) ?_
  simp only [Act.put, aa, ac, ae]
  refine aj rfl (ar Try.call26 rfl (evc (ev rfl) evn)) ?_
  refine (ps_made HH0.out).mono ?_
  rintro e w' ⟨rfl, rfl⟩
  refine ⟨_, rfl, ?_⟩
  simp only [Act.put, aa, ac, ae]
  refine af (v := .bool false) rfl (aG true rfl (ev rfl)) ?_
  simp only [Act.put, aa, ac, ae]
  refine wpList_nil ?_
  go_upto_region 3 with fail
  refine wp_region_lit ?_
  refine af rfl (exec_mkmap rfl) ?_
  simp only [Act.put, aa, ac, ae]
  refine af rfl (al rfl (ev rfl)) ?_
  simp only [Act.put, aa, ac, ae]
  refine wpList_nil ?_
  obtain ⟨bm, hbm⟩ : ∃ bm, w.heap.size = bm := ⟨_, rfl⟩
  rw [hbm] at HS1 HSZ
  have HBM := Lib.hid hbm
  rw [hbm]
  generalize w.alloc (.map #[] 0) = w1 at *
  clear hbm
  go_upto_region 4 with fail
  refine wp_region_lit ?_
  refine af rfl (ah rfl (ev rfl)) ?_
  simp only [Act.put, aa, ac, ae]
  refine aj rfl (ar Try.call13 rfl (evc (ev rfl) evn)) ?_
  refine (ps_Dirty HH.out HOK.out).mono ?_
  rintro e w2 ⟨v2, rfl, m2, b2⟩
  rw [HDQ.out] at m2
  obtain ⟨A2, c2, rfl, _, _⟩ := m2.form
  have HM2 := Lib.hid m2
  have HB2 := Lib.hid (HB.out.trans (b2.mono HB.out.size))
  have HH2 := Lib.hid (HH.out.below b2)
  have HS2 := Lib.hid (HS1.out.below b2)
  clear m2 b2
  refine ⟨_, rfl, ?_⟩
  simp only [Act.put, aa, ac, ae]
  refine af rfl (br aH rfl (ev rfl)) ?_
  simp only [Act.put, aa, ac, ae]
  refine af rfl (ah rfl evk) ?_
  simp only [Act.put, aa, ac, ae]
  refine wpList_nil ?_
  go_wp2_with fail
  go_loopw [7, 17] (fun u c wr => ∃ i : Nat, c = .int .i64 i ∧ i ≤ D.length ∧ MapU wr bm (D.take i) ∧ ax aH wr w1.heap.size (.slice A2 D.length c2) D ∧ PRu wr t lp mp FL (kyL s.dty s.o) s.o.length m s.ln s.N s.T s.room r ∧ Below bm w wr) (fun _ c _ => D.length - (intOf c).toNat)
  case atStart => exact ⟨0, by go_num, Nat.zero_le _, HS2.out, HM2.out, HH2.out, by have := HB2.out; rwa [HBM.out] at this⟩
  case round =>
    obtain ⟨i, rfl, hi, hs, hm, hh, hb⟩ := hrel
    have HSr := Lib.hid hs
    have HMr := Lib.hid hm
    have HHr := Lib.hid hh
    have HWr := Lib.hid hb
    clear hs hm hh hb
    by_cases hlt : i < D.length
    · have HI := Lib.hid hlt
      have HT : Hid (decide ((i : Int) < (D.length : Int)) = true) := Lib.hid (decide_eq_true (by omega))
      have HA : Hid (IntKind.i64.wrap ((i : Int) + 1) = ((i + 1 : Nat) : Int)) := Lib.hid (by have := HDL.out; rw [i64q_ ⟨by omega, by omega⟩]; omega)
      obtain ⟨b, off, hA, _, hc⟩ := HMr.out.rd.int (k := i) hlt
      subst hA
      have HC := Lib.hid hc
      obtain ⟨wn, hrn, hmn, htn⟩ := HSr.out.store (HD64.out i hlt) (by unfold maxLen; have := HDL.out; rw [List.length_take]; omega)
      have hst : (if (D.take i).contains (D.getD i 0) = true then D.take i else D.take i ++ [D.getD i 0]) = D.take (i + 1) := by
        have := unlk_snocP [] (D.take i) (D.getD i 0)
        rw [← takeP_ hlt, HUN.out, HUN.out] at this
        exact this.symm
      rw [hst] at hmn
      have hg := htn.grown
      have hmp : mp ≠ bm := fun e => by
        obtain ⟨es, q, hq⟩ := HH0.out.mapo
        have := bN hq
        rw [HBM.out] at this
        omega
      have hlow : ∀ q, ftPs t mp FL m q → q ≠ bm := fun q hq e => by
        have := HH0.out.size q hq
        rw [HBM.out] at this
        omega
      have HRN := Lib.hid hrn
      have HMN := Lib.hid hmn
      have HHN := Lib.hid (HHr.out.only (bK (F := fun j => j = bm) htn rfl) hlow)
      have HRD : Hid (ax aH wn w1.heap.size (.slice (some ⟨b, off, none⟩) D.length c2) D) := Lib.hid (HMr.out.kept hg (by
        cases ho : (Value.slice (some ⟨b, off, none⟩) D.length c2).ownBlock with
        | none => exact .inl rfl
        | some q =>
          right
          intro e
          injection e with e
          have := HMr.out.lt_own q ho
          have := HSZ.out
          omega))
      have HWN : Hid (Below bm w wn) := Lib.hid ((HWr.out).grown hg (Nat.le_trans (Nat.le_of_eq HBM.out.symm) HWr.out.size) fun j hj => by injection hj with hj; subst hj; exact Nat.le_refl _)
      clear hi hlt hc hrn hmn htn hst hg hmp hlow
      go_upto_region 5 with fail
      refine wp_region_lit ?_
      refine af (v := .bool true) rfl (aC true rfl (ev rfl) (ev rfl) HT.out) ?_
      simp only [Act.put, aa, ac, ae]
      refine wpList_nil ?_
      go_upto_region 6 with fail
      refine wp_region_lit ?_
      refine af rfl (bg (E := aH) rfl (ev rfl) (ev rfl) HI.out) ?_
      simp only [Act.put, aa, ac, ae]
      refine af rfl (aq rfl (ev rfl) (bn (by rw [show i * aH.n = i from Nat.mul_one i]; exact HC.out))) ?_
      simp only [Act.put, aa, ac, ae]
      refine af rfl (al rfl (ev rfl)) ?_
      simp only [Act.put, aa, ac, ae]
      refine wpList_nil ?_
      go_upto_region 7 with fail
      refine wp_region_lit ?_
      refine af rfl (ah rfl (ev rfl)) ?_
      simp only [Act.put, aa, ac, ae]
      refine af rfl (ah rfl (ev rfl)) ?_
      simp only [Act.put, aa, ac, ae]
      refine af rfl (exec_em rfl) ?_
      simp only [Act.put, aa, ac, ae]
      refine aA rfl (exec_mupd rfl (ev rfl) (ev rfl) (ev rfl) HRN.out) ?_
      simp only [Act.put, aa, ac, ae]
      refine wpList_nil ?_
      go_upto_region 8 with fail
      refine wp_region_lit ?_
      refine af rfl (bf rfl (ev rfl) evk HA.out) ?_
      simp only [Act.put, aa, ac, ae]
      refine af rfl (ah rfl (ev rfl)) ?_
      simp only [Act.put, aa, ac, ae]
      refine wpList_nil ?_
      go_wp2_with fail
      go_roundw
      case rel => exact ⟨i + 1, by go_num, HI.out, HMN.out, HRD.out, HHN.out, HWN.out⟩
      case measure => have := HI.out; simp [intOf]; omega
    have hin : i = D.length := by omega
    have HT : Hid (decide ((i : Int) < (D.length : Int)) = false) := Lib.hid (decide_eq_false (by omega))
    have HSD : Hid (MapU wr bm D) := Lib.hid (by have := HSr.out; rwa [hin, List.take_length] at this)
    clear hlt hi hin
    go_upto_region 5 with fail
    refine wp_region_lit ?_
    refine af (v := .bool false) rfl (aC false rfl (ev rfl) (ev rfl) HT.out) ?_
    simp only [Act.put, aa, ac, ae]
    refine wpList_nil ?_
    go_upto_region 9 with fail
    refine wp_region_lit ?_
    refine af rfl (ah rfl (ev rfl)) ?_
    simp only [Act.put, aa, ac, ae]
    refine af rfl (br aH rfl (ev rfl)) ?_
    simp only [Act.put, aa, ac, ae]
    refine af rfl (ah rfl evk) ?_
    simp only [Act.put, aa, ac, ae]
    refine wpList_nil ?_
    have HLD : Hid (RdE aH wr wr.heap.size A l.length l) := Lib.hid (((HL.out).below (by rw [HBM.out]; exact HWr.out)).more HWr.out.size)
    go_wp2_with fail
    go_loopw [9, 27] (fun u c wx => ∃ i : Nat, c = .int .i64 i ∧ i ≤ l.length ∧ MapU wx bm (unlk D (l.take i)) ∧ (unlk D (l.take i)).length ≤ s.room ∧ PRu wx t lp mp FL (kyL s.dty s.o) s.o.length m s.ln s.N s.T s.room r ∧ Below bm w wx) (fun _ c _ => l.length - (intOf c).toNat)
    case atStart => exact ⟨0, by go_num, Nat.zero_le _, HSD.out, HDR.out, HHr.out, HWr.out⟩
    case round =>
      obtain ⟨i, rfl, hi, hs, hrm, hh, hb⟩ := hrel
      have HSx := Lib.hid hs
      have HHx := Lib.hid hh
      have HWx := Lib.hid hb
      have HRM := Lib.hid hrm
      clear hs hh hb hrm
      by_cases hlt : i < l.length
      · have HI := Lib.hid hlt
        have HT2 : Hid (decide ((i : Int) < (l.length : Int)) = true) := Lib.hid (decide_eq_true (by omega))
        have HA : Hid (IntKind.i64.wrap ((i : Int) + 1) = ((i + 1 : Nat) : Int)) := Lib.hid (by have := HBG.out; rw [i64q_ ⟨by omega, by omega⟩]; omega)
        obtain ⟨b, off, hA, _, hc⟩ := ((HL.out).below (by rw [HBM.out]; exact HWx.out)).int (k := i) hlt
        subst hA
        have HC := Lib.hid hc
        have hr64 := HOK.out.r64
        obtain ⟨wn, hrn, hmn, htn⟩ := HSx.out.store (HLW.out i hlt) (by unfold maxLen; have := HRM.out; omega)
        obtain ⟨U, hU⟩ : ∃ U, unlk D (l.take (i + 1)) = U := ⟨_, rfl⟩
        have hst : (if (unlk D (l.take i)).contains (l.getD i 0) = true then unlk D (l.take i) else unlk D (l.take i) ++ [l.getD i 0]) = U := by
          rw [← hU, takeP_ hlt, unlk_snocP]
        rw [hst] at hmn
        have hg := htn.grown
        have hlow : ∀ q, ftPs t mp FL m q → q ≠ bm := fun q hq e => by
          have := HH0.out.size q hq
          rw [HBM.out] at this
          omega
        have HRN := Lib.hid hrn
        have HMN := Lib.hid hmn
        have HHN := Lib.hid (HHx.out.only (bK (F := fun j => j = bm) htn rfl) hlow)
        have HWN : Hid (Below bm w wn) := Lib.hid ((HWx.out).grown hg (Nat.le_trans (Nat.le_of_eq HBM.out.symm) HWx.out.size) fun j hj => by injection hj with hj; subst hj; exact Nat.le_refl _)
        have HUQ := Lib.hid hU
        clear hi hlt hc hrn hmn htn hst hg hlow hr64 hU
        go_upto_region 10 with fail
        refine wp_region_lit ?_
        refine af (v := .bool true) rfl (aC true rfl (ev rfl) (ev rfl) HT2.out) ?_
        simp only [Act.put, aa, ac, ae]
        refine wpList_nil ?_
        go_upto_region 11 with fail
        refine wp_region_lit ?_
        refine af rfl (bg (E := aH) rfl (ev rfl) (ev rfl) HI.out) ?_
        simp only [Act.put, aa, ac, ae]
        refine af rfl (aq rfl (ev rfl) (bn (by rw [show i * aH.n = i from Nat.mul_one i]; exact HC.out))) ?_
        simp only [Act.put, aa, ac, ae]
        refine af rfl (al rfl (ev rfl)) ?_
        simp only [Act.put, aa, ac, ae]
        refine wpList_nil ?_
        go_upto_region 12 with fail
        refine wp_region_lit ?_
        refine af rfl (ah rfl (ev rfl)) ?_
        simp only [Act.put, aa, ac, ae]
        refine af rfl (ah rfl (ev rfl)) ?_
        simp only [Act.put, aa, ac, ae]
        refine af rfl (exec_em rfl) ?_
        simp only [Act.put, aa, ac, ae]
        refine aA rfl (exec_mupd rfl (ev rfl) (ev rfl) (ev rfl) HRN.out) ?_
        simp only [Act.put, aa, ac, ae]
        refine wpList_nil ?_
        by_cases hq : s.room < U.length
        · have HQ : Hid (decide ((s.room : Int) < (U.length : Int)) = true) := Lib.hid (decide_eq_true (by omega))
          have HFF : Hid (ft = false) := Lib.hid (by
            rw [HF0.out]
            have := unlk_take D l (i + 1)
            rw [HUQ.out] at this
            exact decide_eq_false (by omega))
          clear hq
          go_upto_region 13 with fail
          refine aN (B := wn.heap.size) (by kernel_rfl) ?_
          refine av rfl (fun w' hw => ah rfl (ev rfl)) ?_
          simp only [Act.put, aa, ac, ae]
          refine av rfl (fun w' hw => exec_lenS rfl (ev rfl) (MapU.below HMN.out hw)) ?_
          simp only [Act.put, aa, ac, ae]
          refine av rfl (fun w' hw => ah rfl (ev rfl)) ?_
          simp only [Act.put, aa, ac, ae]
          refine av rfl (fun w' hw => ao rfl (ev rfl)) ?_
          simp only [Act.put, aa, ac, ae]
          refine av rfl (fun w' hw => ai rfl (ev rfl) faSq1) ?_
          simp only [Act.put, aa, ac, ae]
          refine av rfl (fun w' hw => aq rfl (ev rfl) (ldLl (PRu.c3 (HHN.out.below hw)))) ?_
          simp only [Act.put, aa, ac, ae]
          refine qv_call rfl (fun _ => ar Try.call39 rfl (evc (ev rfl) evn)) (above_of (Nat.le_refl _) fun w' hw => (pl_roomF _ (HHN.out.below hw).li).mono fun _ _ h => ⟨h.1, by rw [← h.2]; exact Below.refl _ _⟩) ?_
          simp only [Act.put, aa, ac, ae]
          refine av (v := .bool true) rfl (fun w' hw => exec_gtr true rfl (ev rfl) (ev rfl) HQ.out) ?_
          simp only [Act.put, aa, ac, ae]
          refine wpQuiet_nil ?_
          intro w13 hw
          have HWZ := Lib.hid (HWN.out.trans (hw.mono (Nat.le_trans (Nat.le_of_eq HBM.out.symm) HWN.out.size)))
          clear hw
          go_wp2_with fail
          go_ret
          exact ⟨by rw [HFF.out]; rfl, by rw [HBM.out]; exact HWZ.out⟩
        have HQ : Hid (decide ((s.room : Int) < (U.length : Int)) = false) := Lib.hid (decide_eq_false (by omega))
        have HQ2 : Hid (U.length ≤ s.room) := Lib.hid (by omega)
        clear hq
        go_upto_region 13 with fail
        refine aN (B := wn.heap.size) (by kernel_rfl) ?_
        refine av rfl (fun w' hw => ah rfl (ev rfl)) ?_
        simp only [Act.put, aa, ac, ae]
        refine av rfl (fun w' hw => exec_lenS rfl (ev rfl) (MapU.below HMN.out hw)) ?_
        simp only [Act.put, aa, ac, ae]
        refine av rfl (fun w' hw => ah rfl (ev rfl)) ?_
        simp only [Act.put, aa, ac, ae]
        refine av rfl (fun w' hw => ao rfl (ev rfl)) ?_
        simp only [Act.put, aa, ac, ae]
        refine av rfl (fun w' hw => ai rfl (ev rfl) faSq1) ?_
        simp only [Act.put, aa, ac, ae]
        refine av rfl (fun w' hw => aq rfl (ev rfl) (ldLl (PRu.c3 (HHN.out.below hw)))) ?_
        simp only [Act.put, aa, ac, ae]
        refine qv_call rfl (fun _ => ar Try.call39 rfl (evc (ev rfl) evn)) (above_of (Nat.le_refl _) fun w' hw => (pl_roomF _ (HHN.out.below hw).li).mono fun _ _ h => ⟨h.1, by rw [← h.2]; exact Below.refl _ _⟩) ?_
        simp only [Act.put, aa, ac, ae]
        refine av (v := .bool false) rfl (fun w' hw => exec_gtr false rfl (ev rfl) (ev rfl) HQ.out) ?_
        simp only [Act.put, aa, ac, ae]
        refine wpQuiet_nil ?_
        intro w13 hw
        have HWZ := Lib.hid (HWN.out.trans (hw.mono (Nat.le_trans (Nat.le_of_eq HBM.out.symm) HWN.out.size)))
        have HMZ := Lib.hid (MapU.below HMN.out hw)
        have HHZ := Lib.hid (HHN.out.below hw)
        clear hw
        go_upto_region 15 with fail
        refine wp_region_lit ?_
        refine af rfl (bf rfl (ev rfl) evk HA.out) ?_
        simp only [Act.put, aa, ac, ae]
        refine af rfl (ah rfl (ev rfl)) ?_
        simp only [Act.put, aa, ac, ae]
        refine wpList_nil ?_
        go_wp2_with fail
        go_roundw
        case rel => exact ⟨i + 1, by go_num, HI.out, by rw [HUQ.out]; exact HMZ.out, by rw [HUQ.out]; exact HQ2.out, HHZ.out, HWZ.out⟩
        case measure => have := HI.out; simp [intOf]; omega
      have hin : i = l.length := by omega
      have HT2 : Hid (decide ((i : Int) < (l.length : Int)) = false) := Lib.hid (decide_eq_false (by omega))
      have HFF : Hid (ft = true) := Lib.hid (by
        rw [HF0.out]
        have := HRM.out
        rw [hin, List.take_length] at this
        exact decide_eq_true this)
      clear hlt hi hin
      go_upto_region 10 with fail
      refine wp_region_lit ?_
      refine af (v := .bool false) rfl (aC false rfl (ev rfl) (ev rfl) HT2.out) ?_
      simp only [Act.put, aa, ac, ae]
      refine wpList_nil ?_
      go_wp2_with fail
      go_ret
      exact ⟨by rw [HFF.out]; rfl, by rw [HBM.out]; exact HWx.out⟩
end
def pPl (N n : Nat) : Nat := N - 1 - n % N
def parAt (N n : Nat) (x : Cl) : Bool := decide (x.s = (n : Int)) && decide (x.m = ((pPl N n : Nat) : Int))
section
variable {s : ShS} {Q i : Nat} {c : List PutC}
theorem toCl_at (hi : i < c.length) : (c.map aP).getD i zeroC = aP (c.getD i aU) := by
  rw [List.getD, List.getElem?_map, List.getD, List.getElem?_eq_getElem hi]
  rfl
theorem ns_snoc (hi : i < c.length) : (c.take (i + 1)).map PutC.n = (c.take i).map PutC.n ++ [(c.getD i aU).n] := by
  rw [List.take_add_one, List.getElem?_eq_getElem hi, List.map_append, List.getD, List.getElem?_eq_getElem hi]
  rfl
theorem all_take {f : PutC → Bool} (hi : i < c.length) : (c.take (i + 1)).all f = ((c.take i).all f && f (c.getD i aU)) := by
  rw [List.take_add_one, List.getElem?_eq_getElem hi, List.getD, List.getElem?_eq_getElem hi, List.all_append]
  simp
theorem all_not {f : PutC → Bool} (hi : i < c.length) (h : f (c.getD i aU) = false) : c.all f = false := by
  rw [Bool.eq_false_iff]
  intro e
  have := List.all_eq_true.1 e (c.getD i aU) (by rw [List.getD, List.getElem?_eq_getElem hi]; exact List.getElem_mem hi)
  rw [h] at this
  cases this
structure PutAt (s : ShS) (Q : Nat) (c : List PutC) (i k m : Nat) : Prop where
  mN : m < s.N
  n : (c.getD i aU).n = (k : Int)
  m : (c.getD i aU).m = (m : Int)
  kT : k < s.T
  ok : ShOk ((c.take i).foldl (ba Q) s)
  T : ((c.take i).foldl (ba Q) s).T = s.T
  tok : ShOk (((c.take i).foldl (ba Q) s).tch k)
  tT : (((c.take i).foldl (ba Q) s).tch k).T = s.T
  tln : (((c.take i).foldl (ba Q) s).tch k).ln k = some (((c.take i).foldl (ba Q) s).a7 k)
  nxt : (c.take (i + 1)).foldl (ba Q) s = (((c.take i).foldl (ba Q) s).tch k).setL k (some (bv (((c.take i).foldl (ba Q) s).a7 k) (c.getD i aU).m (c.getD i aU).b Q))
  nok : ShOk ((c.take (i + 1)).foldl (ba Q) s)
  tb : ((c.take i).foldl (ba Q) s).tchB k = true
  n0 : Q ≠ 0
theorem put_step (h : ShOk s) (hq : putQ s Q c = 0) (hQ : Q < 18446744073709551616) (hi : i < c.length) : ∃ k m : Nat, PutAt s Q c i k m := by
  obtain ⟨h1, h2, h3⟩ := putQ_ok hq
  have hx : c.getD i aU ∈ c := by rw [List.getD, List.getElem?_eq_getElem hi]; exact List.getElem_mem hi
  have hp := h1 _ hx
  obtain ⟨k, m, e1, hk, e2, hmN⟩ := plc_of_ hp
  have ih := put_fold h hq hQ i (Nat.le_of_lt hi)
  have ih1 := put_fold h hq hQ (i + 1) hi
  have hs := ih.step (p := c.getD i aU) h3 hp ((unlk_mem _ _).2 (.inr (List.mem_map.2 ⟨_, hx, rfl⟩))) h2 hQ
  have ek : (c.getD i aU).n.toNat = k := by omega
  rw [ek] at hs
  have ht := tch_lnOf hs.1
  refine ⟨k, m, hmN, e1, e2, hk, ih.ok, ih.T, hs.2.1, (ShS.tch_N _ _).2.1.trans ih.T, ht, ?_, ih1.ok, hs.1, h2⟩
  rw [bC _ _ (d := aU) hi]
  generalize (c.take i).foldl (ba Q) s = s1 at *
  unfold ba
  rw [ek, bG ht]
structure FgtAt (s2 : ShS) (c : List PutC) (i k : Nat) : Prop where
  ok : ShOk ((c.take i).foldl (aI c) s2)
  N : ((c.take i).foldl (aI c) s2).N = s2.N
  T : ((c.take i).foldl (aI c) s2).T = s2.T
  ln : ((c.take i).foldl (aI c) s2).ln k = some (((c.take i).foldl (aI c) s2).a7 k)
  yes : (c.map aP).any (parAt ((c.take i).foldl (aI c) s2).N k) = true → (c.take (i + 1)).foldl (aI c) s2 = (c.take i).foldl (aI c) s2
  no : (c.map aP).any (parAt ((c.take i).foldl (aI c) s2).N k) = false → (c.take (i + 1)).foldl (aI c) s2 = ((c.take i).foldl (aI c) s2).setL k (some (lnFrg (((c.take i).foldl (aI c) s2).a7 k) ((pPl ((c.take i).foldl (aI c) s2).N k : Nat) : Int)))
  nok : ShOk ((c.take (i + 1)).foldl (aI c) s2)
theorem par_map (N k : Nat) : (c.map aP).any (parAt N k) = parQ N c (k : Int) := by
  rw [List.any_map]
  unfold parQ
  congr 1
theorem fgt_step {s2 : ShS} {k : Nat} (h : ShOk s2) (hp : ∀ x ∈ c, (s2.ln x.n.toNat).isSome = true) (hi : i < c.length) (hn : (c.getD i aU).n = (k : Int)) : FgtAt s2 c i k := by
  have hx : c.getD i aU ∈ c := by rw [List.getD, List.getElem?_eq_getElem hi]; exact List.getElem_mem hi
  have ih := fgt_fold h c hp i (Nat.le_of_lt hi)
  have ih1 := fgt_fold h c hp (i + 1) hi
  have ek : (c.getD i aU).n.toNat = k := by omega
  have hl : (((c.take i).foldl (aI c) s2).ln k).isSome = true := by rw [ih.some, ← ek]; exact hp _ hx
  obtain ⟨y, hy⟩ := Option.isSome_iff_exists.1 hl
  refine ⟨ih.ok, ih.N, ih.T, by rw [hy, bG hy], fun e => ?_, fun e => ?_, ih1.ok⟩
  · rw [par_map] at e
    rw [bC _ _ (d := aU) hi]
    generalize (c.take i).foldl (aI c) s2 = s1 at *
    show aI c _ (c.getD i aU) = _
    unfold aI
    rw [hn, if_pos e]
  · rw [par_map] at e
    rw [bC _ _ (d := aU) hi]
    generalize (c.take i).foldl (aI c) s2 = s1 at *
    show aI c _ (c.getD i aU) = _
    unfold aI pPl
    rw [hn, if_neg (by rw [e]; decide), Int.toNat_natCast]
end
def stz (c : List PutC) (n i : Nat) : List Int := (c.take i).map PutC.n ++ List.replicate (n - i) 0
section
variable {c : List PutC} {n i : Nat}
theorem stz_zero : stz c n 0 = List.replicate n 0 := by simp [stz]
theorem stz_all (h : c.length = n) : stz c n n = c.map PutC.n := by subst h; simp [stz]
theorem stz_set (h : c.length = n) (hi : i < n) : (stz c n i).set i (c.getD i aU).n = stz c n (i + 1) := by
  unfold stz
  have hl : ((c.take i).map PutC.n).length = i := by rw [List.length_map, List.length_take]; omega
  obtain ⟨d, hd⟩ : ∃ d, n - i = d + 1 := ⟨n - i - 1, by omega⟩
  rw [List.set_append_right _ _ (by omega), hl, Nat.sub_self, hd, List.replicate_succ, List.set_cons_zero, show n - (i + 1) = d by omega, ns_snoc (by omega), List.append_assoc]
  rfl
end
theorem stIntE {w : World} {b k : Nat} {a : Int} (h : w.there b k 1) : (Instr.storeAt 3 (.pointer (some ⟨b, k, none⟩)) (.int .i64 a)).run Try.prog w = .ok () (w.setCells b k (aH.cel a)) := by
  obtain ⟨h1, h2⟩ := h 0 (by omega)
  rw [Nat.add_zero] at h1 h2
  obtain ⟨u, hu⟩ := Option.isSome_iff_exists.1 h1
  simp [go_sem, hu, h2, aH, World.setCells]
section
variable {w : World} {t lp mp K : Nat} {FL : Nat → Prop} {m : Nat → Option Nat} {r : Int} {s : ShS}
set_option maxHeartbeats 4000000 in
theorem ps_mayPut {Q nc cc : Nat} {A : Option Addr} {c : List PutC} (h : PRu w t lp mp FL (kyL s.dty s.o) s.o.length m s.ln s.N s.T s.room r) (hok : ShOk s) (hn0 : nc ≤ 1000000) (hc : RdE aV w w.heap.size A nc (c.map aP)) (hcn : c.length = nc) : Calls Try.prog 16 #[.pointer (some ⟨t, 0, none⟩), .int .u64 (Q : Int), .slice A nc cc] w fun e w' => e = .returned (.int .i64 (putQ s Q c)) ∧ Below w.heap.size w w' := by
  have HH := Lib.hid h
  have HOK := Lib.hid hok
  have HC := Lib.hid hc
  have HCN := Lib.hid hcn
  have HN0 := Lib.hid hn0
  have hmz := made_zeros aH rfl w nc w.heap.size (Nat.le_refl _) hn0
  have hb1 := (Below.refl w.heap.size w).alloc (Nat.le_refl _) (.cells (madeCells aH.z.cells (nc * aH.n)) aH.t)
  have HBZ := Lib.hid hb1
  have HM0 : Hid (ax aH (w.alloc (.cells (madeCells aH.z.cells (nc * aH.n)) aH.t)) w.heap.size (.slice (some ⟨w.heap.size, 0, none⟩) nc nc) (List.replicate nc 0)) := Lib.hid hmz
  obtain ⟨pq, hpq⟩ : ∃ pq, putQ s Q c = pq := ⟨_, rfl⟩
  have HPQ := Lib.hid hpq
  rw [hpq]
  clear h hok hc hcn hn0 hmz hb1 hpq
  go_enter Try.func16, Try.ntmps16
  go_upto_region 1 with fail
  refine wp_region_lit ?_
  refine af rfl (ah rfl (ev rfl)) ?_
  simp only [Act.put, aa, ac, ae]
  refine aj rfl (ar Try.call26 rfl (evc (ev rfl) evn)) ?_
  refine (ps_made HH.out).mono ?_
  rintro e w' ⟨rfl, rfl⟩
  refine ⟨_, rfl, ?_⟩
  simp only [Act.put, aa, ac, ae]
  refine af (v := .bool false) rfl (aG true rfl (ev rfl)) ?_
  simp only [Act.put, aa, ac, ae]
  refine af (v := .bool false) rfl (al rfl (ev rfl)) ?_
  simp only [Act.put, aa, ac, ae]
  refine wpList_nil ?_
  by_cases hq : Q = 0
  · have HE : Hid (((Q : Int) == 0) = true) := Lib.hid (by rw [hq]; rfl)
    have HZ : Hid (pq = 2) := Lib.hid (by
      rw [← HPQ.out]
      unfold putQ
      rw [if_pos hq]
      split <;> rfl)
    clear hq
    go_upto_region 3 with fail
    refine wp_region_lit ?_
    refine af rfl (ah rfl (ev rfl)) ?_
    simp only [Act.put, aa, ac, ae]
    refine af (v := .bool true) rfl (ay true rfl (ev rfl) evk HE.out) ?_
    simp only [Act.put, aa, ac, ae]
    refine af (v := .bool true) rfl (al rfl (ev rfl)) ?_
    simp only [Act.put, aa, ac, ae]
    refine wpList_nil ?_
    go_wp2_with fail
    go_ret
    exact ⟨by rw [HZ.out]; rfl, Below.refl _ _⟩
  have HE : Hid (((Q : Int) == 0) = false) := Lib.hid (beq_eq_false_iff_ne.2 (by omega))
  have HQ0 := Lib.hid hq
  clear hq
  go_upto_region 3 with fail
  refine wp_region_lit ?_
  refine af rfl (ah rfl (ev rfl)) ?_
  simp only [Act.put, aa, ac, ae]
  refine af (v := .bool false) rfl (ay false rfl (ev rfl) evk HE.out) ?_
  simp only [Act.put, aa, ac, ae]
  refine af (v := .bool false) rfl (al rfl (ev rfl)) ?_
  simp only [Act.put, aa, ac, ae]
  refine wpList_nil ?_
  go_upto_region 5 with fail
  refine wp_region_lit ?_
  refine af rfl (ah rfl (ev rfl)) ?_
  simp only [Act.put, aa, ac, ae]
  refine af rfl (br aV rfl (ev rfl)) ?_
  simp only [Act.put, aa, ac, ae]
  refine af rfl (exec_makeE (E := aH) rfl (ev rfl) (ev rfl) HN0.out) ?_
  simp only [Act.put, aa, ac, ae]
  refine af rfl (al rfl (ev rfl)) ?_
  simp only [Act.put, aa, ac, ae]
  refine wpList_nil ?_
  generalize w.alloc (.cells (madeCells aH.z.cells (nc * aH.n)) aH.t) = w1 at *
  obtain ⟨g, hg⟩ : ∃ g, w.heap.size = g := ⟨_, rfl⟩
  rw [hg] at HM0 HBZ ⊢
  have HG := Lib.hid hg
  have HHg : Hid (∀ q, ftPs t mp FL m q → q < g) := Lib.hid fun q hq => by have := HH.out.size q hq; omega
  clear hg
  go_upto_region 6 with fail
  refine wp_region_lit ?_
  refine af rfl (ah rfl (ev rfl)) ?_
  simp only [Act.put, aa, ac, ae]
  refine af rfl (br aV rfl (ev rfl)) ?_
  simp only [Act.put, aa, ac, ae]
  refine af rfl (ah rfl evk) ?_
  simp only [Act.put, aa, ac, ae]
  refine wpList_nil ?_
  go_wp2_with fail
  go_loopw [8, 9, 22] (fun _ _ y wr => ∃ i : Nat, y = .int .i64 i ∧ i ≤ nc ∧ (c.take i).all (fun x => s.plc x.n x.m) = true ∧ ax aH wr g (.slice (some ⟨g, 0, none⟩) nc nc) (stz c nc i) ∧ Below g w wr) (fun _ _ y _ => nc - (intOf y).toNat)
  case atStart => exact ⟨0, by go_num, Nat.zero_le _, rfl, by rw [stz_zero]; exact HM0.out, HBZ.out⟩
  case round =>
    obtain ⟨i, rfl, hi, ha, hm, hb⟩ := hrel
    have HAL := Lib.hid ha
    have HM := Lib.hid hm
    have HW := Lib.hid hb
    have hb' : Below w.heap.size w wr := by rw [HG.out]; exact hb
    have HHr := Lib.hid (HH.out.below hb')
    have HCr := Lib.hid (HC.out.step hb')
    have HBS : Hid (g ≤ wr.heap.size) := Lib.hid (by have := hb'.size; rw [HG.out] at this; exact this)
    clear ha hm hb hb'
    by_cases hlt : i < nc
    · have HI := Lib.hid hlt
      have HIC : Hid (i < c.length) := Lib.hid (by rw [HCN.out]; exact hlt)
      have HT : Hid (decide ((i : Int) < (nc : Int)) = true) := Lib.hid (decide_eq_true (by omega))
      have HADD : Hid (IntKind.i64.wrap ((i : Int) + 1) = ((i + 1 : Nat) : Int)) := Lib.hid (by have := HN0.out; rw [i64q_ ⟨by omega, by omega⟩]; omega)
      obtain ⟨b, off, rfl, hbb, hcell⟩ := HCr.out.cl hlt
      obtain ⟨x, hx⟩ : ∃ x, c.getD i aU = x := ⟨_, rfl⟩
      rw [toCl_at HIC.out, hx] at hcell
      have HCL : Hid (wr.rangeAt b (off + i * aV.n) (celC (aP x))) := Lib.hid hcell
      have HXX := Lib.hid hx
      have HB3 : Hid (Below wr.heap.size wr (wr.alloc (.cells (celC (aP x)).toArray 52))) := Lib.hid ((Below.refl _ _).alloc (Nat.le_refl _) _)
      have HBX := Lib.hid (heap_alloc_new wr (.cells (celC (aP x)).toArray 52))
      clear hi hlt hcell hx hbb
      go_upto_region 7 with fail
      refine wp_region_lit ?_
      refine af (v := .bool true) rfl (aC true rfl (ev rfl) (ev rfl) HT.out) ?_
      simp only [Act.put, aa, ac, ae]
      refine wpList_nil ?_
      go_upto_region 8 with fail
      refine wp_region_lit ?_
      refine af rfl (ah rfl (ev rfl)) ?_
      simp only [Act.put, aa, ac, ae]
      refine af rfl (bg (E := aV) rfl (ev rfl) (ev rfl) HI.out) ?_
      simp only [Act.put, aa, ac, ae]
      refine af rfl (bT rfl (ev rfl) HCL.out) ?_
      simp only [Act.put, aa, ac, ae]
      refine af rfl (bW rfl) ?_
      simp only [Act.put, aa, ac, ae]
      refine af rfl (al rfl (ev rfl)) ?_
      simp only [Act.put, aa, ac, ae]
      refine aA rfl (exec_fillC rfl (ev rfl) (ev rfl)) ?_
      simp only [Act.put, aa, ac, ae]
      refine wpList_nil ?_
      obtain ⟨bx, hbx⟩ : ∃ bx, wr.heap.size = bx := ⟨_, rfl⟩
      rw [hbx] at HBX ⊢
      generalize wr.alloc (.cells (celC (aP x)).toArray 52) = w3 at *
      have HH3 := Lib.hid (HHr.out.below HB3.out)
      have HW3 := Lib.hid (HW.out.trans (HB3.out.mono HBS.out))
      have HM3 := Lib.hid (HM.out.below HB3.out)
      have HBXG : Hid (g ≤ bx) := Lib.hid (by rw [← hbx]; exact HBS.out)
      clear hbx
      have HPS : Hid (w3.rangeAt bx 0 (celP x.n x.m)) := Lib.hid (cl_place (c := aP x) (aL HBX.out))
      cases hp : s.plc x.n x.m
      · have HP : Hid (decide (0 ≤ x.n ∧ x.n < (s.T : Int) ∧ 0 ≤ x.m ∧ x.m < (s.N : Int)) = false) := Lib.hid hp
        have HZ : Hid (pq = 2) := Lib.hid (by
          rw [← HPQ.out]
          unfold putQ
          rw [all_not HIC.out (by rw [HXX.out]; exact hp), if_neg (by decide)])
        clear hp
        go_upto_region 9 with fail
        refine wp_region_lit ?_
        refine af rfl (ah rfl (ev rfl)) ?_
        simp only [Act.put, aa, ac, ae]
        refine af rfl (ai rfl (ev rfl) faC0) ?_
        simp only [Act.put, aa, ac, ae]
        refine af rfl (exec_loadPl rfl (ev rfl) HPS.out) ?_
        simp only [Act.put, aa, ac, ae]
        refine aj rfl (ar Try.call27 rfl (evc (ev rfl) (evc (ev rfl) evn))) ?_
        refine (bY x.n x.m HH3.out).mono ?_
        rintro e w4 ⟨rfl, b4⟩
        rw [HP.out]
        have HB4 := Lib.hid b4
        clear b4
        refine ⟨_, rfl, ?_⟩
        simp only [Act.put, aa, ac, ae]
        refine af (v := .bool true) rfl (aG false rfl (ev rfl)) ?_
        simp only [Act.put, aa, ac, ae]
        refine wpList_nil ?_
        go_wp2_with fail
        go_ret
        exact ⟨by rw [HZ.out]; rfl, by rw [HG.out]; exact HW3.out.trans (HB4.out.mono (Nat.le_trans HBS.out HB3.out.size))⟩
      have HP : Hid (decide (0 ≤ x.n ∧ x.n < (s.T : Int) ∧ 0 ≤ x.m ∧ x.m < (s.N : Int)) = true) := Lib.hid hp
      have HALN : Hid ((c.take (i + 1)).all (fun x => s.plc x.n x.m) = true) := Lib.hid (by rw [all_take HIC.out, HAL.out, HXX.out]; exact hp)
      clear hp
      go_upto_region 9 with fail
      refine wp_region_lit ?_
      refine af rfl (ah rfl (ev rfl)) ?_
      simp only [Act.put, aa, ac, ae]
      refine af rfl (ai rfl (ev rfl) faC0) ?_
      simp only [Act.put, aa, ac, ae]
      refine af rfl (exec_loadPl rfl (ev rfl) HPS.out) ?_
      simp only [Act.put, aa, ac, ae]
      refine aj rfl (ar Try.call27 rfl (evc (ev rfl) (evc (ev rfl) evn))) ?_
      refine (bY x.n x.m HH3.out).mono ?_
      rintro e w4 ⟨rfl, b4⟩
      rw [HP.out]
      have HB4 := Lib.hid b4
      clear b4
      refine ⟨_, rfl, ?_⟩
      simp only [Act.put, aa, ac, ae]
      refine af (v := .bool false) rfl (aG true rfl (ev rfl)) ?_
      simp only [Act.put, aa, ac, ae]
      refine wpList_nil ?_
      have HS34 : Hid (g ≤ w3.heap.size) := Lib.hid (Nat.le_trans HBS.out HB3.out.size)
      have HW4 := Lib.hid (HW3.out.trans (HB4.out.mono HS34.out))
      have HM4 := Lib.hid (HM3.out.below HB4.out)
      have HPL : Hid (w4.cell? ⟨bx, 0, none⟩ = some (.int .i64 x.n)) := Lib.hid (by have := (pl_cells (cl_place (c := aP x) (aL (aw HBX.out HB4.out)))).1; exact this)
      have HTH : Hid (w4.there g (0 + i * aH.n) 1) := Lib.hid (by have := HM4.out.there HI.out (j := 0) (m := 1) (Nat.le_refl _); rw [Nat.add_zero] at this; rwa [Nat.zero_add])
      have HM5 : Hid (ax aH (w4.setCells g (0 + i * aH.n) (aH.cel x.n)) g (.slice (some ⟨g, 0, none⟩) nc nc) (stz c nc (i + 1))) := Lib.hid (by have := HM4.out.store HI.out x.n; rw [← HXX.out, stz_set HCN.out HI.out, HXX.out] at this; rwa [Nat.zero_add])
      have HW5 : Hid (Below g w (w4.setCells g (0 + i * aH.n) (aH.cel x.n))) := Lib.hid (below_setCells HW4.out (Nat.le_refl _) _)
      go_upto_region 11 with fail
      refine wp_region_lit ?_
      refine af rfl (ah rfl (ev rfl)) ?_
      simp only [Act.put, aa, ac, ae]
      refine af rfl (ah rfl (ev rfl)) ?_
      simp only [Act.put, aa, ac, ae]
      refine af rfl (ai rfl (ev rfl) faC0) ?_
      simp only [Act.put, aa, ac, ae]
      refine af rfl (ai rfl (ev rfl) faPl0) ?_
      simp only [Act.put, aa, ac, ae]
      refine af rfl (aq rfl (ev rfl) (bn HPL.out)) ?_
      simp only [Act.put, aa, ac, ae]
      refine af rfl (bg (E := aH) rfl (ev rfl) (ev rfl) HI.out) ?_
      simp only [Act.put, aa, ac, ae]
      refine aA rfl (bi rfl (ev rfl) (ev rfl) (stIntE HTH.out)) ?_
      simp only [Act.put, aa, ac, ae]
      generalize w4.setCells g (0 + i * aH.n) (aH.cel x.n) = w5 at *
      refine wpList_nil ?_
      go_upto_region 12 with fail
      refine wp_region_lit ?_
      refine af rfl (bf rfl (ev rfl) evk HADD.out) ?_
      simp only [Act.put, aa, ac, ae]
      refine af rfl (ah rfl (ev rfl)) ?_
      simp only [Act.put, aa, ac, ae]
      refine wpList_nil ?_
      go_wp2_with fail
      go_roundw
      case rel => exact ⟨i + 1, by go_num, HI.out, HALN.out, HM5.out, HW5.out⟩
      case measure => have := HI.out; simp [intOf]; omega
    have hin : i = nc := by omega
    have HT : Hid (decide ((i : Int) < (nc : Int)) = false) := Lib.hid (decide_eq_false (by omega))
    have htk : c.take i = c := List.take_of_length_le (by rw [HCN.out]; omega)
    rw [htk] at HAL
    have HMF : Hid (ax aH wr g (.slice (some ⟨g, 0, none⟩) nc nc) (c.map PutC.n)) := Lib.hid (by have := HM.out; rwa [hin, stz_all HCN.out] at this)
    have HSR : Hid (RdE aH wr wr.heap.size (some ⟨g, 0, none⟩) nc (c.map PutC.n)) := Lib.hid (by have := ax.rd HMF.out; exact this)
    have HWF : Hid (∀ x ∈ c.map PutC.n, (Lit.int .i64 x).wf = true) := Lib.hid fun x hx => by
      obtain ⟨y, hy, rfl⟩ := List.mem_map.1 hx
      have hp := List.all_eq_true.1 HAL.out y hy
      obtain ⟨k, j, e1, hk, _, _⟩ := plc_of_ hp
      rw [e1]
      exact wf_nat (by have := HOK.out.t64; omega)
    clear hlt hi hin htk
    go_upto_region 7 with fail
    refine wp_region_lit ?_
    refine af (v := .bool false) rfl (aC false rfl (ev rfl) (ev rfl) HT.out) ?_
    simp only [Act.put, aa, ac, ae]
    refine wpList_nil ?_
    cases hf : s.fits (c.map PutC.n)
    · have HFI := Lib.hid hf
      have HZ : Hid (pq = 10) := Lib.hid (by rw [← HPQ.out]; unfold putQ; rw [HAL.out, if_pos rfl, if_neg HQ0.out, hf, if_neg (by decide)])
      clear hf
      go_upto_region 13 with fail
      refine wp_region_lit ?_
      refine af rfl (ah rfl (ev rfl)) ?_
      simp only [Act.put, aa, ac, ae]
      refine af rfl (ah rfl (ev rfl)) ?_
      simp only [Act.put, aa, ac, ae]
      refine aj rfl (ar Try.call28 rfl (evc (ev rfl) (evc (ev rfl) evn))) ?_
      refine (ps_Fits (l := c.map PutC.n) HHr.out HOK.out HSR.out HWF.out (by rw [List.length_map]; have := HN0.out; have := HCN.out; omega)).mono ?_
      rintro e wB ⟨rfl, b5⟩
      rw [HFI.out]
      have HWB := Lib.hid (HW.out.trans (b5.mono HBS.out))
      clear b5
      refine ⟨_, rfl, ?_⟩
      simp only [Act.put, aa, ac, ae]
      refine af (v := .bool true) rfl (aG false rfl (ev rfl)) ?_
      simp only [Act.put, aa, ac, ae]
      refine wpList_nil ?_
      go_wp2_with fail
      go_ret
      exact ⟨by rw [HZ.out]; rfl, by rw [HG.out]; exact HWB.out⟩
    have HFI := Lib.hid hf
    have HZ : Hid (pq = 0) := Lib.hid (by rw [← HPQ.out]; unfold putQ; rw [HAL.out, if_pos rfl, if_neg HQ0.out, hf, if_pos rfl])
    clear hf
    go_upto_region 13 with fail
    refine wp_region_lit ?_
    refine af rfl (ah rfl (ev rfl)) ?_
    simp only [Act.put, aa, ac, ae]
    refine af rfl (ah rfl (ev rfl)) ?_
    simp only [Act.put, aa, ac, ae]
    refine aj rfl (ar Try.call28 rfl (evc (ev rfl) (evc (ev rfl) evn))) ?_
    refine (ps_Fits (l := c.map PutC.n) HHr.out HOK.out HSR.out HWF.out (by rw [List.length_map]; have := HN0.out; have := HCN.out; omega)).mono ?_
    rintro e wB ⟨rfl, b5⟩
    rw [HFI.out]
    have HWB := Lib.hid (HW.out.trans (b5.mono HBS.out))
    clear b5
    refine ⟨_, rfl, ?_⟩
    simp only [Act.put, aa, ac, ae]
    refine af (v := .bool false) rfl (aG true rfl (ev rfl)) ?_
    simp only [Act.put, aa, ac, ae]
    refine wpList_nil ?_
    go_wp2_with fail
    go_ret
    exact ⟨by rw [HZ.out]; rfl, by rw [HG.out]; exact HWB.out⟩
end
section
variable {s : ShS} {n Q j k : Nat} {x : PutC}
theorem tch_mem (h : s.tchB k = true) : k ∈ (s.tch k).o := by rw [tch_o, if_pos h]; exact List.mem_cons_self ..
theorem set_ok (h : ShOk s) (hk : k < s.T) (hb : s.tchB k = true) (hQ : Q < 18446744073709551616) : ShOk ((s.tch k).setL k (some (bv (s.a7 k) x.m x.b Q))) :=
  (h.tch hk).setL (tch_mem hb) ((h.line k).1.set _ _ hQ) (by rw [len_set, (h.line k).2]; exact (ShS.tch_N s k).1.symm)
theorem set_dtyP (h : ShOk s) (hk : k < s.T) (hj : x.m = (j : Int)) (hjN : j < s.N) (hQ : Q ≠ 0) : ((s.tch k).setL k (some (bv (s.a7 k) x.m x.b Q))).dty = aR (s.tch k).dty k true := funext fun i => by
  by_cases e : i = k
  · subst e
    rw [aQ]
    have : ((s.tch i).setL i (some (bv (s.a7 i) x.m x.b Q))).ln i = some (bv (s.a7 i) x.m x.b Q) := by rw [aS, if_pos rfl]
    rw [dty_some this]
    exact set_dty (by rw [hj]; exact lnR_nat (by rw [(h.line i).2]; exact hjN)) hQ
  · rw [aD _ _ e]
    exact dty_eq (by rw [aS, if_neg e])
end
section
variable {w w1 w2 w' : World} {S S1 : Nat → Prop} {t K : Nat} {s : ShS}
theorem PSh.lt (h : PSh w S t K s) : ∀ b, S b → b < w.heap.size := by
  obtain ⟨lp, mp, FL, m, r, h1, h2, rfl⟩ := h
  exact h1.size
theorem PSh.below (h : PSh w S t K s) (hb : Below w.heap.size w w1) : PSh w1 S t K s := by
  obtain ⟨lp, mp, FL, m, r, h1, h2, e⟩ := h
  exact ⟨lp, mp, FL, m, r, h1.below hb, h2, e⟩
theorem PSx.since (hb : Below w.heap.size w w2) (h : PSx w2 S w' t s) : PSx w S w' t s := by
  obtain ⟨lp, mp, FL, m, r, h1, h2⟩ := h
  refine ⟨lp, mp, FL, m, r, ⟨h1.u, (Only.of_below S hb).trans h1.on fun b hb => .inl hb, fun b hb' => ?_⟩, h2⟩
  rcases h1.gr b hb' with e | e
  · exact .inl e
  · exact .inr (Nat.le_trans hb.size e)
theorem PSx.after (o : Only S w w1) (g : Grow w S S1) (h : PSx w1 S1 w' t s) : PSx w S w' t s := by
  obtain ⟨lp, mp, FL, m, r, h1, h2⟩ := h
  refine ⟨lp, mp, FL, m, r, ⟨h1.u, o.trans h1.on g, fun b hb' => ?_⟩, h2⟩
  rcases h1.gr b hb' with e | e
  · exact g b e
  · exact .inr (Nat.le_trans o.size e)
theorem PSx.keep {b : Nat} {o : Obj} (h : PSx w S w' t s) (hb : w.heap[b]? = some o) (hn : ¬ S b) : w'.heap[b]? = some o := Only.keep h.only hb hn
end
set_option maxHeartbeats 4000000 in
theorem ps_set {w : World} {S : Nat → Prop} {t K Q k j : Nat} {s : ShS} {x : PutC} (h : PSh w S t K s) (hk : x.n = (k : Int)) (hj : x.m = (j : Int)) (hkT : k < s.T) (hjN : j < s.N) (hQ0 : Q ≠ 0) (hQ : Q < 18446744073709551616) (htb : s.tchB k = true) : Calls Try.prog 17 #[.pointer (some ⟨t, 0, none⟩), clV (aP x), .int .u64 (Q : Int)] w fun e w' => e = .returned (.int .i64 0) ∧ PSx w S w' t ((s.tch k).setL k (some (bv (s.a7 k) x.m x.b Q))) := by
  have hok := h.x.ok
  have hlt := h.lt
  have HOK2 : Hid (ShOk ((s.tch k).setL k (some (bv (s.a7 k) x.m x.b Q)))) := Lib.hid (set_ok hok hkT htb hQ)
  have HDT := Lib.hid (set_dtyP (Q := Q) hok hkT hj hjN hQ0)
  have HTE : Hid (tcE s k = 0) := Lib.hid (by unfold tcE; rw [if_pos htb])
  have HKT := Lib.hid hkT
  have HQ := Lib.hid hQ
  have HW := Lib.hid (wf_nat (n := k) (by have := hok.t64; omega))
  have HLN := Lib.hid (tch_lnOf htb)
  have HSE : Hid (lnSE (s.a7 k) x.m Q = 0) := Lib.hid (by rw [hj]; exact lnSE_ok (by rw [(hok.line k).2]; exact hjN) hQ0)
  have HND : Hid ((s.tch k).o.Nodup) := Lib.hid (hok.tch hkT).nd
  have HX := Lib.hid (And.intro hk hj)
  have HMM := Lib.hid (tch_mem htb)
  have hb1 := (Below.refl w.heap.size w).alloc (Nat.le_refl _) (.cells (celC (aP x)).toArray 52)
  have HB1 := Lib.hid hb1
  have HC1 := Lib.hid (heap_alloc_new w (.cells (celC (aP x)).toArray 52))
  have HS := Lib.hid h
  have HNS : Hid (∀ b, w.heap.size ≤ b → ¬ S b) := Lib.hid fun b hb hs => by have := hlt b hs; omega
  clear h hok hkT hjN hQ0 hQ htb hk hj hb1 hlt
  go_enter Try.func17, Try.ntmps17
  go_upto_region 0 with fail
  refine wp_region_lit ?_
  refine af rfl (exec_boxC rfl (ev rfl)) ?_
  simp only [Act.put, aa, ac, ae]
  refine af rfl (al rfl evk) ?_
  simp only [Act.put, aa, ac, ae]
  refine wpList_nil ?_
  have HBC : Hid (¬ S w.heap.size) := Lib.hid (HNS.out _ (Nat.le_refl _))
  obtain ⟨bc, hbc⟩ : ∃ bc, w.heap.size = bc := ⟨_, rfl⟩
  have HBCQ : Hid (w.heap.size ≤ bc) := Lib.hid (Nat.le_of_eq hbc)
  rw [hbc] at HC1 HBC ⊢
  generalize w.alloc (.cells (celC (aP x)).toArray 52) = w1 at *
  clear hbc
  have HP1 : Hid (w1.rangeAt bc 0 (celP x.n x.m)) := Lib.hid (cl_place (c := aP x) (aL HC1.out))
  have hb2 := (Below.refl w1.heap.size w1).alloc (Nat.le_refl _) (.cells (celP x.n x.m).toArray 48)
  have HB2 := Lib.hid (HB1.out.trans (hb2.mono HB1.out.size))
  have HC2 := Lib.hid (aw HC1.out hb2)
  have HP2 := Lib.hid (heap_alloc_new w1 (.cells (celP x.n x.m).toArray 48))
  have HBP : Hid (¬ S w1.heap.size) := Lib.hid (HNS.out _ HB1.out.size)
  clear hb2
  go_upto_region 1 with fail
  refine wp_region_lit ?_
  refine af rfl (ai rfl (ev rfl) faC0) ?_
  simp only [Act.put, aa, ac, ae]
  refine af rfl (exec_loadPl rfl (ev rfl) HP1.out) ?_
  simp only [Act.put, aa, ac, ae]
  refine af rfl (exec_allocPl rfl) ?_
  simp only [Act.put, aa, ac, ae]
  refine aA rfl (exec_fillPl rfl (ev rfl) (ev rfl)) ?_
  simp only [Act.put, aa, ac, ae]
  refine wpList_nil ?_
  obtain ⟨bp, hbp⟩ : ∃ bp, w1.heap.size = bp := ⟨_, rfl⟩
  rw [hbp] at HP2 HBP ⊢
  generalize w1.alloc (.cells (celP x.n x.m).toArray 48) = w2 at *
  have HN2 : Hid (w2.cell? ⟨bp, 0, none⟩ = some (.int .i64 (k : Int))) := Lib.hid (by have := (pl_cells (aL HP2.out)).1; rwa [HX.out.1] at this)
  have HS2 := Lib.hid (HS.out.below HB2.out).x
  clear hbp HP1 HC1
  go_upto_region 2 with fail
  refine wp_region_lit ?_
  refine af rfl (ah rfl (ev rfl)) ?_
  simp only [Act.put, aa, ac, ae]
  refine af rfl (ai rfl (ev rfl) faPl0) ?_
  simp only [Act.put, aa, ac, ae]
  refine af rfl (aq rfl (ev rfl) (bn HN2.out)) ?_
  simp only [Act.put, aa, ac, ae]
  refine aj rfl (ar Try.call29 rfl (evc (ev rfl) (evc (ev rfl) evn))) ?_
  refine (ps_touch HS2.out HKT.out).mono ?_
  rintro e w3 ⟨rfl, h3⟩
  rw [HTE.out]
  have HC3 := Lib.hid (h3.keep HC2.out HBC.out)
  have HP3 := Lib.hid (h3.keep HP2.out HBP.out)
  obtain ⟨lp, mp, FL, m, r, hs3, hok3⟩ := h3
  have hl3 := hs3.u.ln k
  rw [HLN.out] at hl3
  obtain ⟨a, ha, hla, hlo⟩ := hl3.some_
  have HS3 := Lib.hid (hs3.below ((Below.refl _ _).drew))
  have HA := Lib.hid ha
  have HLA : Hid (PLnF w3.drew (fun j => j = a) a (s.a7 k)) := Lib.hid ⟨hla, rfl, hlo⟩
  have HLK : Hid ((Instr.lookup 37 (.map (some mp)) (.int .i64 (k : Int)) false).run Try.prog w3.drew = .ok (.pointer (some ⟨a, 0, none⟩)) w3.drew) := Lib.hid (by
    have := HS3.out.u.map.lookL HW.out
    rwa [show mLn m (k : Int) = some a from by unfold mLn; rw [if_pos (by omega), Int.toNat_natCast, ha]] at this)
  have HN3 : Hid (w3.cell? ⟨bp, 0, none⟩ = some (.int .i64 (k : Int)) ∧ w3.cell? ⟨bp, 0 + 1, none⟩ = some (.int .i64 x.m)) := Lib.hid (by have := pl_cells (aL HP3.out); rw [HX.out.1] at this; exact this)
  have HBL : Hid (w3.rangeAt bc (0 + 2) (cel x.b)) := Lib.hid (cl_blk (c := aP x) (aL HC3.out))
  clear hs3 hok3 hl3 ha hla hlo
  refine ⟨_, rfl, ?_⟩
  simp only [Act.put, aa, ac, ae]
  refine af rfl (al rfl (ev rfl)) ?_
  simp only [Act.put, aa, ac, ae]
  refine wpList_nil ?_
  go_upto_region 3 with fail
  refine wp_region_lit ?_
  refine af rfl (ah rfl (ev rfl)) ?_
  simp only [Act.put, aa, ac, ae]
  refine af (v := .bool false) rfl (aE false rfl (ev rfl) evk rfl) ?_
  simp only [Act.put, aa, ac, ae]
  refine wpList_nil ?_
  go_upto_region 5 with fail
  refine wp_region_still_tail 12 (by kernel_rfl) (by kernel_rfl) ?_
  simp only [List.take_succ_cons, List.take_zero, List.drop_succ_cons, List.drop_zero]
  refine aF rfl (ah rfl (ev rfl)) ?_
  simp only [Act.put, aa, ac, ae]
  refine aF rfl (ao rfl (ev rfl)) ?_
  simp only [Act.put, aa, ac, ae]
  refine aF rfl (ai rfl (ev rfl) faSq2) ?_
  simp only [Act.put, aa, ac, ae]
  refine aF rfl (aq rfl (ev rfl) (ldMl (PRu.c4 HS3.out.u))) ?_
  simp only [Act.put, aa, ac, ae]
  refine aF rfl (ai rfl (ev rfl) faPl0) ?_
  simp only [Act.put, aa, ac, ae]
  refine aF rfl (aq rfl (ev rfl) (bn HN3.out.1)) ?_
  simp only [Act.put, aa, ac, ae]
  refine aF rfl (aZ rfl (ev rfl) (ev rfl) HLK.out) ?_
  simp only [Act.put, aa, ac, ae]
  refine aF rfl (ai rfl (ev rfl) faPl1) ?_
  simp only [Act.put, aa, ac, ae]
  refine aF rfl (aq rfl (ev rfl) (bn HN3.out.2)) ?_
  simp only [Act.put, aa, ac, ae]
  refine aF rfl (ai rfl (ev rfl) faC1) ?_
  simp only [Act.put, aa, ac, ae]
  refine aF rfl (exec_load rfl (ev rfl) HBL.out) ?_
  simp only [Act.put, aa, ac, ae]
  refine aF rfl (ah rfl (ev rfl)) ?_
  simp only [Act.put, aa, ac, ae]
  refine wpStill_nil ?_
  change wpList _ _ _ _ _ (World.drew _)
  refine aj rfl (ar Try.call30 rfl (evc (ev rfl) (evc (ev rfl) (evc (ev rfl) (evc (ev rfl) evn))))) ?_
  refine (pl_setF w3.drew x.m x.b Q HLA.out HQ.out).mono ?_
  rintro e w4 ⟨rfl, l4, t4⟩
  rw [HSE.out]
  have HS4 := Lib.hid (HS3.out.line HA.out t4 l4)
  have HP4 := Lib.hid (Only.keep HS4.out.on HP2.out HBP.out)
  have HN4 : Hid (w4.cell? ⟨bp, 0, none⟩ = some (.int .i64 (k : Int))) := Lib.hid (by have := (pl_cells (aL HP4.out)).1; rwa [HX.out.1] at this)
  clear l4 t4
  refine ⟨_, rfl, ?_⟩
  simp only [Act.put, aa, ac, ae]
  refine af rfl (al rfl (ev rfl)) ?_
  simp only [Act.put, aa, ac, ae]
  refine wpList_nil ?_
  go_upto_region 6 with fail
  refine wp_region_lit ?_
  refine af rfl (ah rfl (ev rfl)) ?_
  simp only [Act.put, aa, ac, ae]
  refine af (v := .bool false) rfl (aE false rfl (ev rfl) evk rfl) ?_
  simp only [Act.put, aa, ac, ae]
  refine wpList_nil ?_
  have HS4d := Lib.hid (HS4.out.below ((Below.refl _ _).drew))
  have HL4 : Hid (PLF w4.drew (fun b => FL b ∨ w4.drew.heap.size ≤ b) lp (s.tch k).room (kyL (s.tch k).dty (s.tch k).o)) := Lib.hid (HS4d.out.u.li.mono fun b h1 _ => .inl h1)
  go_upto_region 8 with fail
  refine wp_region_still_tail 6 (by kernel_rfl) (by kernel_rfl) ?_
  simp only [List.take_succ_cons, List.take_zero, List.drop_succ_cons, List.drop_zero]
  refine aF rfl (ah rfl (ev rfl)) ?_
  simp only [Act.put, aa, ac, ae]
  refine aF rfl (ao rfl (ev rfl)) ?_
  simp only [Act.put, aa, ac, ae]
  refine aF rfl (ai rfl (ev rfl) faSq1) ?_
  simp only [Act.put, aa, ac, ae]
  refine aF rfl (aq rfl (ev rfl) (ldLl (PRu.c3 HS4d.out.u))) ?_
  simp only [Act.put, aa, ac, ae]
  refine aF rfl (ai rfl (ev rfl) faPl0) ?_
  simp only [Act.put, aa, ac, ae]
  refine aF rfl (aq rfl (ev rfl) (bn HN4.out)) ?_
  simp only [Act.put, aa, ac, ae]
  refine wpStill_nil ?_
  change wpList _ _ _ _ _ (World.drew _)
  refine aj rfl (ar Try.call25 rfl (evc (ev rfl) (evc (ev rfl) (evc evk evn)))) ?_
  refine (pl_pinF w4.drew HL4.out HW.out true).mono ?_
  rintro e w5 ⟨rfl, l5, t5⟩
  rw [pin_kyL HND.out] at l5
  obtain ⟨FL5, hs5⟩ := HS4d.out.list rfl l5 t5
  rw [← HDT.out] at hs5
  have HF : Hid (fndE (k : Int) (kyL (s.tch k).dty (s.tch k).o) = 0) := Lib.hid (if_pos (aX.2 HMM.out))
  rw [HF.out]
  have HS5 : Hid (PSx w2 S w5 t ((s.tch k).setL k (some (bv (s.a7 k) x.m x.b Q)))) := Lib.hid ⟨lp, mp, FL5, m, r, hs5, HOK2.out⟩
  clear l5 t5 hs5
  refine ⟨_, rfl, ?_⟩
  simp only [Act.put, aa, ac, ae]
  refine af rfl (al rfl (ev rfl)) ?_
  simp only [Act.put, aa, ac, ae]
  refine wpList_nil ?_
  go_wp2_with fail
  go_ret
  exact ⟨rfl, HS5.out.since HB2.out⟩
section
variable {s : ShS} {q j k i : Nat} {x p : PutC} {c : List PutC} {y : LnS} {m : Int} {b : Blk}
def dtAt (s : ShS) (x : PutC) : Bool := (lnAt (s.a7 x.n.toNat) x.m.toNat).dt
theorem lnOf_set (s : ShS) (k : Nat) (y : LnS) (j : Nat) : (s.setL k (some y)).a7 j = if j = k then y else s.a7 j := by
  by_cases e : j = k
  · subst e; rw [if_pos rfl]; exact bG (by rw [aS, if_pos rfl])
  · rw [if_neg e]; unfold ShS.a7; rw [aS, if_neg e]; rfl
theorem tch_lnD (h : ShOk s) (hd : s.dty j = true) (n : Nat) : (s.tch n).a7 j = s.a7 j := by
  unfold ShS.a7
  rw [h.tch_ln hd, (s.tch_N n).1]
theorem dtAt_dty (h : ShOk s) (hp : s.plc x.n x.m = true) (hd : dtAt s x = true) : s.dty x.n.toNat = true := by
  obtain ⟨k, i, e1, hk, e2, hi⟩ := plc_of_ hp
  rw [← dty_lnOf]
  refine lnDty_of (k := x.m.toNat) hd ?_
  rw [(h.line _).2]
  omega
theorem set_dt (hr : lnR y m = true) (hq : q ≠ 0) (h : j = m.toNat ∨ (lnAt y j).dt = true) : (lnAt (bv y m b q) j).dt = true := by
  obtain ⟨k, e, hk⟩ := lnR_get hr
  rw [e, lnSet_ok hk hq]
  unfold lnAt
  rw [getD_set_ _ _ _ _ _ hk]
  split
  · rfl
  · rename_i hne
    rcases h with h | h
    · exact absurd (by rw [h, e]; simp) hne
    · exact h
theorem put_dt (h : ShOk s) (hq : putQ s q c = 0) (hqb : q < 18446744073709551616) : ∀ i, i ≤ c.length → ∀ x ∈ c.take i, dtAt ((c.take i).foldl (ba q) s) x = true
  | 0, _ => fun x hx => by rw [List.take_zero] at hx; cases hx
  | i + 1, hi => fun x hx => by
    obtain ⟨h1, h2, h3⟩ := putQ_ok hq
    have hi' : i < c.length := by omega
    have ih := put_dt h hq hqb i (by omega)
    have pf := put_fold h hq hqb i (by omega)
    have hpm : c.getD i aU ∈ c := by rw [List.getD, List.getElem?_eq_getElem hi']; exact List.getElem_mem hi'
    obtain ⟨ht, hto, hr, _⟩ := pf.step (p := c.getD i aU) h3 (h1 _ hpm) ((unlk_mem _ _).2 (.inr (List.mem_map.2 ⟨_, hpm, rfl⟩))) h2 hqb
    rw [bC _ _ (d := aU) hi']
    rw [show c.take (i + 1) = c.take i ++ [c.getD i aU] from by rw [List.take_add_one, List.getD, List.getElem?_eq_getElem hi']; rfl] at hx
    generalize c.getD i aU = p at *
    generalize (c.take i).foldl (ba q) s = s1 at *
    unfold dtAt ba
    rw [lnOf_set]
    rcases List.mem_append.1 hx with hx | hx
    · have hxm : x ∈ c := List.mem_of_mem_take hx
      have hd := ih x hx
      have hdy := dtAt_dty pf.ok (by rw [pf.plc]; exact h1 x hxm) hd
      split
      · rename_i e
        refine set_dt hr h2 (.inr ?_)
        rw [← e, tch_lnD pf.ok hdy]
        exact hd
      · rw [tch_lnD pf.ok hdy]
        exact hd
    · have : x = p := by simpa using hx
      subst this
      rw [if_pos rfl]
      exact set_dt hr h2 (.inl rfl)
theorem frg_dt {N : Nat} (h : (lnAt y j).dt = true) (hj : (j : Int) ≠ m) (hy : LnOk y) : (lnAt (lnFrg y m) j).dt = true := by
  unfold lnFrg
  split
  · rename_i hr
    obtain ⟨k, e, hk⟩ := lnR_get hr
    unfold lnAt
    rw [e, Int.toNat_natCast, getD_set_ _ _ _ _ _ hk, if_neg (fun e2 => hj (by rw [e, e2]))]
    exact h
  · exact h
theorem parQ_not {N : Nat} (hx : x ∈ c) (h : parQ N c x.n = false) : x.m ≠ ((N - 1 - x.n.toNat % N : Nat) : Int) := fun e => by
  have : parQ N c x.n = true := List.any_eq_true.2 ⟨x, hx, by rw [decide_eq_true rfl, decide_eq_true e]; rfl⟩
  rw [h] at this
  cases this
theorem fgt_dt {s2 : ShS} (h : ShOk s2) (hp : ∀ x ∈ c, s2.plc x.n x.m = true) (hd : ∀ x ∈ c, dtAt s2 x = true) : ∀ i, i ≤ c.length →
    (∀ x ∈ c, parQ s2.N c x.n = false → dtAt ((c.take i).foldl (aI c) s2) x = true) ∧ ∀ j, ((c.take i).foldl (aI c) s2).dty j = s2.dty j
  | 0, _ => ⟨fun x hx _ => by rw [List.take_zero]; exact hd x hx, fun j => by rw [List.take_zero]; rfl⟩
  | i + 1, hi => by
    have hi' : i < c.length := by omega
    obtain ⟨ih1, ih2⟩ := fgt_dt h hp hd i (by omega)
    have hs : ∀ x ∈ c, (s2.ln x.n.toNat).isSome = true := fun x hx => bF (dtAt_dty h (hp x hx) (hd x hx))
    have fi := fgt_fold h c hs i (by omega)
    have fi1 := fgt_fold h c hs (i + 1) hi
    have hpm : c.getD i aU ∈ c := by rw [List.getD, List.getElem?_eq_getElem hi']; exact List.getElem_mem hi'
    rw [bC _ _ (d := aU) hi'] at fi1 ⊢
    generalize c.getD i aU = p at *
    generalize (c.take i).foldl (aI c) s2 = s1 at *
    have hplc : ∀ x ∈ c, s1.plc x.n x.m = true := fun x hx => by unfold ShS.plc; rw [fi.N, fi.T]; exact hp x hx
    by_cases hq : parQ s1.N c p.n = true
    · have e : aI c s1 p = s1 := by unfold aI; rw [if_pos hq]
      rw [e]
      exact ⟨ih1, ih2⟩
    · have hqf : parQ s2.N c p.n = false := by rw [fi.N] at hq; simpa using hq
      have e : aI c s1 p = s1.setL p.n.toNat (some (lnFrg (s1.a7 p.n.toNat) ((s1.N - 1 - p.n.toNat % s1.N : Nat) : Int))) := by unfold aI; rw [if_neg hq]
      rw [e] at fi1 ⊢
      have hdt : ∀ x ∈ c, parQ s2.N c x.n = false → dtAt (s1.setL p.n.toNat (some (lnFrg (s1.a7 p.n.toNat) ((s1.N - 1 - p.n.toNat % s1.N : Nat) : Int)))) x = true := fun x hx hxq => by
        have hx1 := ih1 x hx hxq
        unfold dtAt at hx1 ⊢
        rw [lnOf_set]
        split
        · rename_i en
          rw [en] at hx1
          refine frg_dt (N := s1.N) hx1 ?_ (fi.ok.line _).1
          have := parQ_not hx hxq
          obtain ⟨_, mi, _, _, em, _⟩ := plc_of_ (hp x hx)
          rw [← en, fi.N]
          omega
        · exact hx1
      refine ⟨hdt, fun j => ?_⟩
      rw [← ih2]
      by_cases ej : j = p.n.toNat
      · subst ej
        rw [dtAt_dty fi1.ok (by have := hplc p hpm; unfold ShS.plc at this ⊢; exact this) (hdt p hpm hqf), dtAt_dty fi.ok (hplc p hpm) (ih1 p hpm hqf)]
      · exact dty_eq (by rw [aS, if_neg ej])
end
end Go.Proofs.Ytdmhelalbemlcaa
