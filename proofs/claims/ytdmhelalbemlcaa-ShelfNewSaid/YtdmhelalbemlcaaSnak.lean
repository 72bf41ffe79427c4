import Derived.Test.YtdmhelalbemlcaaSnaj
import Derived.Test.YtdmhelalbemlcaaSnZ
namespace Go.Proofs.Ytdmhelalbemlcaa
open Go.RowKit
set_option linter.unusedVariables false
set_option linter.unusedSimpArgs false
set_option maxRecDepth 100000
def hbC (f : Nat → Bool) : List Value := (List.range 64).map fun j => .bool (f j)
theorem hbC_len (f : Nat → Bool) : (hbC f).length = 64 := by simp [hbC]
theorem hbC_at (f : Nat → Bool) {j : Nat} (h : j < 64) : (hbC f)[j]? = some (.bool (f j)) := by
  simp only [hbC, List.getElem?_map, List.getElem?_range h, Option.map_some]
theorem hbC_set (f : Nat → Bool) (k : Nat) (b : Bool) : (hbC f).set k (.bool b) = hbC (aR f k b) := by
  apply List.ext_getElem?
  intro j
  by_cases hj : j < 64
  · rw [hbC_at _ hj]
    by_cases e : k = j
    · subst e; rw [List.getElem?_set_self (by rw [hbC_len]; exact hj), aQ]
    · rw [List.getElem?_set_ne e, hbC_at _ hj, aD _ _ fun e2 => e e2.symm]
  · rw [List.getElem?_eq_none (by rw [List.length_set, hbC_len]; omega), List.getElem?_eq_none (by rw [hbC_len]; omega)]
def HasAt (w : World) (b : Nat) (f : Nat → Bool) : Prop := w.heap[b]? = some (.cells (hbC f).toArray 74 (0, 0))
section
variable {w w' : World} {b k : Nat} {f : Nat → Bool}
theorem HasAt.at_ (h : HasAt w b f) (hk : k < 64) : w.cell? ⟨b, k, none⟩ = some (.bool (f k)) := by
  have := (aL h) k _ (hbC_at f hk)
  rwa [Nat.zero_add] at this
theorem HasAt.fz (h : HasAt w b f) (j : Nat) : w.frozen? ⟨b, j, none⟩ = false := frozen_of_row w b j _ _ h
theorem HasAt.set (h : HasAt w b f) (k : Nat) : HasAt (w.setCell ⟨b, k, none⟩ (.bool true)) b (aR f k true) := by
  have := heap_setCell_same w b k _ _ (.bool true) h
  unfold HasAt
  rw [this, ← hbC_set]
  simp
theorem has_zero : (Try.prog.info? 74).map (fun i => i.zero) = some (some (.agg (hbC fun _ => false).toArray)) := by kernel_rfl
theorem HasAt.below (h : HasAt w b f) (hb : Below w.heap.size w w') : HasAt w' b f := aw h hb
theorem ixHas {off : Nat} (hk : k < 64) : (Instr.indexAt 74 (.pointer (some ⟨b, 0, none⟩)) (.int .i64 (k : Int))).run Try.prog w = .ok (.pointer (some ⟨b, k, none⟩)) w := by
  have e : (0 ≤ (k : Int) ∧ (k : Int) < 64) := by omega
  simp [Instr.indexAt, Instr.sureAddr, asIntOf, run_underlying Try.underlying74, Try.sizeOf4, Addr.add_mid, e, hk]
end
theorem exec_ixHas {ρ : Operand → Value} {o : Oper} {x y : Operand} {w : World} {b k : Nat} (hk : k < 64) (ho : o.op = .indexAddr 74 x y) (hx : ρ x = .pointer (some ⟨b, 0, none⟩)) (hy : ρ y = .int .i64 (k : Int)) : (execOp ρ o).run Try.prog w = .ok (.value (.pointer (some ⟨b, k, none⟩))) w := by
  unfold execOp
  simp only [ho, hx, hy, Sem.run_bind, ixHas (off := 0) hk, Result.andThen_ok, Sem.run_pure]
def hbF (N : Nat) (l : List Cl) (j : Nat) : Bool := l.any (parAt N j)
theorem hbF_snoc {N : Nat} {l : List Cl} {i k : Nat} {x : Cl} (hi : i < l.length) (hx : l.getD i zeroC = x) (hk : x.s = (k : Int)) : hbF N (l.take (i + 1)) = if x.m = ((N - 1 - k % N : Nat) : Int) then aR (hbF N (l.take i)) k true else hbF N (l.take i) := by
  subst hx
  have e : ∀ j, hbF N (l.take (i + 1)) j = (hbF N (l.take i) j || parAt N j (l.getD i zeroC)) := fun j => by
    unfold hbF
    rw [List.take_add_one, List.getElem?_eq_getElem hi, List.getD, List.getElem?_eq_getElem hi, List.any_append]
    simp
  funext j
  rw [e]
  by_cases ej : j = k
  · subst ej
    split
    · rename_i hm
      rw [aQ]
      have : parAt N j (l.getD i zeroC) = true := by unfold parAt pPl; rw [decide_eq_true hk, decide_eq_true hm]; rfl
      rw [this, Bool.or_true]
    · rename_i hm
      have : parAt N j (l.getD i zeroC) = false := by unfold parAt pPl; rw [decide_eq_false hm, Bool.and_false]
      rw [this, Bool.or_false]
  · have : parAt N j (l.getD i zeroC) = false := by unfold parAt; rw [decide_eq_false (by omega), Bool.false_and]
    rw [this, Bool.or_false]
    split
    · rw [aD _ _ ej]
    · rfl
set_option maxHeartbeats 4000000 in
theorem ps_forget {w : World} {S : Nat → Prop} {t K nc cc : Nat} {A : Option Addr} {c : List PutC} {s : ShS} (h : PSh w S t K s) (hn0 : nc ≤ 1000000) (hc : RdE aV w w.heap.size A nc (c.map aP)) (hcn : c.length = nc) (hA : ∀ x, A = some x → 0 < nc → ¬ S x.block) (hp : ∀ x ∈ c, s.plc x.n x.m = true) (hd : ∀ x ∈ c, dtAt s x = true) : Calls Try.prog 18 #[.pointer (some ⟨t, 0, none⟩), .slice A nc cc] w fun e w' => e = .returned (.tuple #[]) ∧ PSx w S w' t (c.foldl (aI c) s) := by
  have hok := h.x.ok
  have hlt0 := h.lt
  have HT64 : Hid (s.T ≤ 64) := Lib.hid hok.t64
  have HPC := Lib.hid hp
  have HN0 := Lib.hid hn0
  have HC := Lib.hid hc
  have HCN := Lib.hid hcn
  have HA := Lib.hid hA
  have HOK := Lib.hid hok
  have HSM : Hid (∀ x ∈ c, (s.ln x.n.toNat).isSome = true) := Lib.hid fun x hx => bF (dtAt_dty hok (hp x hx) (hd x hx))
  have HFD := Lib.hid (fgt_dt hok hp hd)
  have HLC : Hid ((c.map aP).length = c.length) := Lib.hid (List.length_map _)
  have hb1 := (Below.refl w.heap.size w).alloc (Nat.le_refl _) (.cells (hbC fun _ => false).toArray 74)
  have HB1 := Lib.hid hb1
  have HH1 : Hid (HasAt (w.alloc (.cells (hbC fun _ => false).toArray 74)) w.heap.size (fun _ => false)) := Lib.hid (heap_alloc_new w _)
  have HS := Lib.hid h
  have HNS : Hid (∀ b, w.heap.size ≤ b → ¬ S b) := Lib.hid fun b hb hs => by have := hlt0 b hs; omega
  clear h hok hn0 hc hcn hA hp hd hb1 hlt0
  go_enter Try.func18, Try.ntmps18
  go_upto_region 0 with fail
  refine wp_region_lit ?_
  refine af rfl (bV has_zero rfl) ?_
  simp only [Act.put, aa, ac, ae]
  refine wpList_nil ?_
  have HBH : Hid (¬ S w.heap.size) := Lib.hid (HNS.out _ (Nat.le_refl _))
  obtain ⟨bh, hbh⟩ : ∃ bh, w.heap.size = bh := ⟨_, rfl⟩
  have HBHQ := Lib.hid hbh
  rw [hbh] at HH1 HBH ⊢
  generalize w.alloc (.cells (hbC fun _ => false).toArray 74) = w1 at *
  clear hbh
  go_upto_region 1 with fail
  refine wp_region_lit ?_
  refine af rfl (ah rfl (ev rfl)) ?_
  simp only [Act.put, aa, ac, ae]
  refine af rfl (br aV rfl (ev rfl)) ?_
  simp only [Act.put, aa, ac, ae]
  refine af rfl (ah rfl evk) ?_
  simp only [Act.put, aa, ac, ae]
  refine wpList_nil ?_
  go_wp2_with fail
  go_loopw [6, 12] (fun _ y wr => ∃ i : Nat, y = .int .i64 i ∧ i ≤ nc ∧ HasAt wr bh (hbF s.N ((c.map aP).take i)) ∧ Below bh w wr) (fun _ y _ => nc - (intOf y).toNat)
  case atStart => exact ⟨0, by go_num, Nat.zero_le _, by rw [List.take_zero]; exact HH1.out, by have := HB1.out; rwa [HBHQ.out] at this⟩
  case round =>
    obtain ⟨i, rfl, hi, hh, hb⟩ := hrel
    have HHr := Lib.hid hh
    have HW := Lib.hid hb
    have hb' : Below w.heap.size w wr := by rw [HBHQ.out]; exact hb
    have HCr := Lib.hid (HC.out.step hb')
    have HSr := Lib.hid (HS.out.below hb')
    have HBS : Hid (bh ≤ wr.heap.size) := Lib.hid (by have := hb'.size; rw [HBHQ.out] at this; exact this)
    clear hh hb hb'
    by_cases hlt : i < nc
    · have HI := Lib.hid hlt
      have HIC : Hid (i < c.length) := Lib.hid (by rw [HCN.out]; exact hlt)
      have HT : Hid (decide ((i : Int) < (nc : Int)) = true) := Lib.hid (decide_eq_true (by omega))
      have HADD : Hid (IntKind.i64.wrap ((i : Int) + 1) = ((i + 1 : Nat) : Int)) := Lib.hid (by have := HN0.out; rw [i64q_ ⟨by omega, by omega⟩]; omega)
      obtain ⟨b, off, rfl, hbb, hcell⟩ := HCr.out.cl hlt
      obtain ⟨x, hx⟩ : ∃ x, c.getD i aU = x := ⟨_, rfl⟩
      rw [toCl_at HIC.out, hx] at hcell
      have HCL : Hid (wr.rangeAt b (off + i * aV.n) (celC (aP x))) := Lib.hid hcell
      have HXX := Lib.hid hx
      obtain ⟨k, j, e1, hkT, e2, hjN⟩ := plc_of_ (HPC.out x (by rw [← hx, List.getD, List.getElem?_eq_getElem HIC.out]; exact List.getElem_mem HIC.out))
      have HE1 := Lib.hid e1
      have HKT := Lib.hid hkT
      have HK64 : Hid (k < 64) := Lib.hid (by have := HT64.out; omega)
      have HB3 : Hid (Below wr.heap.size wr (wr.alloc (.cells (celC (aP x)).toArray 52))) := Lib.hid ((Below.refl _ _).alloc (Nat.le_refl _) _)
      have HBX := Lib.hid (heap_alloc_new wr (.cells (celC (aP x)).toArray 52))
      have HSNO : Hid (hbF s.N ((c.map aP).take (i + 1)) = if x.m = ((s.N - 1 - k % s.N : Nat) : Int) then aR (hbF s.N ((c.map aP).take i)) k true else hbF s.N ((c.map aP).take i)) := Lib.hid (hbF_snoc (x := aP x) (by rw [HLC.out]; exact HIC.out) (by rw [toCl_at HIC.out, hx]) e1)
      clear hi hlt hcell hx hbb e1 hkT e2 hjN
      go_upto_region 2 with fail
      refine wp_region_lit ?_
      refine af (v := .bool true) rfl (aC true rfl (ev rfl) (ev rfl) HT.out) ?_
      simp only [Act.put, aa, ac, ae]
      refine wpList_nil ?_
      go_upto_region 3 with fail
      refine wp_region_lit ?_
      refine af rfl (bg (E := aV) rfl (ev rfl) (ev rfl) HI.out) ?_
      simp only [Act.put, aa, ac, ae]
      refine af rfl (bT rfl (ev rfl) HCL.out) ?_
      simp only [Act.put, aa, ac, ae]
      refine af rfl (bW rfl) ?_
      simp only [Act.put, aa, ac, ae]
      refine aA rfl (exec_fillC rfl (ev rfl) (ev rfl)) ?_
      simp only [Act.put, aa, ac, ae]
      refine wpList_nil ?_
      obtain ⟨bx, hbx⟩ : ∃ bx, wr.heap.size = bx := ⟨_, rfl⟩
      rw [hbx] at HBX ⊢
      generalize wr.alloc (.cells (celC (aP x)).toArray 52) = w3 at *
      have HS3 := Lib.hid (HSr.out.below HB3.out)
      have HH3 := Lib.hid (HHr.out.below HB3.out)
      have HW3 := Lib.hid (HW.out.trans (HB3.out.mono HBS.out))
      have HS3B : Hid (bh ≤ w3.heap.size) := Lib.hid (Nat.le_trans HBS.out HB3.out.size)
      clear hbx
      have HPS : Hid (∀ {w' : World}, Below w3.heap.size w3 w' → w'.cell? ⟨bx, 0, none⟩ = some (.int .i64 (k : Int)) ∧ w'.cell? ⟨bx, 0 + 1, none⟩ = some (.int .i64 x.m)) := Lib.hid fun hw => by
        have := pl_cells (cl_place (c := aP x) (aL (aw HBX.out hw)))
        rw [← HE1.out]
        exact this
      obtain ⟨lp, mp, FL, m, r, hs3, hok3, _⟩ := HS3.out
      have HU3 := Lib.hid hs3
      clear hs3 hok3
      by_cases hm : x.m = ((s.N - 1 - k % s.N : Nat) : Int)
      · have HM : Hid ((x.m == ((s.N - 1 - k % s.N : Nat) : Int)) = true) := Lib.hid (by rw [hm]; exact beq_self_eq_true _)
        have HST : Hid (hbF s.N ((c.map aP).take (i + 1)) = aR (hbF s.N ((c.map aP).take i)) k true) := Lib.hid (by rw [HSNO.out, if_pos hm])
        clear hm
        go_upto_region 4 with fail
        refine aN (B := w3.heap.size) (by kernel_rfl) ?_
        refine av rfl (fun w' hw => ai rfl (ev rfl) faC0) ?_
        simp only [Act.put, aa, ac, ae]
        refine av rfl (fun w' hw => ai rfl (ev rfl) faPl1) ?_
        simp only [Act.put, aa, ac, ae]
        refine av rfl (fun w' hw => aq rfl (ev rfl) (bn (HPS.out hw).2)) ?_
        simp only [Act.put, aa, ac, ae]
        refine av rfl (fun w' hw => ah rfl (ev rfl)) ?_
        simp only [Act.put, aa, ac, ae]
        refine av rfl (fun w' hw => ai rfl (ev rfl) faC0) ?_
        simp only [Act.put, aa, ac, ae]
        refine av rfl (fun w' hw => ai rfl (ev rfl) faPl0) ?_
        simp only [Act.put, aa, ac, ae]
        refine av rfl (fun w' hw => aq rfl (ev rfl) (bn (HPS.out hw).1)) ?_
        simp only [Act.put, aa, ac, ae]
        refine qv_call rfl (fun _ => ar Try.call31 rfl (evc (ev rfl) (evc (ev rfl) evn))) (above_of (Nat.le_refl _) fun w' hw => ps_parity HKT.out (HU3.out.below hw)) ?_
        simp only [Act.put, aa, ac, ae]
        refine av (v := .bool true) rfl (fun w' hw => ay true rfl (ev rfl) (ev rfl) HM.out) ?_
        simp only [Act.put, aa, ac, ae]
        refine wpQuiet_nil ?_
        intro w4 hw
        have HH4 := Lib.hid (HH3.out.below hw)
        have HW4 := Lib.hid (HW3.out.trans (hw.mono HS3B.out))
        have HPS4 : Hid (w4.cell? ⟨bx, 0, none⟩ = some (.int .i64 (k : Int))) := Lib.hid (HPS.out hw).1
        clear hw
        have HH5 := Lib.hid (HH4.out.set k)
        have HW5 : Hid (Below bh w (w4.setCell ⟨bh, k, none⟩ (.bool true))) := Lib.hid (below_setCells HW4.out (Nat.le_refl _) (o := k) [.bool true])
        go_upto_region 5 with fail
        refine wp_region_lit ?_
        refine af rfl (ai rfl (ev rfl) faC0) ?_
        simp only [Act.put, aa, ac, ae]
        refine af rfl (ai rfl (ev rfl) faPl0) ?_
        simp only [Act.put, aa, ac, ae]
        refine af rfl (aq rfl (ev rfl) (bn HPS4.out)) ?_
        simp only [Act.put, aa, ac, ae]
        refine af rfl (exec_ixHas HK64.out rfl (ev rfl) (ev rfl)) ?_
        simp only [Act.put, aa, ac, ae]
        refine aA rfl (bi rfl (ev rfl) evk (stBo (HH4.out.at_ HK64.out) (HH4.out.fz k))) ?_
        simp only [Act.put, aa, ac, ae]
        generalize w4.setCell ⟨bh, k, none⟩ (.bool true) = w5 at *
        refine wpList_nil ?_
        go_upto_region 6 with fail
        refine wp_region_lit ?_
        refine af rfl (bf rfl (ev rfl) evk HADD.out) ?_
        simp only [Act.put, aa, ac, ae]
        refine af rfl (ah rfl (ev rfl)) ?_
        simp only [Act.put, aa, ac, ae]
        refine wpList_nil ?_
        go_wp2_with fail
        go_roundw
        case rel => exact ⟨i + 1, by go_num, HI.out, by rw [HST.out]; exact HH5.out, HW5.out⟩
        case measure => have := HI.out; simp [intOf]; omega
      have HM : Hid ((x.m == ((s.N - 1 - k % s.N : Nat) : Int)) = false) := Lib.hid (beq_eq_false_iff_ne.2 hm)
      have HST : Hid (hbF s.N ((c.map aP).take (i + 1)) = hbF s.N ((c.map aP).take i)) := Lib.hid (by rw [HSNO.out, if_neg hm])
      clear hm
      go_upto_region 4 with fail
      refine aN (B := w3.heap.size) (by kernel_rfl) ?_
      refine av rfl (fun w' hw => ai rfl (ev rfl) faC0) ?_
      simp only [Act.put, aa, ac, ae]
      refine av rfl (fun w' hw => ai rfl (ev rfl) faPl1) ?_
      simp only [Act.put, aa, ac, ae]
      refine av rfl (fun w' hw => aq rfl (ev rfl) (bn (HPS.out hw).2)) ?_
      simp only [Act.put, aa, ac, ae]
      refine av rfl (fun w' hw => ah rfl (ev rfl)) ?_
      simp only [Act.put, aa, ac, ae]
      refine av rfl (fun w' hw => ai rfl (ev rfl) faC0) ?_
      simp only [Act.put, aa, ac, ae]
      refine av rfl (fun w' hw => ai rfl (ev rfl) faPl0) ?_
      simp only [Act.put, aa, ac, ae]
      refine av rfl (fun w' hw => aq rfl (ev rfl) (bn (HPS.out hw).1)) ?_
      simp only [Act.put, aa, ac, ae]
      refine qv_call rfl (fun _ => ar Try.call31 rfl (evc (ev rfl) (evc (ev rfl) evn))) (above_of (Nat.le_refl _) fun w' hw => ps_parity HKT.out (HU3.out.below hw)) ?_
      simp only [Act.put, aa, ac, ae]
      refine av (v := .bool false) rfl (fun w' hw => ay false rfl (ev rfl) (ev rfl) HM.out) ?_
      simp only [Act.put, aa, ac, ae]
      refine wpQuiet_nil ?_
      intro w4 hw
      have HH4 := Lib.hid (HH3.out.below hw)
      have HW4 := Lib.hid (HW3.out.trans (hw.mono HS3B.out))
      clear hw
      go_upto_region 6 with fail
      refine wp_region_lit ?_
      refine af rfl (bf rfl (ev rfl) evk HADD.out) ?_
      simp only [Act.put, aa, ac, ae]
      refine af rfl (ah rfl (ev rfl)) ?_
      simp only [Act.put, aa, ac, ae]
      refine wpList_nil ?_
      go_wp2_with fail
      go_roundw
      case rel => exact ⟨i + 1, by go_num, HI.out, by rw [HST.out]; exact HH4.out, HW4.out⟩
      case measure => have := HI.out; simp [intOf]; omega
    have hin : i = nc := by omega
    have HT : Hid (decide ((i : Int) < (nc : Int)) = false) := Lib.hid (decide_eq_false (by omega))
    have HHB : Hid (HasAt wr bh (hbF s.N (c.map aP))) := Lib.hid (by have := HHr.out; rwa [hin, List.take_of_length_le (by rw [HLC.out, HCN.out]; omega)] at this)
    clear hlt hi hin
    go_upto_region 2 with fail
    refine wp_region_lit ?_
    refine af (v := .bool false) rfl (aC false rfl (ev rfl) (ev rfl) HT.out) ?_
    simp only [Act.put, aa, ac, ae]
    refine wpList_nil ?_
    go_upto_region 7 with fail
    refine wp_region_lit ?_
    refine af rfl (ah rfl (ev rfl)) ?_
    simp only [Act.put, aa, ac, ae]
    refine af rfl (br aV rfl (ev rfl)) ?_
    simp only [Act.put, aa, ac, ae]
    refine af rfl (ah rfl evk) ?_
    simp only [Act.put, aa, ac, ae]
    refine wpList_nil ?_
    have HWB : Hid (Below w.heap.size w wr) := Lib.hid (by rw [HBHQ.out]; exact HW.out)
    have HCB := HCr
    have HSB := HSr
    clear HCr HSr HW HBS
    rename World => wB
    go_wp2_with fail
    go_loopw [8, 9, 32] (fun _ _ y wr => ∃ i : Nat, y = .int .i64 i ∧ i ≤ nc ∧ PSx wB S wr t ((c.take i).foldl (aI c) s)) (fun _ _ y _ => nc - (intOf y).toNat)
    case atStart => exact ⟨0, by go_num, Nat.zero_le _, HSB.out.x⟩
    case round =>
      obtain ⟨i, rfl, hi, hs⟩ := hrel
      have HSr := Lib.hid hs
      have HCr := Lib.hid (HCB.out.only hs.only (Nat.le_refl _) HA.out)
      have HHr : Hid (HasAt wr bh (hbF s.N (c.map aP))) := Lib.hid (hs.keep HHB.out HBH.out)
      clear hs
      by_cases hlt : i < nc
      · have HI := Lib.hid hlt
        have HIC : Hid (i < c.length) := Lib.hid (by rw [HCN.out]; exact hlt)
        have HT : Hid (decide ((i : Int) < (nc : Int)) = true) := Lib.hid (decide_eq_true (by omega))
        have HADD : Hid (IntKind.i64.wrap ((i : Int) + 1) = ((i + 1 : Nat) : Int)) := Lib.hid (by have := HN0.out; rw [i64q_ ⟨by omega, by omega⟩]; omega)
        obtain ⟨b, off, rfl, hbb, hcell⟩ := HCr.out.cl hlt
        obtain ⟨x, hx⟩ : ∃ x, c.getD i aU = x := ⟨_, rfl⟩
        rw [toCl_at HIC.out, hx] at hcell
        have HCL : Hid (wr.rangeAt b (off + i * aV.n) (celC (aP x))) := Lib.hid hcell
        have HXX := Lib.hid hx
        obtain ⟨k, j, e1, hkT, e2, hjN⟩ := plc_of_ (HPC.out x (by rw [← hx, List.getD, List.getElem?_eq_getElem HIC.out]; exact List.getElem_mem HIC.out))
        have HE1 := Lib.hid e1
        have HKT := Lib.hid hkT
        have HK64 : Hid (k < 64) := Lib.hid (by have := HT64.out; omega)
        have HB3 : Hid (Below wr.heap.size wr (wr.alloc (.cells (celC (aP x)).toArray 52))) := Lib.hid ((Below.refl _ _).alloc (Nat.le_refl _) _)
        have HBX := Lib.hid (heap_alloc_new wr (.cells (celC (aP x)).toArray 52))
        have HFA := Lib.hid (fgt_step HOK.out HSM.out HIC.out (by rw [hx]; exact e1))
        have HFD1 : Hid (∀ j, ((c.take (i + 1)).foldl (aI c) s).dty j = ((c.take i).foldl (aI c) s).dty j) := Lib.hid fun j => by rw [(HFD.out (i + 1) HIC.out).2, (HFD.out i (Nat.le_of_lt HIC.out)).2]
        have HWF := Lib.hid (wf_nat HK64.out)
        clear hi hlt hcell hx hbb e1 hkT e2 hjN
        go_upto_region 8 with fail
        refine wp_region_lit ?_
        refine af (v := .bool true) rfl (aC true rfl (ev rfl) (ev rfl) HT.out) ?_
        simp only [Act.put, aa, ac, ae]
        refine wpList_nil ?_
        go_upto_region 9 with fail
        refine wp_region_lit ?_
        refine af rfl (bg (E := aV) rfl (ev rfl) (ev rfl) HI.out) ?_
        simp only [Act.put, aa, ac, ae]
        refine af rfl (bT rfl (ev rfl) HCL.out) ?_
        simp only [Act.put, aa, ac, ae]
        refine af rfl (bW rfl) ?_
        simp only [Act.put, aa, ac, ae]
        refine aA rfl (exec_fillC rfl (ev rfl) (ev rfl)) ?_
        simp only [Act.put, aa, ac, ae]
        refine wpList_nil ?_
        obtain ⟨bx, hbx⟩ : ∃ bx, wr.heap.size = bx := ⟨_, rfl⟩
        rw [hbx] at HBX ⊢
        generalize wr.alloc (.cells (celC (aP x)).toArray 52) = w3 at *
        have HS3 := Lib.hid (HSr.out.below HB3.out)
        have HH3 := Lib.hid (HHr.out.below HB3.out)
        clear hbx
        have HPS : Hid (w3.cell? ⟨bx, 0, none⟩ = some (.int .i64 (k : Int))) := Lib.hid (by
          have := (pl_cells (cl_place (c := aP x) (aL HBX.out))).1
          rw [← HE1.out]
          exact this)
        go_upto_region 10 with fail
        refine wp_region_lit ?_
        refine af rfl (ai rfl (ev rfl) faC0) ?_
        simp only [Act.put, aa, ac, ae]
        refine af rfl (ai rfl (ev rfl) faPl0) ?_
        simp only [Act.put, aa, ac, ae]
        refine af rfl (aq rfl (ev rfl) (bn HPS.out)) ?_
        simp only [Act.put, aa, ac, ae]
        refine af rfl (al rfl (ev rfl)) ?_
        simp only [Act.put, aa, ac, ae]
        refine wpList_nil ?_
        have HFN := Lib.hid HFA.out.N
        cases hfl : hbF s.N (c.map aP) k
        rotate_left
        · have HFL := Lib.hid hfl
          have HNX : Hid ((c.take (i + 1)).foldl (aI c) s = (c.take i).foldl (aI c) s) := Lib.hid (HFA.out.yes (by rw [HFN.out]; exact hfl))
          clear hfl
          go_upto_region 11 with fail
          refine wp_region_lit ?_
          refine af rfl (ah rfl (ev rfl)) ?_
          simp only [Act.put, aa, ac, ae]
          refine af rfl (exec_ixHas HK64.out rfl (ev rfl) (ev rfl)) ?_
          simp only [Act.put, aa, ac, ae]
          refine af (v := .bool true) rfl (aq rfl (ev rfl) (ldBoL (by rw [HH3.out.at_ HK64.out, HFL.out]))) ?_
          simp only [Act.put, aa, ac, ae]
          refine af (v := .bool false) rfl (aG true rfl (ev rfl)) ?_
          simp only [Act.put, aa, ac, ae]
          refine wpList_nil ?_
          go_upto_region 13 with fail
          refine wp_region_lit ?_
          refine af rfl (bf rfl (ev rfl) evk HADD.out) ?_
          simp only [Act.put, aa, ac, ae]
          refine af rfl (ah rfl (ev rfl)) ?_
          simp only [Act.put, aa, ac, ae]
          refine wpList_nil ?_
          go_wp2_with fail
          go_roundw
          case rel => exact ⟨i + 1, by go_num, HI.out, by rw [HNX.out]; exact HS3.out⟩
          case measure => have := HI.out; simp [intOf]; omega
        have HFL := Lib.hid hfl
        have HNX : Hid ((c.take (i + 1)).foldl (aI c) s = ((c.take i).foldl (aI c) s).setL k (some (lnFrg (((c.take i).foldl (aI c) s).a7 k) ((s.N - 1 - k % s.N : Nat) : Int)))) := Lib.hid (by rw [HFA.out.no (by rw [HFN.out]; exact hfl), HFN.out]; rfl)
        have HNOK := Lib.hid HFA.out.nok
        have HLN := Lib.hid HFA.out.ln
        have HKT1 : Hid (k < ((c.take i).foldl (aI c) s).T) := Lib.hid (by rw [HFA.out.T]; exact HKT.out)
        clear hfl
        generalize (c.take i).foldl (aI c) s = s1 at *
        generalize hs2q : (c.take (i + 1)).foldl (aI c) s = s2 at *
        have HS2Q := Lib.hid hs2q
        clear hs2q
        obtain ⟨lp, mp, FL, m, r, hs3, hok3⟩ := HS3.out
        have hl3 := hs3.u.ln k
        rw [HLN.out] at hl3
        obtain ⟨a, ha, hla, hlo⟩ := hl3.some_
        have HA3 := Lib.hid ha
        have HU3 := Lib.hid hs3
        have HLA : Hid (LnA w3 a (lf (s1.a7 k)) ∧ LnOk (s1.a7 k)) := Lib.hid ⟨hla, hlo⟩
        have HLK : ∀ {w' : World}, a8 w' mp s1.o.length (mLn m) → (Instr.lookup 37 (.map (some mp)) (.int .i64 (k : Int)) false).run Try.prog w' = .ok (.pointer (some ⟨a, 0, none⟩)) w' := fun hm => by
          have := hm.lookL HWF.out
          rwa [show mLn m (k : Int) = some a from by unfold mLn; rw [if_pos (by omega), Int.toNat_natCast, HA3.out]] at this
        have HSD : Hid (w3.drew.cell? ⟨t, 4, none⟩ = some (.map (some mp)) ∧ (Instr.lookup 37 (.map (some mp)) (.int .i64 (k : Int)) false).run Try.prog w3.drew = .ok (.pointer (some ⟨a, 0, none⟩)) w3.drew) := Lib.hid ⟨hs3.u.c4, HLK (hs3.below ((Below.refl _ _).drew)).u.map⟩
        clear hok3 hl3 ha hla hlo
        go_upto_region 11 with fail
        refine wp_region_lit ?_
        refine af rfl (ah rfl (ev rfl)) ?_
        simp only [Act.put, aa, ac, ae]
        refine af rfl (exec_ixHas HK64.out rfl (ev rfl) (ev rfl)) ?_
        simp only [Act.put, aa, ac, ae]
        refine af (v := .bool false) rfl (aq rfl (ev rfl) (ldBoL (by rw [HH3.out.at_ HK64.out, HFL.out]))) ?_
        simp only [Act.put, aa, ac, ae]
        refine af (v := .bool true) rfl (aG false rfl (ev rfl)) ?_
        simp only [Act.put, aa, ac, ae]
        refine wpList_nil ?_
        go_upto_region 12 with fail
        refine wp_region_held (S := fun w' => w'.cell? ⟨t, 4, none⟩ = some (.map (some mp)) ∧ (Instr.lookup 37 (.map (some mp)) (.int .i64 (k : Int)) false).run Try.prog w' = .ok (.pointer (some ⟨a, 0, none⟩)) w') (by kernel_rfl) ?_
        change wpAnyH _ _ _ _ _ 10 _ _ w3.drew
        refine au 0 rfl (by kernel_rfl) (by kernel_rfl) (by kernel_rfl) rfl (fun w' hw => ah rfl (ev rfl)) (fun _ _ _ h => h) HSD.out ?_
        simp only [Act.put, aa, ac, ae]
        refine au 1 rfl (by kernel_rfl) (by kernel_rfl) (by kernel_rfl) rfl (fun w' hw => ao rfl (ev rfl)) (fun _ _ _ h => h) HSD.out ?_
        simp only [Act.put, aa, ac, ae]
        refine au 2 rfl (by kernel_rfl) (by kernel_rfl) (by kernel_rfl) rfl (fun w' hw => ai rfl (ev rfl) faSq2) (fun _ _ _ h => h) HSD.out ?_
        simp only [Act.put, aa, ac, ae]
        refine au 3 rfl (by kernel_rfl) (by kernel_rfl) (by kernel_rfl) rfl (fun w' hw => aq rfl (ev rfl) (ldMl hw.1)) (fun _ _ _ h => h) HSD.out ?_
        simp only [Act.put, aa, ac, ae]
        refine au 4 rfl (by kernel_rfl) (by kernel_rfl) (by kernel_rfl) rfl (fun w' hw => ah rfl (ev rfl)) (fun _ _ _ h => h) HSD.out ?_
        simp only [Act.put, aa, ac, ae]
        refine au 5 rfl (by kernel_rfl) (by kernel_rfl) (by kernel_rfl) rfl (fun w' hw => aZ rfl (ev rfl) (ev rfl) hw.2) (fun _ _ _ h => h) HSD.out ?_
        simp only [Act.put, aa, ac, ae]
        refine au 6 rfl (by kernel_rfl) (by kernel_rfl) (by kernel_rfl) rfl (fun w' hw => ah rfl (ev rfl)) (fun _ _ _ h => h) HSD.out ?_
        simp only [Act.put, aa, ac, ae]
        refine au 7 rfl (by kernel_rfl) (by kernel_rfl) (by kernel_rfl) rfl (fun w' hw => ah rfl (ev rfl)) (fun _ _ _ h => h) HSD.out ?_
        simp only [Act.put, aa, ac, ae]
        refine held_call 8 rfl (by kernel_rfl) rfl (ar Try.call31 rfl (evc (ev rfl) (evc (ev rfl) evn))) ?_
        refine (ps_parity HKT1.out (hs3.below ((Below.refl _ _).drew)).u).mono ?_
        rintro e wA ⟨rfl, bA⟩
        have bA' := ((Below.refl w3.heap.size w3).drew).trans bA
        have hsA := hs3.below bA'
        have HSA : Hid (wA.cell? ⟨t, 4, none⟩ = some (.map (some mp)) ∧ (Instr.lookup 37 (.map (some mp)) (.int .i64 (k : Int)) false).run Try.prog wA = .ok (.pointer (some ⟨a, 0, none⟩)) wA) := Lib.hid ⟨hsA.u.c4, HLK hsA.u.map⟩
        have HUA := Lib.hid hsA
        have HPA : Hid (PLnF wA (fun j => j = a) a (s1.a7 k)) := Lib.hid ⟨HLA.out.1.below bA', rfl, HLA.out.2⟩
        clear bA bA' hsA
        refine ⟨_, rfl, HSA.out, ?_⟩
        simp only [Act.put, aa, ac, ae]
        refine held_call 9 rfl (by kernel_rfl) rfl (ar Try.call32 rfl (evc (ev rfl) (evc (ev rfl) evn))) ?_
        rw [show s1.N = s.N from HFN.out]
        refine (pl_forgetF wA ((s.N - 1 - k % s.N : Nat) : Int) HPA.out).mono ?_
        rintro e wC ⟨rfl, lC, tC⟩
        have HUC := Lib.hid (HUA.out.line HA3.out tC lC)
        have HSC : Hid (wC.cell? ⟨t, 4, none⟩ = some (.map (some mp)) ∧ (Instr.lookup 37 (.map (some mp)) (.int .i64 (k : Int)) false).run Try.prog wC = .ok (.pointer (some ⟨a, 0, none⟩)) wC) := Lib.hid ⟨HUC.out.u.c4, HLK HUC.out.u.map⟩
        clear lC tC
        refine ⟨_, rfl, HSC.out, ?_⟩
        simp only [Act.put, aa, ac, ae]
        refine wpAnyH_done (by kernel_rfl) ?_ _
        have HSF : Hid (PSx wB S wC t s2) := Lib.hid (by
          have hde : s2.dty = s1.dty := funext HFD1.out
          refine ⟨lp, mp, FL, m, r, ?_, HNOK.out⟩
          have hu := HUC.out
          rw [hde]
          rw [HNX.out]
          exact hu)
        go_upto_region 13 with fail
        refine wp_region_lit ?_
        refine af rfl (bf rfl (ev rfl) evk HADD.out) ?_
        simp only [Act.put, aa, ac, ae]
        refine af rfl (ah rfl (ev rfl)) ?_
        simp only [Act.put, aa, ac, ae]
        refine wpList_nil ?_
        go_wp2_with fail
        go_roundw
        case rel => exact ⟨i + 1, by go_num, HI.out, by rw [HS2Q.out]; exact HSF.out⟩
        case measure => have := HI.out; simp [intOf]; omega
      have hin : i = nc := by omega
      have HT : Hid (decide ((i : Int) < (nc : Int)) = false) := Lib.hid (decide_eq_false (by omega))
      have HSF : Hid (PSx wB S wr t (c.foldl (aI c) s)) := Lib.hid (by have := HSr.out; rwa [List.take_of_length_le (by rw [HCN.out]; omega)] at this)
      clear hlt hi hin
      go_upto_region 8 with fail
      refine wp_region_lit ?_
      refine af (v := .bool false) rfl (aC false rfl (ev rfl) (ev rfl) HT.out) ?_
      simp only [Act.put, aa, ac, ae]
      refine wpList_nil ?_
      go_wp2_with fail
      go_end0
      exact ⟨rfl, HSF.out.since HWB.out⟩
set_option maxHeartbeats 4000000 in
theorem ps_put {w : World} {S : Nat → Prop} {t K Q nc cc : Nat} {A : Option Addr} {c : List PutC} {s : ShS} (h : PSh w S t K s) (hQ : Q < 18446744073709551616) (hn0 : nc ≤ 1000000) (hc : RdE aV w w.heap.size A nc (c.map aP)) (hcn : c.length = nc) (hA : ∀ x, A = some x → 0 < nc → ¬ S x.block) : Calls Try.prog 11 #[.pointer (some ⟨t, 0, none⟩), .int .u64 (Q : Int), .slice A nc cc] w fun e w' => e = .returned (.int .i64 (putQ s Q c)) ∧ PSx w S w' t (putS s Q c) := by
  have hok := h.x.ok
  have HQB := Lib.hid hQ
  have HN0 := Lib.hid hn0
  have HC := Lib.hid hc
  have HCN := Lib.hid hcn
  have HA := Lib.hid hA
  have HOK := Lib.hid hok
  have HS := Lib.hid h
  obtain ⟨lp, mp, FL, m, r, hs, _, _⟩ := h
  have HU := Lib.hid hs
  obtain ⟨pq, hpq⟩ : ∃ pq, putQ s Q c = pq := ⟨_, rfl⟩
  have HPQ := Lib.hid hpq
  rw [hpq]
  clear hs hok hn0 hc hcn hA hQ hpq
  go_enter Try.func11, Try.ntmps11
  go_upto_region 1 with fail
  refine wp_region_lit ?_
  refine af rfl (ah rfl (ev rfl)) ?_
  simp only [Act.put, aa, ac, ae]
  refine af rfl (ah rfl (ev rfl)) ?_
  simp only [Act.put, aa, ac, ae]
  refine af rfl (ah rfl (ev rfl)) ?_
  simp only [Act.put, aa, ac, ae]
  refine aj rfl (ar Try.call16 rfl (evc (ev rfl) (evc (ev rfl) (evc (ev rfl) evn)))) ?_
  refine (ps_mayPut HU.out HOK.out HN0.out HC.out HCN.out).mono ?_
  rintro e wB ⟨rfl, b1⟩
  rw [HPQ.out]
  have HB := Lib.hid b1
  clear b1
  refine ⟨_, rfl, ?_⟩
  simp only [Act.put, aa, ac, ae]
  refine af rfl (al rfl (ev rfl)) ?_
  simp only [Act.put, aa, ac, ae]
  refine wpList_nil ?_
  by_cases hz : pq = 0
  rotate_left
  · have HNE : Hid ((pq != 0) = true) := Lib.hid (bne_iff_ne.2 hz)
    have HZ2 : Hid (putS s Q c = s) := Lib.hid (by unfold putS; rw [HPQ.out, if_neg hz])
    clear hz
    go_upto_region 2 with fail
    refine wp_region_lit ?_
    refine af rfl (ah rfl (ev rfl)) ?_
    simp only [Act.put, aa, ac, ae]
    refine af (v := .bool true) rfl (aE true rfl (ev rfl) evk HNE.out) ?_
    simp only [Act.put, aa, ac, ae]
    refine wpList_nil ?_
    go_upto_region 3 with fail
    refine wp_region_lit ?_
    refine af rfl (ah rfl (ev rfl)) ?_
    simp only [Act.put, aa, ac, ae]
    refine af rfl (al rfl (ev rfl)) ?_
    simp only [Act.put, aa, ac, ae]
    refine wpList_nil ?_
    go_wp2_with fail
    go_ret
    exact ⟨rfl, by rw [HZ2.out]; exact HS.out.x.below HB.out⟩
  subst hz
  have HPS : Hid (putS s Q c = c.foldl (aI c) (c.foldl (ba Q) s)) := Lib.hid (by unfold putS; rw [if_pos HPQ.out])
  go_upto_region 2 with fail
  refine wp_region_lit ?_
  refine af rfl (ah rfl (ev rfl)) ?_
  simp only [Act.put, aa, ac, ae]
  refine af (v := .bool false) rfl (aE false rfl (ev rfl) evk rfl) ?_
  simp only [Act.put, aa, ac, ae]
  refine wpList_nil ?_
  go_upto_region 4 with fail
  refine wp_region_lit ?_
  refine af rfl (ah rfl (ev rfl)) ?_
  simp only [Act.put, aa, ac, ae]
  refine af rfl (br aV rfl (ev rfl)) ?_
  simp only [Act.put, aa, ac, ae]
  refine af rfl (ah rfl evk) ?_
  simp only [Act.put, aa, ac, ae]
  refine wpList_nil ?_
  have HSB := Lib.hid (HS.out.below HB.out)
  have HCB := Lib.hid (HC.out.step HB.out)
  clear HU
  go_wp2_with fail
  go_loopw [9, 10, 20] (fun _ _ y wr => ∃ i : Nat, y = .int .i64 i ∧ i ≤ nc ∧ PSx wB S wr t ((c.take i).foldl (ba Q) s)) (fun _ _ y _ => nc - (intOf y).toNat)
  case atStart => exact ⟨0, by go_num, Nat.zero_le _, HSB.out.x⟩
  case round =>
    obtain ⟨i, rfl, hi, hs⟩ := hrel
    have HSr := Lib.hid hs
    have HCr := Lib.hid (HCB.out.only hs.only (Nat.le_refl _) HA.out)
    clear hs
    by_cases hlt : i < nc
    · have HI := Lib.hid hlt
      have HIC : Hid (i < c.length) := Lib.hid (by rw [HCN.out]; exact hlt)
      have HT : Hid (decide ((i : Int) < (nc : Int)) = true) := Lib.hid (decide_eq_true (by omega))
      have HADD : Hid (IntKind.i64.wrap ((i : Int) + 1) = ((i + 1 : Nat) : Int)) := Lib.hid (by have := HN0.out; rw [i64q_ ⟨by omega, by omega⟩]; omega)
      obtain ⟨k, j, hpa⟩ := put_step HOK.out HPQ.out HQB.out HIC.out
      obtain ⟨b, off, rfl, hbb, hcell⟩ := (HCB.out.only HSr.out.only (Nat.le_refl _) HA.out).cl hlt
      obtain ⟨x, hx⟩ : ∃ x, c.getD i aU = x := ⟨_, rfl⟩
      rw [toCl_at HIC.out, hx] at hcell
      have HCL : Hid (wr.rangeAt b (off + i * aV.n) (celC (aP x))) := Lib.hid hcell
      have hpn := hpa.n
      have hpm := hpa.m
      rw [hx] at hpn hpm
      have HXN := Lib.hid hpn
      have HXM := Lib.hid hpm
      have HKT : Hid (k < ((c.take i).foldl (ba Q) s).T) := Lib.hid (by rw [hpa.T]; exact hpa.kT)
      have hNf := (put_fold HOK.out HPQ.out HQB.out i (Nat.le_of_lt HIC.out)).N
      have HJN : Hid (j < ((c.take i).foldl (ba Q) s).N) := Lib.hid (by rw [hNf]; exact hpa.mN)
      have HTB := Lib.hid hpa.tb
      have HQ0 := Lib.hid hpa.n0
      have hnx := hpa.nxt
      rw [hx] at hnx
      have HNX := Lib.hid hnx
      have HB3 : Hid (Below wr.heap.size wr (wr.alloc (.cells (celC (aP x)).toArray 52))) := Lib.hid ((Below.refl _ _).alloc (Nat.le_refl _) _)
      have HBX := Lib.hid (heap_alloc_new wr (.cells (celC (aP x)).toArray 52))
      clear hi hlt hcell hx hbb hpn hpm hpa hNf hnx
      go_upto_region 5 with fail
      refine wp_region_lit ?_
      refine af (v := .bool true) rfl (aC true rfl (ev rfl) (ev rfl) HT.out) ?_
      simp only [Act.put, aa, ac, ae]
      refine wpList_nil ?_
      go_upto_region 6 with fail
      refine wp_region_lit ?_
      refine af rfl (bg (E := aV) rfl (ev rfl) (ev rfl) HI.out) ?_
      simp only [Act.put, aa, ac, ae]
      refine af rfl (bT rfl (ev rfl) HCL.out) ?_
      simp only [Act.put, aa, ac, ae]
      refine af rfl (bW rfl) ?_
      simp only [Act.put, aa, ac, ae]
      refine aA rfl (exec_fillC rfl (ev rfl) (ev rfl)) ?_
      simp only [Act.put, aa, ac, ae]
      refine wpList_nil ?_
      obtain ⟨bx, hbx⟩ : ∃ bx, wr.heap.size = bx := ⟨_, rfl⟩
      rw [hbx] at HBX ⊢
      generalize wr.alloc (.cells (celC (aP x)).toArray 52) = w3 at *
      have HS3 := Lib.hid (HSr.out.below HB3.out)
      clear hbx
      obtain ⟨S3, hs3, o3, g3⟩ := HS3.out.res K
      have HSH := Lib.hid hs3
      have HO3 := Lib.hid o3
      have HG3 := Lib.hid g3
      clear hs3 o3 g3
      go_upto_region 7 with fail
      refine wp_region_lit ?_
      refine af rfl (ah rfl (ev rfl)) ?_
      simp only [Act.put, aa, ac, ae]
      refine af rfl (bT rfl (ev rfl) (aL HBX.out)) ?_
      simp only [Act.put, aa, ac, ae]
      refine af rfl (ah rfl (ev rfl)) ?_
      simp only [Act.put, aa, ac, ae]
      refine aj rfl (ar Try.call17 rfl (evc (ev rfl) (evc (ev rfl) (evc (ev rfl) evn)))) ?_
      refine (ps_set HSH.out HXN.out HXM.out HKT.out HJN.out HQ0.out HQB.out HTB.out).mono ?_
      rintro e w4 ⟨rfl, h4⟩
      rw [← HNX.out] at h4
      have HS4 := Lib.hid (h4.after HO3.out HG3.out)
      clear h4
      refine ⟨_, rfl, ?_⟩
      simp only [Act.put, aa, ac, ae]
      refine af rfl (al rfl (ev rfl)) ?_
      simp only [Act.put, aa, ac, ae]
      refine wpList_nil ?_
      go_upto_region 8 with fail
      refine wp_region_lit ?_
      refine af rfl (ah rfl (ev rfl)) ?_
      simp only [Act.put, aa, ac, ae]
      refine af (v := .bool false) rfl (aE false rfl (ev rfl) evk rfl) ?_
      simp only [Act.put, aa, ac, ae]
      refine wpList_nil ?_
      go_upto_region 10 with fail
      refine wp_region_lit ?_
      refine af rfl (bf rfl (ev rfl) evk HADD.out) ?_
      simp only [Act.put, aa, ac, ae]
      refine af rfl (ah rfl (ev rfl)) ?_
      simp only [Act.put, aa, ac, ae]
      refine wpList_nil ?_
      go_wp2_with fail
      go_roundw
      case rel => exact ⟨i + 1, by go_num, HI.out, HS4.out⟩
      case measure => have := HI.out; simp [intOf]; omega
    have hin : i = nc := by omega
    have HT : Hid (decide ((i : Int) < (nc : Int)) = false) := Lib.hid (decide_eq_false (by omega))
    have htk : c.take i = c := List.take_of_length_le (by rw [HCN.out]; omega)
    rw [htk] at HSr
    have hpf := put_fold HOK.out HPQ.out HQB.out c.length (Nat.le_refl _)
    have hpd := put_dt HOK.out HPQ.out HQB.out c.length (Nat.le_refl _)
    rw [List.take_length] at hpf hpd
    obtain ⟨hq1, _, _⟩ := putQ_ok HPQ.out
    have HP2 : Hid (∀ x ∈ c, (c.foldl (ba Q) s).plc x.n x.m = true) := Lib.hid fun x hx => by rw [hpf.plc]; exact hq1 x hx
    have HD2 := Lib.hid hpd
    obtain ⟨S2, hs2, o2, g2⟩ := HSr.out.res K
    have HSH := Lib.hid hs2
    have HO2 := Lib.hid o2
    have HG2 := Lib.hid g2
    have HA2 : Hid (∀ x, A = some x → 0 < nc → ¬ S2 x.block) := Lib.hid fun x e hn hs => by
      rcases g2 _ hs with e2 | e2
      · exact HA.out x e hn e2
      · obtain ⟨b, off, e3, hb, _⟩ := HC.out.2 0 hn
        rw [e] at e3
        injection e3 with e3
        subst e3
        have := HB.out.size
        have hb' : b < w.heap.size := hb
        have e4 : wB.heap.size ≤ b := e2
        omega
    clear hlt hi hin htk hpf hpd hq1 hs2 o2 g2
    go_upto_region 5 with fail
    refine wp_region_lit ?_
    refine af (v := .bool false) rfl (aC false rfl (ev rfl) (ev rfl) HT.out) ?_
    simp only [Act.put, aa, ac, ae]
    refine wpList_nil ?_
    go_upto_region 11 with fail
    refine wp_region_lit ?_
    refine af rfl (ah rfl (ev rfl)) ?_
    simp only [Act.put, aa, ac, ae]
    refine af rfl (ah rfl (ev rfl)) ?_
    simp only [Act.put, aa, ac, ae]
    refine aj rfl (ar Try.call18 rfl (evc (ev rfl) (evc (ev rfl) evn))) ?_
    refine (ps_forget HSH.out HN0.out (HCr.out.more HSr.out.only.size) HCN.out HA2.out HP2.out HD2.out).mono ?_
    rintro e w5 ⟨rfl, h5⟩
    have HS5 := Lib.hid ((h5.after HO2.out HG2.out).since HB.out)
    clear h5
    refine ⟨_, rfl, ?_⟩
    simp only [Act.put, aa, ac, ae]
    refine wpList_nil ?_
    go_wp2_with fail
    go_ret
    exact ⟨rfl, by rw [HPS.out]; exact HS5.out⟩
theorem str_ofP {s : ShS} {n : Int} (h : s.str n = true) : ∃ k : Nat, n = (k : Int) ∧ k < s.T := by
  have := of_decide_eq_true h
  exact ⟨n.toNat, by omega, by omega⟩
theorem mayE_str {s : ShS} (n : Int) : mayE s.T n = shE s n := rfl
section
variable {s : ShS} {k : Nat} {x : LnS}
theorem cln_dtyP (h : ShOk s) : (s.setL k (some (lnCln x))).dty = aR s.dty k false := funext fun i => by
  by_cases e : i = k
  · subst e
    rw [aQ, dty_some (x := lnCln x) (by rw [aS, if_pos rfl])]
    unfold lnDty
    rw [lnD_cln]
    rfl
  · rw [aD _ _ e]
    exact dty_eq (by rw [aS, if_neg e])
end
set_option maxHeartbeats 4000000 in
theorem ps_clean {w : World} {S : Nat → Prop} {t K : Nat} {s : ShS} (n : Int) (h : PSh w S t K s) : Calls Try.prog 15 #[.pointer (some ⟨t, 0, none⟩), .int .i64 n] w fun e w' => e = .returned (.int .i64 (shE s n)) ∧ PSx w S w' t (shCln s n) := by
  have hok := h.x.ok
  have HOK := Lib.hid hok
  have HS := Lib.hid h
  obtain ⟨lp, mp, FL, m, r, hs, _, hSe⟩ := h
  have HU := Lib.hid hs
  obtain ⟨en, hen⟩ : ∃ en, shE s n = en := ⟨_, rfl⟩
  have HEN := Lib.hid hen
  have HMY : Hid (mayE s.T n = en) := Lib.hid ((mayE_str n).trans hen)
  rw [hen]
  clear hs hen
  go_enter Try.func15, Try.ntmps15
  go_upto_region 1 with fail
  refine wp_region_lit ?_
  refine af rfl (ah rfl (ev rfl)) ?_
  simp only [Act.put, aa, ac, ae]
  refine af rfl (ah rfl (ev rfl)) ?_
  simp only [Act.put, aa, ac, ae]
  refine aj rfl (ar Try.call23 rfl (evc (ev rfl) (evc (ev rfl) evn))) ?_
  refine (ps_may n HU.out).mono ?_
  rintro e w1 ⟨rfl, b1⟩
  rw [HMY.out]
  have HB := Lib.hid b1
  clear b1
  refine ⟨_, rfl, ?_⟩
  simp only [Act.put, aa, ac, ae]
  refine af rfl (al rfl (ev rfl)) ?_
  simp only [Act.put, aa, ac, ae]
  refine wpList_nil ?_
  cases hc : s.str n
  · have HNE : Hid ((en != 0) = true) := Lib.hid (by rw [← HEN.out]; unfold shE; rw [hc]; rfl)
    have HZ : Hid (shCln s n = s) := Lib.hid (by unfold shCln; rw [hc]; simp)
    clear hc hok hSe
    go_upto_region 2 with fail
    refine wp_region_lit ?_
    refine af rfl (ah rfl (ev rfl)) ?_
    simp only [Act.put, aa, ac, ae]
    refine af (v := .bool true) rfl (aE true rfl (ev rfl) evk HNE.out) ?_
    simp only [Act.put, aa, ac, ae]
    refine wpList_nil ?_
    go_upto_region 3 with fail
    refine wp_region_lit ?_
    refine af rfl (ah rfl (ev rfl)) ?_
    simp only [Act.put, aa, ac, ae]
    refine af rfl (al rfl (ev rfl)) ?_
    simp only [Act.put, aa, ac, ae]
    refine wpList_nil ?_
    go_wp2_with fail
    go_ret
    exact ⟨rfl, by rw [HZ.out]; exact HS.out.x.below HB.out⟩
  have hen0 : en = 0 := by rw [← HEN.out]; unfold shE; rw [hc]; rfl
  subst hen0
  obtain ⟨k, rfl, hk⟩ := str_ofP hc
  have HW := Lib.hid (wf_nat (n := k) (by have := hok.t64; omega))
  have HU1 := Lib.hid (HU.out.below HB.out)
  have HS1 : Hid (PSt w S w1 t lp mp FL (kyL s.dty s.o) s.o.length m s.ln s.N s.T s.room r) := Lib.hid (by subst hSe; exact (PSt.start HU.out).below HB.out)
  go_upto_region 2 with fail
  refine wp_region_lit ?_
  refine af rfl (ah rfl (ev rfl)) ?_
  simp only [Act.put, aa, ac, ae]
  refine af (v := .bool false) rfl (aE false rfl (ev rfl) evk rfl) ?_
  simp only [Act.put, aa, ac, ae]
  refine wpList_nil ?_
  have hl := HU1.out.ln k
  cases hx : s.ln k with
  | none =>
    rw [hx] at hl
    have hlk := HU1.out.map.lookL HW.out
    rw [show mLn m (k : Int) = none from by unfold mLn; rw [if_pos (by omega), Int.toNat_natCast, hl.none_]] at hlk
    have HK := Lib.hid hlk
    have HZ : Hid (shCln s (k : Int) = s) := Lib.hid (by unfold shCln; rw [Int.toNat_natCast, hx, if_neg (fun e => by cases e.2)])
    clear hc hk hl hx hlk hok hSe
    go_upto_region 4 with fail
    refine wp_region_lit ?_
    refine af rfl (ah rfl (ev rfl)) ?_
    simp only [Act.put, aa, ac, ae]
    refine af rfl (ao rfl (ev rfl)) ?_
    simp only [Act.put, aa, ac, ae]
    refine af rfl (ai rfl (ev rfl) faSq2) ?_
    simp only [Act.put, aa, ac, ae]
    refine af rfl (aq rfl (ev rfl) (ldMl (PRu.c4 HU1.out))) ?_
    simp only [Act.put, aa, ac, ae]
    refine af rfl (ah rfl (ev rfl)) ?_
    simp only [Act.put, aa, ac, ae]
    refine af rfl (aZ rfl (ev rfl) (ev rfl) HK.out) ?_
    simp only [Act.put, aa, ac, ae]
    refine af rfl (al rfl (ev rfl)) ?_
    simp only [Act.put, aa, ac, ae]
    refine wpList_nil ?_
    go_upto_region 5 with fail
    refine wp_region_lit ?_
    refine af rfl (ah rfl (ev rfl)) ?_
    simp only [Act.put, aa, ac, ae]
    refine af (v := .bool false) rfl (bb false Try.underlying68 rfl (ev rfl) evk rfl) ?_
    simp only [Act.put, aa, ac, ae]
    refine wpList_nil ?_
    go_wp2_with fail
    go_ret
    exact ⟨rfl, by rw [HZ.out]; exact HS.out.x.below HB.out⟩
  | some x =>
    rw [hx] at hl
    obtain ⟨a, ha, hla, hlo⟩ := hl.some_
    have hlk := HU1.out.map.lookL HW.out
    rw [show mLn m (k : Int) = some a from by unfold mLn; rw [if_pos (by omega), Int.toNat_natCast, ha]] at hlk
    have HK := Lib.hid hlk
    have HA := Lib.hid ha
    have HLA : Hid (PLnF w1 (fun j => j = a) a x) := Lib.hid ⟨hla, rfl, hlo⟩
    have HZ : Hid (shCln s (k : Int) = s.setL k (some (lnCln x))) := Lib.hid (by unfold shCln; rw [Int.toNat_natCast, if_pos ⟨hc, by rw [hx]; rfl⟩, bG hx])
    have HOK2 : Hid (ShOk (shCln s (k : Int))) := Lib.hid (HOK.out.cln _)
    have HDT := Lib.hid (cln_dtyP (k := k) (x := x) hok)
    have HND := Lib.hid hok.nd
    clear hc hk hl hx hlk ha hla hlo hok hSe
    go_upto_region 4 with fail
    refine wp_region_lit ?_
    refine af rfl (ah rfl (ev rfl)) ?_
    simp only [Act.put, aa, ac, ae]
    refine af rfl (ao rfl (ev rfl)) ?_
    simp only [Act.put, aa, ac, ae]
    refine af rfl (ai rfl (ev rfl) faSq2) ?_
    simp only [Act.put, aa, ac, ae]
    refine af rfl (aq rfl (ev rfl) (ldMl (PRu.c4 HU1.out))) ?_
    simp only [Act.put, aa, ac, ae]
    refine af rfl (ah rfl (ev rfl)) ?_
    simp only [Act.put, aa, ac, ae]
    refine af rfl (aZ rfl (ev rfl) (ev rfl) HK.out) ?_
    simp only [Act.put, aa, ac, ae]
    refine af rfl (al rfl (ev rfl)) ?_
    simp only [Act.put, aa, ac, ae]
    refine wpList_nil ?_
    go_upto_region 5 with fail
    refine wp_region_lit ?_
    refine af rfl (ah rfl (ev rfl)) ?_
    simp only [Act.put, aa, ac, ae]
    refine af (v := .bool true) rfl (bb true Try.underlying68 rfl (ev rfl) evk rfl) ?_
    simp only [Act.put, aa, ac, ae]
    refine wpList_nil ?_
    go_upto_region 6 with fail
    refine wp_region_lit ?_
    refine af rfl (ah rfl (ev rfl)) ?_
    simp only [Act.put, aa, ac, ae]
    refine aj rfl (ar Try.call24 rfl (evc (ev rfl) evn)) ?_
    refine (pl_cleanF w1 HLA.out).mono ?_
    rintro e w2 ⟨rfl, l2, t2⟩
    have HS2 := Lib.hid (HS1.out.line HA.out t2 l2)
    have HL2 : Hid (PLF w2 (fun b => FL b ∨ w2.heap.size ≤ b) lp s.room (kyL s.dty s.o)) := Lib.hid (HS2.out.u.li.mono fun b h1 _ => .inl h1)
    clear l2 t2
    refine ⟨_, rfl, ?_⟩
    simp only [Act.put, aa, ac, ae]
    refine wpList_nil ?_
    go_upto_region 7 with fail
    refine wp_region_lit ?_
    refine af rfl (ah rfl (ev rfl)) ?_
    simp only [Act.put, aa, ac, ae]
    refine af rfl (ao rfl (ev rfl)) ?_
    simp only [Act.put, aa, ac, ae]
    refine af rfl (ai rfl (ev rfl) faSq1) ?_
    simp only [Act.put, aa, ac, ae]
    refine af rfl (aq rfl (ev rfl) (ldLl (PRu.c3 HS2.out.u))) ?_
    simp only [Act.put, aa, ac, ae]
    refine af rfl (ah rfl (ev rfl)) ?_
    simp only [Act.put, aa, ac, ae]
    refine aj rfl (ar Try.call25 rfl (evc (ev rfl) (evc (ev rfl) (evc evk evn)))) ?_
    refine (pl_pinF w2 HL2.out HW.out false).mono ?_
    rintro e w3 ⟨rfl, l3, t3⟩
    rw [pin_kyL HND.out, ← HDT.out] at l3
    obtain ⟨FL3, hs3⟩ := HS2.out.list rfl l3 t3
    have HS3 : Hid (PSx w S w3 t (shCln s (k : Int))) := Lib.hid ⟨lp, mp, FL3, m, r, by rw [HZ.out]; exact hs3, HOK2.out⟩
    clear l3 t3 hs3
    refine ⟨_, rfl, ?_⟩
    simp only [Act.put, aa, ac, ae]
    refine wpList_nil ?_
    go_wp2_with fail
    go_ret
    exact ⟨rfl, HS3.out⟩
theorem run_bldSh (N T : Nat) (r : Int) (lp mp : Nat) (w : World) : (Instr.build 39 #[(0, .agg #[.int .i64 (N : Int), .int .i64 (T : Int), .int .i64 r]), (1, .pointer (some ⟨lp, 0, none⟩)), (2, .map (some mp))]).run Try.prog w = .ok (.agg (shC N T r lp mp).toArray) w := by kernel_rfl
theorem exec_bldSh {ρ : Operand → Value} {o : Oper} {x y z : Operand} {N T lp mp : Nat} {r : Int} {w : World} (ho : o.op = .build 39 #[(0, x), (1, y), (2, z)]) (hx : ρ x = .agg #[.int .i64 (N : Int), .int .i64 (T : Int), .int .i64 r]) (hy : ρ y = .pointer (some ⟨lp, 0, none⟩)) (hz : ρ z = .map (some mp)) : (execOp ρ o).run Try.prog w = .ok (.value (.agg (shC N T r lp mp).toArray)) w := by
  unfold execOp
  simp [ho, hx, hy, hz, run_bldSh, Result.andThen]
theorem a8.congr {w : World} {b N : Nat} {M M' : Int → Option Nat} (h : a8 w b N M) (e : ∀ j, M' j = M j) : a8 w b N M' := by
  have : M' = M := funext e
  rw [this]
  exact h
set_option maxHeartbeats 2000000 in
theorem ps_new {N T room : Nat} {r : Int} (w : World) (hg : geoB (gx N T r) = true) (h1 : 1 ≤ room) (h2 : room ≤ 64) : Calls Try.prog 4 #[geo (gx N T r), .int .i64 (room : Int)] w fun e w' => ∃ p S, e = .returned (.tuple #[.pointer (some ⟨p, 0, none⟩), .int .i64 0]) ∧ PSh w' S p 0 (shNew N T room) ∧ Below w.heap.size w w' ∧ ∀ b, S b → w.heap.size ≤ b := by
  have HG := Lib.hid hg
  have HR1 := Lib.hid h1
  have HR2 := Lib.hid h2
  clear hg h1 h2
  go_enter Try.func4, Try.ntmps4
  go_upto_region 0 with fail
  refine wp_region_lit ?_
  refine af rfl (bq (cs := ([.int .i64 (N : Int), .int .i64 (T : Int), .int .i64 r] : List Value)) rfl (ev rfl)) ?_
  simp only [Act.put, aa, ac, ae]
  have hbx := (Below.refl w.heap.size w).alloc (Nat.le_refl _) (.cells ([.int .i64 (N : Int), .int .i64 (T : Int), .int .i64 r] : List Value).toArray 23)
  have P1 := Lib.hid (heap_alloc_new w (.cells ([.int .i64 (N : Int), .int .i64 (T : Int), .int .i64 r] : List Value).toArray 23))
  have HB1 := Lib.hid hbx
  clear hbx
  generalize w.alloc (.cells ([.int .i64 (N : Int), .int .i64 (T : Int), .int .i64 r] : List Value).toArray 23) = w1 at *
  refine af rfl (al rfl evk) ?_
  simp only [Act.put, aa, ac, ae]
  refine af rfl (al rfl evk) ?_
  simp only [Act.put, aa, ac, ae]
  refine wpList_nil ?_
  go_upto_region 1 with fail
  refine wp_region_lit ?_
  refine af rfl (aT (cs := ([.int .i64 (N : Int), .int .i64 (T : Int), .int .i64 r] : List Value)) Try.underlying23 rfl (by kernel_rfl) rfl (ev rfl) (aL P1.out)) ?_
  simp only [Act.put, aa, ac, ae]
  refine aj rfl (ar Try.call7 rfl (evc (ev rfl) evn)) ?_
  refine (pgmay (gx N T r) w1).mono ?_
  rintro e w2 ⟨rfl, b2⟩
  rw [HG.out]
  have HB2 := Lib.hid (HB1.out.trans (b2.mono HB1.out.size))
  have P2 := Lib.hid (aw P1.out b2)
  clear b2
  refine ⟨_, rfl, ?_⟩
  simp only [Act.put, aa, ac, ae]
  refine af (v := .bool false) rfl (aG true rfl (ev rfl)) ?_
  simp only [Act.put, aa, ac, ae]
  refine wpList_nil ?_
  go_upto_region 3 with fail
  refine wp_region_lit ?_
  refine af rfl (ah rfl (ev rfl)) ?_
  simp only [Act.put, aa, ac, ae]
  refine aj rfl (ar Try.call8 rfl (evc (ev rfl) evn)) ?_
  refine (pl_newF room w2 HR1.out HR2.out).mono ?_
  rintro e w3 ⟨lp, rfl, l3, b3⟩
  have HB3 := Lib.hid (HB2.out.trans (b3.mono HB2.out.size))
  have P3 := Lib.hid (aw P2.out b3)
  have HL3 := Lib.hid l3
  have HS23 : Hid (w.heap.size ≤ w2.heap.size) := Lib.hid HB2.out.size
  clear l3 b3
  refine ⟨_, rfl, ?_⟩
  simp only [Act.put, aa, ac, ae]
  refine af rfl (ah rfl (ev rfl)) ?_
  simp only [Act.put, aa, ac, ae]
  refine af rfl (az rfl (ev rfl) rfl) ?_
  simp only [Act.put, aa, ac, ae]
  refine af rfl (az rfl (ev rfl) rfl) ?_
  simp only [Act.put, aa, ac, ae]
  refine af rfl (al rfl (ev rfl)) ?_
  simp only [Act.put, aa, ac, ae]
  refine af rfl (al rfl (ev rfl)) ?_
  simp only [Act.put, aa, ac, ae]
  refine wpList_nil ?_
  go_upto_region 4 with fail
  refine wp_region_lit ?_
  refine af rfl (ah rfl (ev rfl)) ?_
  simp only [Act.put, aa, ac, ae]
  refine af (v := .bool false) rfl (aE false rfl (ev rfl) evk rfl) ?_
  simp only [Act.put, aa, ac, ae]
  refine wpList_nil ?_
  have hb4 := (Below.refl w3.heap.size w3).alloc (Nat.le_refl _) (.map #[] 0)
  have HB4 := Lib.hid (HB3.out.trans (hb4.mono HB3.out.size))
  have HM4 := Lib.hid (a8.made w3)
  have HL4 := Lib.hid (HL3.out.below hb4)
  have HLN : Hid (∀ b, w2.heap.size ≤ b ∧ b < w3.heap.size → b < (w3.alloc (.map #[] 0)).heap.size) := Lib.hid fun b hb => Nat.lt_of_lt_of_le hb.2 hb4.size
  have HLM : Hid (PLF w3 (fun b => w2.heap.size ≤ b ∧ b < w3.heap.size) lp room []) := Lib.hid (HL3.out.mono fun b h1 h2 => ⟨h1, h2⟩)
  have HL5 : Hid (PLF (w3.alloc (.map #[] 0)) (fun b => w2.heap.size ≤ b ∧ b < w3.heap.size) lp room []) := Lib.hid (HLM.out.below hb4)
  clear hb4
  go_upto_region 6 with fail
  refine wp_region_lit ?_
  refine af rfl (aT (cs := ([.int .i64 (N : Int), .int .i64 (T : Int), .int .i64 r] : List Value)) Try.underlying23 rfl (by kernel_rfl) rfl (ev rfl) (aL P3.out)) ?_
  simp only [Act.put, aa, ac, ae]
  refine af rfl (ah rfl (ev rfl)) ?_
  simp only [Act.put, aa, ac, ae]
  refine af rfl (exec_mkmap rfl) ?_
  simp only [Act.put, aa, ac, ae]
  refine af rfl (exec_bldSh rfl (ev rfl) (ev rfl) (ev rfl)) ?_
  simp only [Act.put, aa, ac, ae]
  refine af rfl (bq (cs := shC N T r lp w3.heap.size) rfl (ev rfl)) ?_
  simp only [Act.put, aa, ac, ae]
  refine af rfl (al rfl (ev rfl)) ?_
  simp only [Act.put, aa, ac, ae]
  refine af rfl (al rfl evk) ?_
  simp only [Act.put, aa, ac, ae]
  refine wpList_nil ?_
  go_wp2_with fail
  go_ret2
  generalize w3.alloc (.map #[] 0) = w4 at *
  have hb5 := (Below.refl w4.heap.size w4).alloc (Nat.le_refl _) (.cells (shC N T r lp w3.heap.size).toArray 39)
  have h5 := heap_alloc_new w4 (.cells (shC N T r lp w3.heap.size).toArray 39)
  obtain ⟨k1, k2, k3, k4, _⟩ := gx_of HG.out
  have hs34 : w3.heap.size < w4.heap.size := HM4.out.lt
  refine ⟨w4.heap.size, ftPs w4.heap.size w3.heap.size (fun b => w2.heap.size ≤ b ∧ b < w3.heap.size) (fun _ => none), rfl, ⟨lp, w3.heap.size, fun b => w2.heap.size ≤ b ∧ b < w3.heap.size, fun _ => none, r, ⟨h5, HL5.out.below hb5, (HM4.out.kept fun es c hb => aw hb hb5).congr fun j => ?_, fun n => trivial, fun i j b h => (by cases h), ⟨fun h => (by have := h.2; omega), fun h => (by have := h.2; omega), fun n b h => (by cases h)⟩, fun b hb => Nat.lt_of_lt_of_le (Nat.lt_trans hb.2 hs34) hb5.size, HG.out⟩, ShOk.new k1 k2 k3 k4 HR1.out HR2.out, rfl⟩, HB4.out.trans (hb5.mono HB4.out.size), fun b hb => ?_⟩
  · unfold mLn
    split <;> rfl
  · have e1 := HS23.out
    have e2 := HB4.out.size
    have e3 := HB3.out.size
    rcases hb with e | e | e | ⟨n, e⟩
    · omega
    · omega
    · have := e.1; omega
    · cases e
set_option maxHeartbeats 2000000 in
theorem ps_new_no (x : Ros) (room : Int) (w : World) (h : ¬ (geoB x = true ∧ 1 ≤ room ∧ room ≤ 64)) : Calls Try.prog 4 #[geo x, .int .i64 room] w fun e w' => e = .returned (.tuple #[.pointer none, .int .i64 2]) ∧ Below w.heap.size w w' := by
  have HN := Lib.hid h
  obtain ⟨gn, gt, gr⟩ : ∃ a b c, geo x = .agg ([.int .i64 a, .int .i64 b, .int .i64 c] : List Value).toArray := ⟨_, _, _, rfl⟩
  obtain ⟨gr, hge⟩ := gr
  have HGE := Lib.hid hge
  rw [hge]
  clear h hge
  go_enter Try.func4, Try.ntmps4
  go_upto_region 0 with fail
  refine wp_region_lit ?_
  refine af rfl (bq (cs := ([.int .i64 gn, .int .i64 gt, .int .i64 gr] : List Value)) rfl (ev rfl)) ?_
  simp only [Act.put, aa, ac, ae]
  have hbx := (Below.refl w.heap.size w).alloc (Nat.le_refl _) (.cells ([.int .i64 gn, .int .i64 gt, .int .i64 gr] : List Value).toArray 23)
  have P1 := Lib.hid (heap_alloc_new w (.cells ([.int .i64 gn, .int .i64 gt, .int .i64 gr] : List Value).toArray 23))
  have HB1 := Lib.hid hbx
  clear hbx
  generalize w.alloc (.cells ([.int .i64 gn, .int .i64 gt, .int .i64 gr] : List Value).toArray 23) = w1 at *
  refine af rfl (al rfl evk) ?_
  simp only [Act.put, aa, ac, ae]
  refine af rfl (al rfl evk) ?_
  simp only [Act.put, aa, ac, ae]
  refine wpList_nil ?_
  cases hg : geoB x
  · have HG := Lib.hid hg
    clear hg
    go_upto_region 1 with fail
    refine wp_region_lit ?_
    refine af rfl (aT (cs := ([.int .i64 gn, .int .i64 gt, .int .i64 gr] : List Value)) Try.underlying23 rfl (by kernel_rfl) rfl (ev rfl) (aL P1.out)) ?_
    simp only [Act.put, aa, ac, ae]
    refine aj rfl (ar Try.call7 rfl (evc (ev rfl) evn)) ?_
    rw [show Value.agg ([.int .i64 gn, .int .i64 gt, .int .i64 gr] : List Value).toArray = geo x from HGE.out.symm]
    refine (pgmay x w1).mono ?_
    rintro e w2 ⟨rfl, b2⟩
    rw [HG.out]
    have HB2 := Lib.hid (HB1.out.trans (b2.mono HB1.out.size))
    clear b2
    refine ⟨_, rfl, ?_⟩
    simp only [Act.put, aa, ac, ae]
    refine af (v := .bool true) rfl (aG false rfl (ev rfl)) ?_
    simp only [Act.put, aa, ac, ae]
    refine wpList_nil ?_
    go_wp2_with fail
    go_ret2
    exact ⟨rfl, HB2.out⟩
  have HG := Lib.hid hg
  have HR : Hid (¬ (1 ≤ room ∧ room ≤ 64)) := Lib.hid fun e => HN.out ⟨hg, e⟩
  clear hg
  go_upto_region 1 with fail
  refine wp_region_lit ?_
  refine af rfl (aT (cs := ([.int .i64 gn, .int .i64 gt, .int .i64 gr] : List Value)) Try.underlying23 rfl (by kernel_rfl) rfl (ev rfl) (aL P1.out)) ?_
  simp only [Act.put, aa, ac, ae]
  refine aj rfl (ar Try.call7 rfl (evc (ev rfl) evn)) ?_
  rw [show Value.agg ([.int .i64 gn, .int .i64 gt, .int .i64 gr] : List Value).toArray = geo x from HGE.out.symm]
  refine (pgmay x w1).mono ?_
  rintro e w2 ⟨rfl, b2⟩
  rw [HG.out]
  have HB2 := Lib.hid (HB1.out.trans (b2.mono HB1.out.size))
  clear b2
  refine ⟨_, rfl, ?_⟩
  simp only [Act.put, aa, ac, ae]
  refine af (v := .bool false) rfl (aG true rfl (ev rfl)) ?_
  simp only [Act.put, aa, ac, ae]
  refine wpList_nil ?_
  go_upto_region 3 with fail
  refine wp_region_lit ?_
  refine af rfl (ah rfl (ev rfl)) ?_
  simp only [Act.put, aa, ac, ae]
  refine aj rfl (ar Try.call8 rfl (evc (ev rfl) evn)) ?_
  refine (pl_new_no room w2 HR.out).mono ?_
  rintro e w3 ⟨rfl, rfl⟩
  refine ⟨_, rfl, ?_⟩
  simp only [Act.put, aa, ac, ae]
  refine af rfl (ah rfl (ev rfl)) ?_
  simp only [Act.put, aa, ac, ae]
  refine af rfl (az rfl (ev rfl) rfl) ?_
  simp only [Act.put, aa, ac, ae]
  refine af rfl (az rfl (ev rfl) rfl) ?_
  simp only [Act.put, aa, ac, ae]
  refine af rfl (al rfl (ev rfl)) ?_
  simp only [Act.put, aa, ac, ae]
  refine af rfl (al rfl (ev rfl)) ?_
  simp only [Act.put, aa, ac, ae]
  refine wpList_nil ?_
  go_upto_region 4 with fail
  refine wp_region_lit ?_
  refine af rfl (ah rfl (ev rfl)) ?_
  simp only [Act.put, aa, ac, ae]
  refine af (v := .bool true) rfl (aE true rfl (ev rfl) evk rfl) ?_
  simp only [Act.put, aa, ac, ae]
  refine wpList_nil ?_
  go_upto_region 5 with fail
  refine wp_region_lit ?_
  refine af rfl (ah rfl (ev rfl)) ?_
  simp only [Act.put, aa, ac, ae]
  refine af rfl (al rfl evk) ?_
  simp only [Act.put, aa, ac, ae]
  refine af rfl (al rfl (ev rfl)) ?_
  simp only [Act.put, aa, ac, ae]
  refine wpList_nil ?_
  go_wp2_with fail
  go_ret2
  exact ⟨rfl, HB2.out⟩
end Go.Proofs.Ytdmhelalbemlcaa
