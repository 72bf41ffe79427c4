/-
  PlanFresh's walk.
-/
import Derived.Test.YtplanbjjfaihbaaPnL
import Derived.Test.YtplanbjjfaihbaaPnE
namespace Go.Proofs.Ytplanbjjfaihbaa
open Go.RowKit
set_option linter.unusedVariables false
set_option linter.unusedSimpArgs false
set_option maxRecDepth 100000

section
variable {ρ : Operand → Value} {o : Oper} {x y : Operand} {w : World}
theorem exec_stP {u : Int} {b off : Nat} (ho : o.op = .store 3 x y) (hx : ρ x = .pointer (some ⟨b, off, none⟩)) (hy : ρ y = .int .i64 u) (h : w.there b off 1) : (execOp ρ o).run Try.prog w = .ok .skip (w.setCells b off [.int .i64 u]) := by
  obtain ⟨h1, h2⟩ := h 0 (by omega)
  obtain ⟨v, hv⟩ := Option.isSome_iff_exists.1 h1
  rw [Nat.add_zero] at hv h2
  exact exec_st ho hx hy (by simp [go_sem, hv, h2, World.setCells])
theorem exec_indexI0 {b n c j : Nat} (ho : o.op = .indexAddr 23 x y) (hx : ρ x = .slice (some ⟨b, 0, none⟩) n c) (hy : ρ y = .int .i64 (j : Int)) (hj : j < n) : (execOp ρ o).run Try.prog w = .ok (.value (.pointer (some ⟨b, j * IntE.n, none⟩))) w := by
  have h := exec_indexE (E := IntE) (w := w) ho hx hy hj
  rwa [Nat.zero_add] at h
end
/-- A row of truth values stays where a number of another row is laid anew. -/
theorem MadeE.aside {w : World} {B B' : Nat} {v : Value} {l : List Bool} {r : List Int} (h : MadeE BoE w B v l) {g n cc : Nat} (h' : MadeE IntE w B' (.slice (some ⟨g, 0, none⟩) n cc) r) (o : Nat) (vs : List Value) : MadeE BoE (w.setCells g o vs) B v l := by
  refine ⟨h.1, ?_⟩
  rcases h.2 with hn | ⟨b, cap, cur, rfl, hb, hg, rest⟩
  · exact .inl hn
  · refine .inr ⟨b, cap, cur, rfl, hb, (blk_setCells g vs o w b ?_).trans hg, rest⟩
    intro e
    subst e
    obtain ⟨_, _, post, hg', _⟩ := h'.parts
    rw [hg] at hg'
    injection hg' with hg'
    injection hg' with _ e _
    exact absurd e (by decide)
theorem PlAt.aside {w : World} {q : Nat} {z : Int} {A : Option Addr} {n c : Nat} (h : PlAt w q z A n c) {B' : Nat} {r : List Int} {g n' cc : Nat} (h' : MadeE IntE w B' (.slice (some ⟨g, 0, none⟩) n' cc) r) (o : Nat) (vs : List Value) : PlAt (w.setCells g o vs) q z A n c := by
  refine (blk_setCells g vs o w q ?_).trans h
  intro e
  subst e
  obtain ⟨_, _, post, hg', _⟩ := h'.parts
  have hh : w.heap[q]? = some (.cells (plC z (.slice A n c)).toArray 25 (0, 0)) := h
  rw [hh] at hg'
  injection hg' with hg'
  injection hg' with _ e _
  exact absurd e (by decide)
theorem MadeE.slot0 {w : World} {B n c i : Nat} {A : Option Addr} {l : List Int} (h : MadeE IntE w B (.slice A n c) l) (hi : i < n) : ∃ g, A = some ⟨g, 0, none⟩ := by
  rcases h.2 with ⟨hv, h0⟩ | ⟨g, cap, cur, hv, _⟩
  · injection hv with e1 e2 e3
    omega
  · injection hv with e1 e2 e3
    exact ⟨g, e1⟩
open Go.ChangeShapes Go.WideShapes Go.ChangeAt Go.Deep
theorem bytesQ : Try.prog.bytesOf 4 = 1 := by kernel_rfl
theorem bools_reach {H : Type} {enc : TypeId × Value → H} {W : World} {A : Option Addr} {n c : Nat} {d : DataW H} {p : List MemPlace} (h : DataW.Trod enc Try.prog W 0 (fun _ => true) true 22 (.slice A n c) d p) (hz : ∀ x ∈ DataW.weights Try.prog 22 d, x ≤ reachBytes) : n ≤ 140737488351232 := by
  obtain ⟨fuel, hf⟩ := h
  rcases open_slice Try.underlying22 hf with ⟨hcs, hx⟩ | ⟨a, len, cap, m, n', D, Pl, hcs, hb, hl, hm, hmm, hx, hel⟩
  · simp [Value.cells] at hcs
    obtain ⟨rfl, rfl, rfl⟩ := hcs
    omega
  · simp [Value.cells] at hcs
    obtain ⟨rfl, rfl, rfl⟩ := hcs
    simp only [Prod.mk.injEq] at hx
    obtain ⟨rfl, rfl⟩ := hx
    simp only [if_true] at hmm
    subst hmm
    have hr := hz (((((List.range n).map D).length + ((List.range (m - n)).map fun j => D (n + j)).length)) * Try.prog.bytesOf 4) (by simp [DataW.weights])
    rw [bytesQ] at hr
    simp only [List.length_map, List.length_range, reachBytes] at hr
    omega
theorem open_boolsW {H : Type} {enc : TypeId × Value → H} {W : World} {base : Nat} {v : Value} {d : DataW H} {p : List MemPlace} (hv : Value.okWide Try.prog W .any base 22 v) (h : DataW.Trod enc Try.prog W 0 (fun _ => true) true 22 v d p) (hz : ∀ x ∈ DataW.weights Try.prog 22 d, x ≤ reachBytes) :
    ∃ (A : Option Addr) (n c : Nat) (l : List Bool), v = .slice A n c ∧ RdE BoE W W.heap.size A n l ∧ n ≤ c ∧ c ≤ maxLen ∧ n ≤ 140737488351232 := by
  obtain ⟨A, n, c, l, rfl, h2, h3, h4, _⟩ := open_bools hv h
  exact ⟨A, n, c, l, rfl, h2, h3, h4, bools_reach h hz⟩
theorem app_new {w : World} {A : Option Addr} {n c : Nat} {l : List Bool} (hl : RdE BoE w w.heap.size A n l) (hn : n ≤ 140737488351232) : ∃ A' c' w', (Builtin.append_ #[22, 22] 22 #[.slice none 0 0, .slice A n c]).run Try.prog w = .ok (.slice A' n c') w' ∧ MadeE BoE w' w.heap.size (.slice A' n c') l ∧ Below w.heap.size w w' := by
  obtain ⟨v, w', h1, h2, h3⟩ := run_appEw BoE w 22 w.heap.size w.heap.size n c (.slice none 0 0) [] l A (MadeE.nil _ _) hl (Nat.le_refl _) (by unfold maxLen; simp; omega) (by
    show (([] : List Bool).length + n) * 1 ≤ 140737488355328
    simp
    omega)
  rw [List.nil_append] at h2
  obtain ⟨A', c', rfl, _, _, _⟩ := h2.open_ hl.1
  exact ⟨A', c', w', h1, h2, (Below.refl _ _).grown h3 (Nat.le_refl _) (fun j hj => by simp [Value.ownBlock] at hj)⟩
set_option maxHeartbeats 8000000 in
theorem wplanFresh (A B' : Option Addr) (n c m c' : Nat) (l k : List Bool) (lost : Int) (w : World) (hl : RdE BoE w w.heap.size A n l) (hk : RdE BoE w w.heap.size B' m k) (hn : n ≤ 140737488351232 ∧ m ≤ 140737488351232) :
    Calls Try.prog 7 #[.slice A n c, .slice B' m c', .int .i64 lost] w fun e w' => e = .returned (.bool true) ∧ Below w.heap.size w w' := by
  have HW := Lib.hid (Upto.refl w)
  have HL := Lib.hid hl
  have HK := Lib.hid hk
  have HN : Hid (n ≤ maxLen ∧ m ≤ maxLen) := Lib.hid (by unfold maxLen; omega)
  obtain ⟨z, hz⟩ : ∃ z, plW l k false lost = z := ⟨_, rfl⟩
  obtain ⟨e0, he⟩ : ∃ z, plE l k lost = z := ⟨_, rfl⟩
  obtain ⟨r, hr⟩ : ∃ z, plR l k false lost = z := ⟨_, rfl⟩
  have HZ := Lib.hid hz
  have HE := Lib.hid he
  have HR := Lib.hid hr
  have HRL : Hid (r.length ≤ 100) := Lib.hid (by rw [← hr]; exact plR_len _ _ _ _)
  obtain ⟨Aa, ca, w1, hra, hma, hb⟩ := app_new (c := c) hl hn.1
  have HWn := Lib.hid (HW.out.to hb)
  clear HW
  have HW := HWn
  clear HWn
  have HRA := Lib.hid hra
  have MA := Lib.hid hma
  clear hra hma hb
  obtain ⟨Ab, cb, w2, hrb, hmb, hb⟩ := app_new (c := c') (HW.out.rd HK.out) hn.2
  have HWn := Lib.hid (HW.out.to hb)
  clear HW
  have HW := HWn
  clear HWn
  have MAn := Lib.hid (MA.out.below hb)
  clear MA
  have MA := MAn
  clear MAn
  have HRB := Lib.hid hrb
  have MB := Lib.hid hmb
  have HB2 : Hid (w.heap.size ≤ w2.heap.size) := Lib.hid HW.out.2
  clear hrb hmb hb hl hk hn hz he hr
  go_enter Try.func7, Try.ntmps7
  go_upto_region 1 with fail
  refine wp_region_lit ?_
  refine wpList_valn rfl (exec_as rfl evk) ?_
  simp only [Act.put, List.setIfInBounds_toArray, List.set_cons_succ, List.set_cons_zero]
  refine wpList_valn rfl (exec_as rfl evk) ?_
  simp only [Act.put, List.setIfInBounds_toArray, List.set_cons_succ, List.set_cons_zero]
  refine wpList_nil ?_
  go_upto_region 2 with fail
  refine wp_region_lit ?_
  refine wpList_valn rfl (exec_mv rfl (ev rfl)) ?_
  simp only [Act.put, List.setIfInBounds_toArray, List.set_cons_succ, List.set_cons_zero]
  refine wpList_valn rfl (exec_mv rfl (ev rfl)) ?_
  simp only [Act.put, List.setIfInBounds_toArray, List.set_cons_succ, List.set_cons_zero]
  refine wpList_valn rfl (exec_appR rfl (ev rfl) (ev rfl) HRA.out) ?_
  simp only [Act.put, List.setIfInBounds_toArray, List.set_cons_succ, List.set_cons_zero]
  refine wpList_valn rfl (exec_as rfl (ev rfl)) ?_
  simp only [Act.put, List.setIfInBounds_toArray, List.set_cons_succ, List.set_cons_zero]
  refine wpList_nil ?_
  go_upto_region 3 with fail
  refine wp_region_lit ?_
  refine wpList_valn rfl (exec_mv rfl (ev rfl)) ?_
  simp only [Act.put, List.setIfInBounds_toArray, List.set_cons_succ, List.set_cons_zero]
  refine wpList_valn rfl (exec_mv rfl (ev rfl)) ?_
  simp only [Act.put, List.setIfInBounds_toArray, List.set_cons_succ, List.set_cons_zero]
  refine wpList_valn rfl (exec_appR rfl (ev rfl) (ev rfl) HRB.out) ?_
  simp only [Act.put, List.setIfInBounds_toArray, List.set_cons_succ, List.set_cons_zero]
  refine wpList_valn rfl (exec_as rfl (ev rfl)) ?_
  simp only [Act.put, List.setIfInBounds_toArray, List.set_cons_succ, List.set_cons_zero]
  refine wpList_nil ?_
  go_upto_region 4 with fail
  refine wp_region_lit ?_
  refine wpList_valn rfl (exec_mv rfl (ev rfl)) ?_
  simp only [Act.put, List.setIfInBounds_toArray, List.set_cons_succ, List.set_cons_zero]
  refine wpList_valn rfl (exec_mv rfl (ev rfl)) ?_
  simp only [Act.put, List.setIfInBounds_toArray, List.set_cons_succ, List.set_cons_zero]
  refine wpList_valn rfl (exec_mv rfl (ev rfl)) ?_
  simp only [Act.put, List.setIfInBounds_toArray, List.set_cons_succ, List.set_cons_zero]
  refine wpList_call rfl (exec_cl Try.call8 rfl (evc (ev rfl) (evc (ev rfl) (evc evk (evc (ev rfl) evn))))) ?_
  refine (pplan_v Aa Ab n ca m cb l k false lost w2 HZ.out HE.out HR.out MA.out.rd MB.out.rd HN.out).mono ?_
  rintro e w3 ⟨A1', c1', rfl, hm, hb⟩
  have HWn := Lib.hid (HW.out.to hb)
  clear HW
  have HW := HWn
  clear HWn
  have MAn := Lib.hid (MA.out.below hb)
  clear MA
  have MA := MAn
  clear MAn
  have MBn := Lib.hid (MB.out.below hb)
  clear MB
  have MB := MBn
  clear MBn
  have HMx := Lib.hid hm
  clear hm hb
  refine ⟨_, rfl, ?_⟩
  simp only [Act.put, List.setIfInBounds_toArray, List.set_cons_succ, List.set_cons_zero]
  refine wpList_valn rfl (exec_mv rfl (ev rfl)) ?_
  simp only [Act.put, List.setIfInBounds_toArray, List.set_cons_succ, List.set_cons_zero]
  refine wpList_valn rfl (exec_ext rfl (ev rfl) rfl) ?_
  simp only [Act.put, List.setIfInBounds_toArray, List.set_cons_succ, List.set_cons_zero]
  refine wpList_valn rfl (exec_ext rfl (ev rfl) rfl) ?_
  simp only [Act.put, List.setIfInBounds_toArray, List.set_cons_succ, List.set_cons_zero]
  refine wpList_valn rfl (exec_allocT zinfoPl rfl) ?_
  simp only [Act.put, List.setIfInBounds_toArray, List.set_cons_succ, List.set_cons_zero]
  refine wpList_nuln rfl (exec_fillPl rfl (ev rfl) (ev rfl)) ?_
  simp only [Act.put, List.setIfInBounds_toArray, List.set_cons_succ, List.set_cons_zero]
  obtain ⟨w4, q1, hw_, hq_, hp, hb, hmm⟩ := pl_lay HMx.out
  rw [hw_, hq_]
  have HWn := Lib.hid (HW.out.to hb)
  clear HW
  have HW := HWn
  clear HWn
  have MAn := Lib.hid (MA.out.below hb)
  clear MA
  have MA := MAn
  clear MAn
  have MBn := Lib.hid (MB.out.below hb)
  clear MB
  have MB := MBn
  clear MBn
  have P1 := Lib.hid hp
  have MP1 := Lib.hid hmm
  clear hw_ hq_ hp hb hmm HMx
  refine wpList_valn rfl (exec_as rfl (ev rfl)) ?_
  simp only [Act.put, List.setIfInBounds_toArray, List.set_cons_succ, List.set_cons_zero]
  refine wpList_nil ?_
  go_upto_region 5 with fail
  refine wp_region_lit ?_
  refine wpList_valn rfl (exec_as rfl evk) ?_
  simp only [Act.put, List.setIfInBounds_toArray, List.set_cons_succ, List.set_cons_zero]
  refine wpList_nil ?_
  have Q1 := Lib.hid P1.out.1
  clear P1
  go_wp2_with fail
  go_loopw [11] (fun v wr => ∃ (i : Nat) (r' : List Int), v = .int .i64 i ∧ i ≤ r.length ∧ PlAt wr q1 z A1' r.length c1' ∧ MadeE IntE wr w.heap.size (.slice A1' r.length c1') r' ∧ MadeE BoE wr w.heap.size (.slice Aa n ca) l ∧ MadeE BoE wr w1.heap.size (.slice Ab m cb) k ∧ Upto w.heap.size w wr) (fun v _ => r.length - (intOf v).toNat)
  case atStart => exact ⟨0, r, by go_num, by omega, Q1.out, MP1.out.base HB2.out, MA.out, MB.out, HW.out⟩
  case round =>
    obtain ⟨i, r', rfl, hi, hp, hm, ha, hb, hu⟩ := hrel
    have HP := Lib.hid hp
    have HM := Lib.hid hm
    have HMA := Lib.hid ha
    have HMB := Lib.hid hb
    have HU := Lib.hid hu
    clear hp hm ha hb hu
    by_cases hlt : i < r.length
    · have HI := Lib.hid hlt
      have HT : Hid (decide ((i : Int) < (r.length : Int)) = true) := Lib.hid (decide_eq_true (by omega))
      obtain ⟨g, hg⟩ := HM.out.slot0 hlt
      subst hg
      have hpt := HM.out.parts
      have HG : Hid (w.heap.size ≤ g) := Lib.hid hpt.2.1
      have HRL' : Hid (r'.length = r.length) := Lib.hid hpt.1
      have HTH := Lib.hid (HM.out.there (E := IntE) (j := 0) (m := 1) hlt (Nat.le_refl _))
      have HAJ : Hid (IntKind.i64.wrap ((i : Int) + 1) = ((i + 1 : Nat) : Int)) := Lib.hid (by have := HRL.out; rw [i64k ⟨by omega, by omega⟩]; omega)
      clear hlt hi hpt
      go_upto_region 6 with fail
      refine wp_region_lit ?_
      refine wpList_valn rfl (exec_mv rfl (ev rfl)) ?_
      simp only [Act.put, List.setIfInBounds_toArray, List.set_cons_succ, List.set_cons_zero]
      refine wpList_valn rfl (exec_faddr rfl (ev rfl) faPn1) ?_
      simp only [Act.put, List.setIfInBounds_toArray, List.set_cons_succ, List.set_cons_zero]
      refine wpList_valn rfl (exec_ld rfl (ev rfl) (ldIsP (HP.out).c1)) ?_
      simp only [Act.put, List.setIfInBounds_toArray, List.set_cons_succ, List.set_cons_zero]
      refine wpList_valn rfl (exec_lenQ Try.underlying23 rfl (ev rfl)) ?_
      simp only [Act.put, List.setIfInBounds_toArray, List.set_cons_succ, List.set_cons_zero]
      refine wpList_valn (v := .bool true) rfl (exec_lss true rfl (ev rfl) (ev rfl) HT.out) ?_
      simp only [Act.put, List.setIfInBounds_toArray, List.set_cons_succ, List.set_cons_zero]
      refine wpList_nil ?_
      go_upto_region 8 with fail
      refine wp_region_lit ?_
      refine wpList_valn rfl (exec_faddr rfl (ev rfl) faPn1) ?_
      simp only [Act.put, List.setIfInBounds_toArray, List.set_cons_succ, List.set_cons_zero]
      refine wpList_valn rfl (exec_ld rfl (ev rfl) (ldIsP (HP.out).c1)) ?_
      simp only [Act.put, List.setIfInBounds_toArray, List.set_cons_succ, List.set_cons_zero]
      refine wpList_valn rfl (exec_mv rfl (ev rfl)) ?_
      simp only [Act.put, List.setIfInBounds_toArray, List.set_cons_succ, List.set_cons_zero]
      refine wpList_valn rfl (exec_indexI0 rfl (ev rfl) (ev rfl) HI.out) ?_
      simp only [Act.put, List.setIfInBounds_toArray, List.set_cons_succ, List.set_cons_zero]
      refine wpList_nuln rfl (exec_stP rfl (ev rfl) evk HTH.out) ?_
      simp only [Act.put, List.setIfInBounds_toArray, List.set_cons_succ, List.set_cons_zero]
      refine wpList_nil ?_
      go_upto_region 7 with fail
      refine wp_region_lit ?_
      refine wpList_valn rfl (exec_mv rfl (ev rfl)) ?_
      simp only [Act.put, List.setIfInBounds_toArray, List.set_cons_succ, List.set_cons_zero]
      refine wpList_valn rfl (exec_add rfl (ev rfl) evk HAJ.out) ?_
      simp only [Act.put, List.setIfInBounds_toArray, List.set_cons_succ, List.set_cons_zero]
      refine wpList_valn rfl (exec_as rfl (ev rfl)) ?_
      simp only [Act.put, List.setIfInBounds_toArray, List.set_cons_succ, List.set_cons_zero]
      refine wpList_nil ?_
      go_wp2_with fail
      go_roundw
      case rel => exact ⟨i + 1, r'.set i 77, by go_num, HI.out, HP.out.aside HM.out _ _, HM.out.store (E := IntE) HI.out 77, HMA.out.aside HM.out _ _, HMB.out.aside HM.out _ _, below_setCells HU.out.1 HG.out _, by rw [(heap_setCells _ _ _ _).1]; exact HU.out.2⟩
      case measure => have := HI.out; simp [intOf]; omega
    have hin : i = r.length := by omega
    subst hin
    have HT : Hid (decide ((r.length : Int) < (r.length : Int)) = false) := Lib.hid (decide_eq_false (by omega))
    clear hlt hi HW MA MB
    have HW := HU
    have MA := HMA
    have MB := HMB
    clear HU HMA HMB
    obtain ⟨wA, rfl⟩ : ∃ x, x = wr := ⟨_, rfl⟩
    go_upto_region 6 with fail
    refine wp_region_lit ?_
    refine wpList_valn rfl (exec_mv rfl (ev rfl)) ?_
    simp only [Act.put, List.setIfInBounds_toArray, List.set_cons_succ, List.set_cons_zero]
    refine wpList_valn rfl (exec_faddr rfl (ev rfl) faPn1) ?_
    simp only [Act.put, List.setIfInBounds_toArray, List.set_cons_succ, List.set_cons_zero]
    refine wpList_valn rfl (exec_ld rfl (ev rfl) (ldIsP (HP.out).c1)) ?_
    simp only [Act.put, List.setIfInBounds_toArray, List.set_cons_succ, List.set_cons_zero]
    refine wpList_valn rfl (exec_lenQ Try.underlying23 rfl (ev rfl)) ?_
    simp only [Act.put, List.setIfInBounds_toArray, List.set_cons_succ, List.set_cons_zero]
    refine wpList_valn (v := .bool false) rfl (exec_lss false rfl (ev rfl) (ev rfl) HT.out) ?_
    simp only [Act.put, List.setIfInBounds_toArray, List.set_cons_succ, List.set_cons_zero]
    refine wpList_nil ?_
    go_upto_region 9 with fail
    refine wp_region_lit ?_
    refine wpList_valn rfl (exec_mv rfl (ev rfl)) ?_
    simp only [Act.put, List.setIfInBounds_toArray, List.set_cons_succ, List.set_cons_zero]
    refine wpList_valn rfl (exec_mv rfl (ev rfl)) ?_
    simp only [Act.put, List.setIfInBounds_toArray, List.set_cons_succ, List.set_cons_zero]
    refine wpList_valn rfl (exec_mv rfl (ev rfl)) ?_
    simp only [Act.put, List.setIfInBounds_toArray, List.set_cons_succ, List.set_cons_zero]
    refine wpList_call rfl (exec_cl Try.call8 rfl (evc (ev rfl) (evc (ev rfl) (evc evk (evc (ev rfl) evn))))) ?_
    refine (pplan_v Aa Ab n ca m cb l k false lost wA HZ.out HE.out HR.out MA.out.rd MB.out.rd HN.out).mono ?_
    rintro e w11 ⟨A6', c6', rfl, hm, hb⟩
    have HWn := Lib.hid (HW.out.to hb)
    clear HW
    have HW := HWn
    clear HWn
    have MAn := Lib.hid (MA.out.below hb)
    clear MA
    have MA := MAn
    clear MAn
    have MBn := Lib.hid (MB.out.below hb)
    clear MB
    have MB := MBn
    clear MBn
    have HMx := Lib.hid hm
    clear hm hb
    refine ⟨_, rfl, ?_⟩
    simp only [Act.put, List.setIfInBounds_toArray, List.set_cons_succ, List.set_cons_zero]
    refine wpList_valn rfl (exec_mv rfl (ev rfl)) ?_
    simp only [Act.put, List.setIfInBounds_toArray, List.set_cons_succ, List.set_cons_zero]
    refine wpList_valn rfl (exec_ext rfl (ev rfl) rfl) ?_
    simp only [Act.put, List.setIfInBounds_toArray, List.set_cons_succ, List.set_cons_zero]
    refine wpList_valn rfl (exec_ext rfl (ev rfl) rfl) ?_
    simp only [Act.put, List.setIfInBounds_toArray, List.set_cons_succ, List.set_cons_zero]
    refine wpList_valn rfl (exec_allocT zinfoPl rfl) ?_
    simp only [Act.put, List.setIfInBounds_toArray, List.set_cons_succ, List.set_cons_zero]
    refine wpList_nuln rfl (exec_fillPl rfl (ev rfl) (ev rfl)) ?_
    simp only [Act.put, List.setIfInBounds_toArray, List.set_cons_succ, List.set_cons_zero]
    obtain ⟨w12, q6, hw_, hq_, hp, hb, hmm⟩ := pl_lay HMx.out
    rw [hw_, hq_]
    have HWn := Lib.hid (HW.out.to hb)
    clear HW
    have HW := HWn
    clear HWn
    have MAn := Lib.hid (MA.out.below hb)
    clear MA
    have MA := MAn
    clear MAn
    have MBn := Lib.hid (MB.out.below hb)
    clear MB
    have MB := MBn
    clear MBn
    have P2 := Lib.hid hp
    clear hw_ hq_ hp hb hmm HMx
    refine wpList_valn rfl (exec_as rfl (ev rfl)) ?_
    simp only [Act.put, List.setIfInBounds_toArray, List.set_cons_succ, List.set_cons_zero]
    refine wpList_nil ?_
    go_upto_region 10 with fail
    refine wp_region_lit ?_
    refine wpList_valn rfl (exec_mv rfl (ev rfl)) ?_
    simp only [Act.put, List.setIfInBounds_toArray, List.set_cons_succ, List.set_cons_zero]
    refine wpList_valn rfl (exec_mv rfl (ev rfl)) ?_
    simp only [Act.put, List.setIfInBounds_toArray, List.set_cons_succ, List.set_cons_zero]
    refine wpList_valn rfl (exec_mv rfl (ev rfl)) ?_
    simp only [Act.put, List.setIfInBounds_toArray, List.set_cons_succ, List.set_cons_zero]
    refine wpList_call rfl (exec_cl Try.call9 rfl (evc (ev rfl) (evc (ev rfl) (evc evk (evc (ev rfl) evn))))) ?_
    refine (rplan_v A B' n c m c' l k false lost w12 HZ.out HE.out HR.out (HW.out.rd HL.out) (HW.out.rd HK.out) HN.out).mono ?_
    rintro e w13 ⟨A7', c7', rfl, hm, hb⟩
    have HWn := Lib.hid (HW.out.to hb)
    clear HW
    have HW := HWn
    clear HWn
    have MAn := Lib.hid (MA.out.below hb)
    clear MA
    have MA := MAn
    clear MAn
    have MBn := Lib.hid (MB.out.below hb)
    clear MB
    have MB := MBn
    clear MBn
    have P2n := Lib.hid (P2.out.below hb)
    clear P2
    have P2 := P2n
    clear P2n
    have HMx := Lib.hid hm
    clear hm hb
    refine ⟨_, rfl, ?_⟩
    simp only [Act.put, List.setIfInBounds_toArray, List.set_cons_succ, List.set_cons_zero]
    refine wpList_valn rfl (exec_mv rfl (ev rfl)) ?_
    simp only [Act.put, List.setIfInBounds_toArray, List.set_cons_succ, List.set_cons_zero]
    refine wpList_valn rfl (exec_ext rfl (ev rfl) rfl) ?_
    simp only [Act.put, List.setIfInBounds_toArray, List.set_cons_succ, List.set_cons_zero]
    refine wpList_valn rfl (exec_ext rfl (ev rfl) rfl) ?_
    simp only [Act.put, List.setIfInBounds_toArray, List.set_cons_succ, List.set_cons_zero]
    refine wpList_valn rfl (exec_allocT zinfoPl rfl) ?_
    simp only [Act.put, List.setIfInBounds_toArray, List.set_cons_succ, List.set_cons_zero]
    refine wpList_nuln rfl (exec_fillPl rfl (ev rfl) (ev rfl)) ?_
    simp only [Act.put, List.setIfInBounds_toArray, List.set_cons_succ, List.set_cons_zero]
    obtain ⟨w14, q7, hw_, hq_, hp, hb, hmm⟩ := pl_lay HMx.out
    rw [hw_, hq_]
    have HWn := Lib.hid (HW.out.to hb)
    clear HW
    have HW := HWn
    clear HWn
    have MAn := Lib.hid (MA.out.below hb)
    clear MA
    have MA := MAn
    clear MAn
    have MBn := Lib.hid (MB.out.below hb)
    clear MB
    have MB := MBn
    clear MBn
    have P2n := Lib.hid (P2.out.below hb)
    clear P2
    have P2 := P2n
    clear P2n
    have P3 := Lib.hid hp
    clear hw_ hq_ hp hb hmm HMx
    refine wpList_valn rfl (exec_as rfl (ev rfl)) ?_
    simp only [Act.put, List.setIfInBounds_toArray, List.set_cons_succ, List.set_cons_zero]
    refine wpList_nil ?_
    go_upto_region 11 with fail
    refine wp_region_lit ?_
    refine wpList_valn rfl (exec_as rfl evk) ?_
    simp only [Act.put, List.setIfInBounds_toArray, List.set_cons_succ, List.set_cons_zero]
    refine wpList_nil ?_
    go_wp2_with fail
    go_loopw [16] (fun v wr => ∃ i : Nat, v = .int .i64 i ∧ i ≤ n ∧ PlR wr q6 z A6' r.length c6' r ∧ PlR wr q7 z A7' r.length c7' r ∧ MadeE BoE wr w.heap.size (.slice Aa n ca) l ∧ MadeE BoE wr w1.heap.size (.slice Ab m cb) k ∧ Upto w.heap.size w wr) (fun v _ => n - (intOf v).toNat)
    case atStart => exact ⟨0, by go_num, by omega, P2.out, P3.out, MA.out, MB.out, HW.out⟩
    case round =>
      obtain ⟨i, rfl, hi, h2, h3, ha, hb, hu⟩ := hrel
      have HP2 := Lib.hid h2
      have HP3 := Lib.hid h3
      have HMA := Lib.hid ha
      have HMB := Lib.hid hb
      have HU := Lib.hid hu
      clear h2 h3 ha hb hu
      by_cases hlt : i < n
      · have HI := Lib.hid hlt
        have HT : Hid (decide ((i : Int) < (n : Int)) = true) := Lib.hid (decide_eq_true (by omega))
        obtain ⟨bq, oq, hbe, hbq, hq⟩ := (HU.out.rd HL.out).bo hlt
        obtain ⟨bk, ok, hke, hbk, hk⟩ := (HMA.out.rd).bo hlt
        obtain ⟨x, hx⟩ : ∃ x, l.getD i false = x := ⟨_, rfl⟩
        rw [hx] at hq hk
        have HQC : Hid (∀ w', Below wr.heap.size wr w' → w'.cell? ⟨bq, oq + i * BoE.n, none⟩ = some (.bool x)) := Lib.hid fun w' h => by
          show w'.cell? ⟨bq, oq + i * 1, none⟩ = _
          rw [Nat.mul_one]
          exact (World.cell?_of_block (w := wr) (h.block bq hbq)).trans hq
        have HKC : Hid (∀ w', Below wr.heap.size wr w' → w'.cell? ⟨bk, ok + i * BoE.n, none⟩ = some (.bool x)) := Lib.hid fun w' h => by
          show w'.cell? ⟨bk, ok + i * 1, none⟩ = _
          rw [Nat.mul_one]
          exact (World.cell?_of_block (w := wr) (h.block bk hbk)).trans hk
        have HAJ : Hid (IntKind.i64.wrap ((i : Int) + 1) = ((i + 1 : Nat) : Int)) := Lib.hid (by have h1 := HN.out.1; have h2 := HN.out.2; unfold maxLen at h1 h2; rw [i64k ⟨by omega, by omega⟩]; omega)
        subst hbe hke
        clear hq hk hbq hbk hx hlt hi
        go_upto_region 12 with fail
        refine wp_region_lit ?_
        refine wpList_valn rfl (exec_mv rfl (ev rfl)) ?_
        simp only [Act.put, List.setIfInBounds_toArray, List.set_cons_succ, List.set_cons_zero]
        refine wpList_valn rfl (exec_mv rfl (ev rfl)) ?_
        simp only [Act.put, List.setIfInBounds_toArray, List.set_cons_succ, List.set_cons_zero]
        refine wpList_valn rfl (exec_lenQ Try.underlying22 rfl (ev rfl)) ?_
        simp only [Act.put, List.setIfInBounds_toArray, List.set_cons_succ, List.set_cons_zero]
        refine wpList_valn (v := .bool true) rfl (exec_lss true rfl (ev rfl) (ev rfl) HT.out) ?_
        simp only [Act.put, List.setIfInBounds_toArray, List.set_cons_succ, List.set_cons_zero]
        refine wpList_nil ?_
        go_upto_region 14 with fail
        refine wp_region_above (B := wr.heap.size) (by kernel_rfl) ?_
        refine qv_val rfl (fun w' hw => exec_mv rfl (ev rfl)) ?_
        simp only [Act.put, List.setIfInBounds_toArray, List.set_cons_succ, List.set_cons_zero]
        refine qv_val rfl (fun w' hw => exec_mv rfl (ev rfl)) ?_
        simp only [Act.put, List.setIfInBounds_toArray, List.set_cons_succ, List.set_cons_zero]
        refine qv_val rfl (fun w' hw => exec_indexE (E := BoE) rfl (ev rfl) (ev rfl) HI.out) ?_
        simp only [Act.put, List.setIfInBounds_toArray, List.set_cons_succ, List.set_cons_zero]
        refine qv_val rfl (fun w' hw => exec_ld rfl (ev rfl) (ldBoE (HKC.out _ hw))) ?_
        simp only [Act.put, List.setIfInBounds_toArray, List.set_cons_succ, List.set_cons_zero]
        refine qv_val rfl (fun w' hw => exec_mv rfl (ev rfl)) ?_
        simp only [Act.put, List.setIfInBounds_toArray, List.set_cons_succ, List.set_cons_zero]
        refine qv_val rfl (fun w' hw => exec_mv rfl (ev rfl)) ?_
        simp only [Act.put, List.setIfInBounds_toArray, List.set_cons_succ, List.set_cons_zero]
        refine qv_val rfl (fun w' hw => exec_indexE (E := BoE) rfl (ev rfl) (ev rfl) HI.out) ?_
        simp only [Act.put, List.setIfInBounds_toArray, List.set_cons_succ, List.set_cons_zero]
        refine qv_val rfl (fun w' hw => exec_ld rfl (ev rfl) (ldBoE (HQC.out _ hw))) ?_
        simp only [Act.put, List.setIfInBounds_toArray, List.set_cons_succ, List.set_cons_zero]
        refine qv_val (v := .bool false) rfl (fun w' hw => exec_neBool false rfl (ev rfl) (ev rfl) (bne_self_eq_false x)) ?_
        simp only [Act.put, List.setIfInBounds_toArray, List.set_cons_succ, List.set_cons_zero]
        refine wpQuiet_nil ?_
        intro w3 hw
        have HP2n := Lib.hid (HP2.out.below hw)
        have HP3n := Lib.hid (HP3.out.below hw)
        have HMAn := Lib.hid (HMA.out.below hw)
        have HMBn := Lib.hid (HMB.out.below hw)
        have HU3 := Lib.hid (HU.out.to hw)
        clear hw
        go_upto_region 13 with fail
        refine wp_region_lit ?_
        refine wpList_valn rfl (exec_mv rfl (ev rfl)) ?_
        simp only [Act.put, List.setIfInBounds_toArray, List.set_cons_succ, List.set_cons_zero]
        refine wpList_valn rfl (exec_add rfl (ev rfl) evk HAJ.out) ?_
        simp only [Act.put, List.setIfInBounds_toArray, List.set_cons_succ, List.set_cons_zero]
        refine wpList_valn rfl (exec_as rfl (ev rfl)) ?_
        simp only [Act.put, List.setIfInBounds_toArray, List.set_cons_succ, List.set_cons_zero]
        refine wpList_nil ?_
        go_wp2_with fail
        go_roundw
        case rel => exact ⟨i + 1, by go_num, HI.out, HP2n.out, HP3n.out, HMAn.out, HMBn.out, HU3.out⟩
        case measure => have := HI.out; simp [intOf]; omega
      have hin : i = n := by omega
      have HT : Hid (decide ((i : Int) < (n : Int)) = false) := Lib.hid (decide_eq_false (by omega))
      clear hlt hi hin HW MA MB P2 P3
      have HW := HU
      have MA := HMA
      have MB := HMB
      have P2 := HP2
      have P3 := HP3
      clear HU HMA HMB HP2 HP3
      go_upto_region 12 with fail
      refine wp_region_lit ?_
      refine wpList_valn rfl (exec_mv rfl (ev rfl)) ?_
      simp only [Act.put, List.setIfInBounds_toArray, List.set_cons_succ, List.set_cons_zero]
      refine wpList_valn rfl (exec_mv rfl (ev rfl)) ?_
      simp only [Act.put, List.setIfInBounds_toArray, List.set_cons_succ, List.set_cons_zero]
      refine wpList_valn rfl (exec_lenQ Try.underlying22 rfl (ev rfl)) ?_
      simp only [Act.put, List.setIfInBounds_toArray, List.set_cons_succ, List.set_cons_zero]
      refine wpList_valn (v := .bool false) rfl (exec_lss false rfl (ev rfl) (ev rfl) HT.out) ?_
      simp only [Act.put, List.setIfInBounds_toArray, List.set_cons_succ, List.set_cons_zero]
      refine wpList_nil ?_
      obtain ⟨wB, rfl⟩ : ∃ x, x = wr := ⟨_, rfl⟩
      go_upto_region 16 with fail
      refine wp_region_lit ?_
      refine wpList_valn rfl (exec_as rfl evk) ?_
      simp only [Act.put, List.setIfInBounds_toArray, List.set_cons_succ, List.set_cons_zero]
      refine wpList_nil ?_
      go_wp2_with fail
      go_loopw [17] (fun v wr => ∃ i : Nat, v = .int .i64 i ∧ i ≤ m ∧ PlR wr q6 z A6' r.length c6' r ∧ PlR wr q7 z A7' r.length c7' r ∧ MadeE BoE wr w.heap.size (.slice Aa n ca) l ∧ MadeE BoE wr w1.heap.size (.slice Ab m cb) k ∧ Upto w.heap.size w wr) (fun v _ => m - (intOf v).toNat)
      case atStart => exact ⟨0, by go_num, by omega, P2.out, P3.out, MA.out, MB.out, HW.out⟩
      case round =>
        obtain ⟨i, rfl, hi, h2, h3, ha, hb, hu⟩ := hrel
        have HP2 := Lib.hid h2
        have HP3 := Lib.hid h3
        have HMA := Lib.hid ha
        have HMB := Lib.hid hb
        have HU := Lib.hid hu
        clear h2 h3 ha hb hu
        by_cases hlt : i < m
        · have HI := Lib.hid hlt
          have HT : Hid (decide ((i : Int) < (m : Int)) = true) := Lib.hid (decide_eq_true (by omega))
          obtain ⟨bq, oq, hbe, hbq, hq⟩ := (HU.out.rd HK.out).bo hlt
          obtain ⟨bk, ok, hke, hbk, hk⟩ := (HMB.out.rd).bo hlt
          obtain ⟨x, hx⟩ : ∃ x, k.getD i false = x := ⟨_, rfl⟩
          rw [hx] at hq hk
          have HQC : Hid (∀ w', Below wr.heap.size wr w' → w'.cell? ⟨bq, oq + i * BoE.n, none⟩ = some (.bool x)) := Lib.hid fun w' h => by
            show w'.cell? ⟨bq, oq + i * 1, none⟩ = _
            rw [Nat.mul_one]
            exact (World.cell?_of_block (w := wr) (h.block bq hbq)).trans hq
          have HKC : Hid (∀ w', Below wr.heap.size wr w' → w'.cell? ⟨bk, ok + i * BoE.n, none⟩ = some (.bool x)) := Lib.hid fun w' h => by
            show w'.cell? ⟨bk, ok + i * 1, none⟩ = _
            rw [Nat.mul_one]
            exact (World.cell?_of_block (w := wr) (h.block bk hbk)).trans hk
          have HAJ : Hid (IntKind.i64.wrap ((i : Int) + 1) = ((i + 1 : Nat) : Int)) := Lib.hid (by have h1 := HN.out.1; have h2 := HN.out.2; unfold maxLen at h1 h2; rw [i64k ⟨by omega, by omega⟩]; omega)
          subst hbe hke
          clear hq hk hbq hbk hx hlt hi
          go_upto_region 17 with fail
          refine wp_region_lit ?_
          refine wpList_valn rfl (exec_mv rfl (ev rfl)) ?_
          simp only [Act.put, List.setIfInBounds_toArray, List.set_cons_succ, List.set_cons_zero]
          refine wpList_valn rfl (exec_mv rfl (ev rfl)) ?_
          simp only [Act.put, List.setIfInBounds_toArray, List.set_cons_succ, List.set_cons_zero]
          refine wpList_valn rfl (exec_lenQ Try.underlying22 rfl (ev rfl)) ?_
          simp only [Act.put, List.setIfInBounds_toArray, List.set_cons_succ, List.set_cons_zero]
          refine wpList_valn (v := .bool true) rfl (exec_lss true rfl (ev rfl) (ev rfl) HT.out) ?_
          simp only [Act.put, List.setIfInBounds_toArray, List.set_cons_succ, List.set_cons_zero]
          refine wpList_nil ?_
          go_upto_region 19 with fail
          refine wp_region_above (B := wr.heap.size) (by kernel_rfl) ?_
          refine qv_val rfl (fun w' hw => exec_mv rfl (ev rfl)) ?_
          simp only [Act.put, List.setIfInBounds_toArray, List.set_cons_succ, List.set_cons_zero]
          refine qv_val rfl (fun w' hw => exec_mv rfl (ev rfl)) ?_
          simp only [Act.put, List.setIfInBounds_toArray, List.set_cons_succ, List.set_cons_zero]
          refine qv_val rfl (fun w' hw => exec_indexE (E := BoE) rfl (ev rfl) (ev rfl) HI.out) ?_
          simp only [Act.put, List.setIfInBounds_toArray, List.set_cons_succ, List.set_cons_zero]
          refine qv_val rfl (fun w' hw => exec_ld rfl (ev rfl) (ldBoE (HKC.out _ hw))) ?_
          simp only [Act.put, List.setIfInBounds_toArray, List.set_cons_succ, List.set_cons_zero]
          refine qv_val rfl (fun w' hw => exec_mv rfl (ev rfl)) ?_
          simp only [Act.put, List.setIfInBounds_toArray, List.set_cons_succ, List.set_cons_zero]
          refine qv_val rfl (fun w' hw => exec_mv rfl (ev rfl)) ?_
          simp only [Act.put, List.setIfInBounds_toArray, List.set_cons_succ, List.set_cons_zero]
          refine qv_val rfl (fun w' hw => exec_indexE (E := BoE) rfl (ev rfl) (ev rfl) HI.out) ?_
          simp only [Act.put, List.setIfInBounds_toArray, List.set_cons_succ, List.set_cons_zero]
          refine qv_val rfl (fun w' hw => exec_ld rfl (ev rfl) (ldBoE (HQC.out _ hw))) ?_
          simp only [Act.put, List.setIfInBounds_toArray, List.set_cons_succ, List.set_cons_zero]
          refine qv_val (v := .bool false) rfl (fun w' hw => exec_neBool false rfl (ev rfl) (ev rfl) (bne_self_eq_false x)) ?_
          simp only [Act.put, List.setIfInBounds_toArray, List.set_cons_succ, List.set_cons_zero]
          refine wpQuiet_nil ?_
          intro w3 hw
          have HP2n := Lib.hid (HP2.out.below hw)
          have HP3n := Lib.hid (HP3.out.below hw)
          have HMAn := Lib.hid (HMA.out.below hw)
          have HMBn := Lib.hid (HMB.out.below hw)
          have HU3 := Lib.hid (HU.out.to hw)
          clear hw
          go_upto_region 18 with fail
          refine wp_region_lit ?_
          refine wpList_valn rfl (exec_mv rfl (ev rfl)) ?_
          simp only [Act.put, List.setIfInBounds_toArray, List.set_cons_succ, List.set_cons_zero]
          refine wpList_valn rfl (exec_add rfl (ev rfl) evk HAJ.out) ?_
          simp only [Act.put, List.setIfInBounds_toArray, List.set_cons_succ, List.set_cons_zero]
          refine wpList_valn rfl (exec_as rfl (ev rfl)) ?_
          simp only [Act.put, List.setIfInBounds_toArray, List.set_cons_succ, List.set_cons_zero]
          refine wpList_nil ?_
          go_wp2_with fail
          go_roundw
          case rel => exact ⟨i + 1, by go_num, HI.out, HP2n.out, HP3n.out, HMAn.out, HMBn.out, HU3.out⟩
          case measure => have := HI.out; simp [intOf]; omega
        have hin : i = m := by omega
        have HT : Hid (decide ((i : Int) < (m : Int)) = false) := Lib.hid (decide_eq_false (by omega))
        clear hlt hi hin HW MA MB P2 P3
        have HW := HU
        have MA := HMA
        have MB := HMB
        have P2 := HP2
        have P3 := HP3
        clear HU HMA HMB HP2 HP3
        go_upto_region 17 with fail
        refine wp_region_lit ?_
        refine wpList_valn rfl (exec_mv rfl (ev rfl)) ?_
        simp only [Act.put, List.setIfInBounds_toArray, List.set_cons_succ, List.set_cons_zero]
        refine wpList_valn rfl (exec_mv rfl (ev rfl)) ?_
        simp only [Act.put, List.setIfInBounds_toArray, List.set_cons_succ, List.set_cons_zero]
        refine wpList_valn rfl (exec_lenQ Try.underlying22 rfl (ev rfl)) ?_
        simp only [Act.put, List.setIfInBounds_toArray, List.set_cons_succ, List.set_cons_zero]
        refine wpList_valn (v := .bool false) rfl (exec_lss false rfl (ev rfl) (ev rfl) HT.out) ?_
        simp only [Act.put, List.setIfInBounds_toArray, List.set_cons_succ, List.set_cons_zero]
        refine wpList_nil ?_
        go_upto_region 21 with fail
        refine wp_region_lit ?_
        refine wpList_valn rfl (exec_mv rfl (ev rfl)) ?_
        simp only [Act.put, List.setIfInBounds_toArray, List.set_cons_succ, List.set_cons_zero]
        refine wpList_valn rfl (exec_mv rfl (ev rfl)) ?_
        simp only [Act.put, List.setIfInBounds_toArray, List.set_cons_succ, List.set_cons_zero]
        refine wpList_valn (v := .bool true) rfl (exec_eqInt true rfl (ev rfl) (ev rfl) (beq_self_eq_true _)) ?_
        simp only [Act.put, List.setIfInBounds_toArray, List.set_cons_succ, List.set_cons_zero]
        refine wpList_valn (v := .bool true) rfl (exec_mv rfl (ev rfl)) ?_
        simp only [Act.put, List.setIfInBounds_toArray, List.set_cons_succ, List.set_cons_zero]
        refine wpList_val (wanted_of rfl rfl rfl rfl) (exec_mv rfl (ev rfl)) ?_
        simp only [Act.put, List.setIfInBounds_toArray, List.set_cons_succ, List.set_cons_zero]
        refine wpList_val (wanted_of rfl rfl rfl rfl) (exec_mv rfl (ev rfl)) ?_
        simp only [Act.put, List.setIfInBounds_toArray, List.set_cons_succ, List.set_cons_zero]
        refine wpList_val (v := .bool true) (wanted_of rfl rfl rfl rfl) (exec_eqInt true rfl (ev rfl) (ev rfl) (beq_self_eq_true _)) ?_
        simp only [Act.put, List.setIfInBounds_toArray, List.set_cons_succ, List.set_cons_zero]
        refine wpList_valn (v := .bool true) rfl (exec_pt rfl (ev rfl) (ev rfl)) ?_
        simp only [Act.put, List.setIfInBounds_toArray, List.set_cons_succ, List.set_cons_zero]
        refine wpList_valn (v := .bool true) rfl (exec_mv rfl (ev rfl)) ?_
        simp only [Act.put, List.setIfInBounds_toArray, List.set_cons_succ, List.set_cons_zero]
        refine wpList_val (wanted_of rfl rfl rfl rfl) (exec_loadPl rfl (ev rfl) P2.out) ?_
        simp only [Act.put, List.setIfInBounds_toArray, List.set_cons_succ, List.set_cons_zero]
        refine wpList_val (wanted_of rfl rfl rfl rfl) (exec_loadPl rfl (ev rfl) P3.out) ?_
        simp only [Act.put, List.setIfInBounds_toArray, List.set_cons_succ, List.set_cons_zero]
        refine wpList_call (wanted_of rfl rfl rfl rfl) (exec_cl Try.call10 rfl (evc (ev rfl) (evc (ev rfl) evn))) ?_
        refine (rsame_v wr (t := true) (decide_eq_true ⟨rfl, rfl⟩) P2.out.2 P3.out.2 (by have := HRL.out; omega)).mono ?_
        rintro e w41 ⟨rfl, hb⟩
        have HWn := Lib.hid (HW.out.to hb)
        clear HW
        have HW := HWn
        clear HWn
        have P2n := Lib.hid (P2.out.below hb)
        clear P2
        have P2 := P2n
        clear P2n
        have P3n := Lib.hid (P3.out.below hb)
        clear P3
        have P3 := P3n
        clear P3n
        clear hb
        refine ⟨_, rfl, ?_⟩
        simp only [Act.put, List.setIfInBounds_toArray, List.set_cons_succ, List.set_cons_zero]
        refine wpList_valn (v := .bool true) rfl (exec_pt rfl (ev rfl) (ev rfl)) ?_
        simp only [Act.put, List.setIfInBounds_toArray, List.set_cons_succ, List.set_cons_zero]
        refine wpList_valn (v := .bool true) rfl (exec_mv rfl (ev rfl)) ?_
        simp only [Act.put, List.setIfInBounds_toArray, List.set_cons_succ, List.set_cons_zero]
        refine wpList_call (wanted_of rfl rfl rfl rfl) (exec_cl Try.call11 rfl evn) ?_
        refine (nlives w41).mono ?_
        rintro e w42 ⟨rfl, hb⟩
        have HWn := Lib.hid (HW.out.to hb)
        clear HW
        have HW := HWn
        clear HWn
        have P2n := Lib.hid (P2.out.below hb)
        clear P2
        have P2 := P2n
        clear P2n
        have P3n := Lib.hid (P3.out.below hb)
        clear P3
        have P3 := P3n
        clear P3n
        clear hb
        refine ⟨_, rfl, ?_⟩
        simp only [Act.put, List.setIfInBounds_toArray, List.set_cons_succ, List.set_cons_zero]
        refine wpList_valn (v := .bool true) rfl (exec_pt rfl (ev rfl) (ev rfl)) ?_
        simp only [Act.put, List.setIfInBounds_toArray, List.set_cons_succ, List.set_cons_zero]
        refine wpList_valn (v := .bool true) rfl (exec_as rfl (ev rfl)) ?_
        simp only [Act.put, List.setIfInBounds_toArray, List.set_cons_succ, List.set_cons_zero]
        refine wpList_nil ?_
        go_wp2_with fail
        go_ret
        exact ⟨rfl, HW.out.1⟩
end Go.Proofs.Ytplanbjjfaihbaa
