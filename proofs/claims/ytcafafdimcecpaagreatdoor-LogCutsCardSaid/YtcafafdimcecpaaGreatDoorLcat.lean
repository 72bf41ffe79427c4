import Derived.Test.YtcafafdimcecpaaGreatDoorLcap
import Derived.Test.YtcafafdimcecpaaGreatDoorLcas
import Derived.Test.YtcafafdimcecpaaGreatDoorLcan
import Derived.Test.YtcafafdimcecpaaGreatDoorLcah
import Derived.Test.YtcafafdimcecpaaGreatDoorLcab
import Derived.Test.YtcafafdimcecpaaGreatDoorLcao
import Derived.Test.YtcafafdimcecpaaGreatDoorLcac
import Derived.Deep.DeepCutAuto
import Derived.Test.YtcafafdimcecpaaGreatDoorLcZ
namespace Go.Proofs.YtcafafdimcecpaaGreatDoor
open Go.RowKit
set_option linter.unusedVariables false
set_option linter.unusedSimpArgs false
set_option maxRecDepth 100000
theorem aA.slice_ {α : Type} {E : Elt α} {w : World} {B : Nat} {v : Value} {l : List α} (h : aA E w B v l) (hl : 0 < l.length) : ∃ g c, v = .slice (some ⟨g, 0, none⟩) l.length c ∧ B ≤ g ∧ g < w.heap.size ∧ l.length ≤ c ∧ c ≤ maxLen := by
  rcases h.2 with ⟨rfl, h0⟩ | ⟨g, cap, cur, rfl, hbg, hg, h1, h2, _⟩
  · omega
  · exact ⟨g, cap, rfl, hbg, aV hg, h1, h2⟩
section
variable {ρ : Operand → Value} {o : Oper} {x y : Operand} {w : World} {g j n c : Nat}
theorem exec_idxI (ho : o.op = .indexAddr 36 x y) (hx : ρ x = .slice (some ⟨g, 0, none⟩) n c) (hy : ρ y = .int .i64 (j : Int)) (hj : j < n) : (execOp ρ o).run Tryz.prog w = .ok (.value (.pointer (some ⟨g, j, none⟩))) w := by
  have := a8 (E := dq) (w := w) ho hx hy hj
  rwa [show 0 + j * dq.n = j from by show 0 + j * 1 = _; omega] at this
theorem exec_stI {a b : Int} (ho : o.op = .store 3 x y) (hx : ρ x = .pointer (some ⟨g, j, none⟩)) (hy : ρ y = .int .i64 a) (hc : w.cell? ⟨g, j, none⟩ = some (.int .i64 b)) (hf : w.frozen? ⟨g, j, none⟩ = false) : (execOp ρ o).run Tryz.prog w = .ok .skip (w.setCell ⟨g, j, none⟩ (.int .i64 a)) :=
  exec_st ho hx hy (by simp [go_sem, hc, hf])
end
theorem aA.cellI {w : World} {B g n c k : Nat} {l : List Int} (h : aA dq w B (.slice (some ⟨g, 0, none⟩) n c) l) (hk : k < n) : w.cell? ⟨g, k, none⟩ = some (.int .i64 (l.getD k 0)) ∧ w.frozen? ⟨g, k, none⟩ = false := by
  obtain ⟨b, off, e, _, hc⟩ := h.rd.int hk
  injection e with e
  injection e with e1 e2
  subst e1 e2
  rw [Nat.zero_add] at hc
  refine ⟨hc, ?_⟩
  rcases h.2 with ⟨hv, h0⟩ | ⟨g', cap, cur, hv, hbg, hg, _⟩
  · cases hv
  · injection hv with e1 e2 e3
    injection e1 with e1
    injection e1 with e1
    subst e1
    exact frozen_of_row w g k _ _ hg
theorem aA.setI {w : World} {B g n c k : Nat} {l : List Int} (h : aA dq w B (.slice (some ⟨g, 0, none⟩) n c) l) (hk : k < n) (a : Int) : aA dq (w.setCell ⟨g, k, none⟩ (.int .i64 a)) B (.slice (some ⟨g, 0, none⟩) n c) (l.set k a) := by
  have := h.store hk a
  rwa [show k * dq.n = k from by show k * 1 = _; omega] at this
def secM (r p t k : Nat) : List Int := (List.range t).map fun j => if j < k then bV r (p + j) else (((p + j) % r : Nat) : Int)
def secX (r p t : Nat) : List Int := (List.range t).map fun j => bV r (p + j)
theorem secM_len (r p t k : Nat) : (secM r p t k).length = t := by simp [secM]
theorem secX_len (r p t : Nat) : (secX r p t).length = t := by simp [secX]
theorem secM_0 (r p t : Nat) : secM r p t 0 = secL (r : Int) (p : Int) t := by
  apply List.ext_getElem
  · simp [secM, secL]
  · intro j h1 h2
    have := secL_at_ (r := r) (t := p) (n := t) (j := j) (by simpa [secM] using h1)
    rw [List.getD, List.getElem?_eq_getElem h2, Option.getD_some] at this
    rw [this]
    simp [secM]
theorem secM_all (r p t : Nat) : secM r p t t = secX r p t := by
  unfold secM secX
  exact List.map_congr_left fun j hj => if_pos (List.mem_range.1 hj)
theorem secM_at {r p t k : Nat} (hk : k < t) : (secM r p t k).getD k 0 = (((p + k) % r : Nat) : Int) := by
  unfold secM
  rw [List.getD, List.getElem?_map, List.getElem?_range hk]
  simp
theorem secM_set {r p t k : Nat} (hk : k < t) : (secM r p t k).set k (bV r (p + k)) = secM r p t (k + 1) := by
  apply List.ext_getElem
  · simp [secM]
  · intro j h1 h2
    rw [List.getElem_set]
    simp only [secM, List.getElem_map, List.getElem_range]
    by_cases e : k = j
    · subst e; rw [if_pos rfl, if_pos (by omega)]
    · rw [if_neg e]
      by_cases e2 : j < k
      · rw [if_pos e2, if_pos (by omega)]
      · rw [if_neg e2, if_neg (by omega)]
theorem secX_at {r p t k : Nat} (hk : k < t) : (secX r p t).getD k 0 = bV r (p + k) := by
  unfold secX
  rw [List.getD, List.getElem?_map, List.getElem?_range hk]
  rfl
section
variable {p q N : Nat} {v : Value} {x : LgS} {M : BenS}
set_option maxHeartbeats 1600000 in
theorem plsectors (w : World) (y : Nte) (h : PLg w p q v x) (hy : 1 ≤ y.cells ∧ y.cells ≤ 32) (hs : 40 ≤ x.size ∧ x.size ≤ 256) (hp : y.pos + bf y ≤ 4611686018427387904) : Calls Tryz.prog 126 #[.pointer (some ⟨p, 0, none⟩), nte y] w fun e w' => ∃ r, e = .returned (.tuple #[r, .int .i64 0]) ∧ aA dq w' w.heap.size r (secX x.size y.pos (bf y)) ∧ Below w.heap.size w w' := by
  have htk : 2 ≤ bf y ∧ bf y ≤ 34 := by unfold bf hd; omega
  have HZ := Lib.hid (sz_tak hy)
  have HLS := Lib.hid (lis_in (r := (x.size : Int)) (t := (y.pos : Int)) (n := bf y) (lis_iff.2 ⟨by omega, by omega, by omega, by omega, by omega, by omega⟩))
  have HSZ := Lib.hid hs
  have HTK := Lib.hid htk
  have HPB : Hid (y.pos ≤ 4611686018427387904) := Lib.hid (by omega)
  obtain ⟨k1, k2, k3⟩ := dr w y
  have HY := Lib.hid k1
  have HBW := Lib.hid k2
  have HLE := Lib.hid k3
  have HL := Lib.hid (h.below k2)
  clear h hy hs hp htk k1 k2 k3
  go_enter Tryz.func126, Tryz.ntmps126
  go_upto_region 1 with (first | (refine ag rfl (cI rfl rfl) ?_) | fail)
  generalize w.alloc (.cells (aS y).toArray 70) = w1 at *
  have hS : PLg w1.drew p q v x ∧ bT w1.drew w.heap.size y := ⟨HL.out.below (bd (Below.refl _ _)), HY.out.below HLE.out (bd (Below.refl _ _))⟩
  refine bx (fun w' => PLg w' p q v x ∧ bT w' w.heap.size y) 15 (by kernel_rfl) ?_
  change cm _ _ _ _ _ _ 16 _ _ w1.drew
  refine ap 0 rfl (by kernel_rfl) (by kernel_rfl) (by kernel_rfl) (by decide) (by kernel_rfl) rfl (fun w' hw => ah rfl (ev rfl)) (fun _ _ _ h => h) hS ?_
  simp only [Act.put, aa, ae, af]
  refine ap 1 rfl (by kernel_rfl) (by kernel_rfl) (by kernel_rfl) (by decide) (by kernel_rfl) rfl (fun w' hw => az rfl (ev rfl)) (fun _ _ _ h => h) hS ?_
  simp only [Act.put, aa, ae, af]
  refine ap 2 rfl (by kernel_rfl) (by kernel_rfl) (by kernel_rfl) (by decide) (by kernel_rfl) rfl (fun w' hw => ak rfl (ev rfl) dG) (fun _ _ _ h => h) hS ?_
  simp only [Act.put, aa, ae, af]
  refine ap 3 rfl (by kernel_rfl) (by kernel_rfl) (by kernel_rfl) (by decide) (by kernel_rfl) rfl (fun w' hw => ak rfl (ev rfl) faQm1) (fun _ _ _ h => h) hS ?_
  simp only [Act.put, aa, ae, af]
  refine ap 4 rfl (by kernel_rfl) (by kernel_rfl) (by kernel_rfl) (by decide) (by kernel_rfl) rfl (fun w' hw => av rfl (ev rfl) (bW (PLg.c4 hw.1))) (fun _ _ _ h => h) hS ?_
  simp only [Act.put, aa, ae, af]
  refine ap 5 rfl (by kernel_rfl) (by kernel_rfl) (by kernel_rfl) (by decide) (by kernel_rfl) rfl (fun w' hw => ak rfl (ev rfl) faNt1) (fun _ _ _ h => h) hS ?_
  simp only [Act.put, aa, ae, af]
  refine ap 6 rfl (by kernel_rfl) (by kernel_rfl) (by kernel_rfl) (by decide) (by kernel_rfl) rfl (fun w' hw => av rfl (ev rfl) (bR hw.2.cells.2.1)) (fun _ _ _ h => h) hS ?_
  simp only [Act.put, aa, ae, af]
  refine ap 7 rfl (by kernel_rfl) (by kernel_rfl) (by kernel_rfl) (by decide) (by kernel_rfl) rfl (fun w' hw => ak rfl (ev rfl) faNt2) (fun _ _ _ h => h) hS ?_
  simp only [Act.put, aa, ae, af]
  refine ap 8 rfl (by kernel_rfl) (by kernel_rfl) (by kernel_rfl) (by decide) (by kernel_rfl) rfl (fun w' hw => av rfl (ev rfl) (bW hw.2.cells.2.2.1)) (fun _ _ _ h => h) hS ?_
  simp only [Act.put, aa, ae, af]
  refine dd 9 rfl (by kernel_rfl) rfl (au Tryz.call115 rfl (evc (ev rfl) evn)) ?_
  refine (psz_v (k := bf y) HZ.out w1.drew).mono ?_
  rintro e w' ⟨rfl, rfl⟩
  refine ⟨_, rfl, fun _ => hS, ?_⟩
  simp only [Act.put, aa, ae, af]
  refine dd 10 rfl (by kernel_rfl) rfl (au Tryz.call171 rfl (evc (ev rfl) (evc (ev rfl) (evc (ev rfl) evn)))) ?_
  refine (plis (x.size : Int) (y.pos : Int) (bf y : Int) w1.heap.size w1.drew (Lib.hid rfl) (by omega) (by have := HPB.out; omega) (by omega) (by have := HTK.out.2; omega)).mono ?_
  rintro e w2 ⟨r, rfl, hm, hb⟩
  rw [HLS.out.1] at hm
  rw [HLS.out.2]
  have HB2 := Lib.hid (show Below w1.heap.size w1 w2 from (bd (Below.refl w1.heap.size w1)).trans hb)
  have hS2 : PLg w2 p q v x ∧ bT w2 w.heap.size y := ⟨HL.out.below HB2.out, HY.out.below HLE.out HB2.out⟩
  refine ⟨_, rfl, fun _ => hS2, ?_⟩
  simp only [Act.put, aa, ae, af]
  refine ap 11 rfl (by kernel_rfl) (by kernel_rfl) (by kernel_rfl) (by decide) (by kernel_rfl) rfl (fun w' hw => ah rfl (ev rfl)) (fun _ _ _ h => h) hS2 ?_
  simp only [Act.put, aa, ae, af]
  refine ap 12 rfl (by kernel_rfl) (by kernel_rfl) (by kernel_rfl) (by decide) (by kernel_rfl) rfl (fun w' hw => aC rfl (ev rfl) rfl) (fun _ _ _ h => h) hS2 ?_
  simp only [Act.put, aa, ae, af]
  refine ap 13 rfl (by kernel_rfl) (by kernel_rfl) (by kernel_rfl) (by decide) (by kernel_rfl) rfl (fun w' hw => aC rfl (ev rfl) rfl) (fun _ _ _ h => h) hS2 ?_
  simp only [Act.put, aa, ae, af]
  refine ap 14 rfl (by kernel_rfl) (by kernel_rfl) (by kernel_rfl) (by decide) (by kernel_rfl) rfl (fun w' hw => aq rfl (ev rfl)) (fun _ _ _ h => h) hS2 ?_
  simp only [Act.put, aa, ae, af]
  refine bl 15 rfl (by kernel_rfl) rfl (aq rfl (ev rfl)) (fun e => absurd rfl e) ?_
  simp only [Act.put, aa, ae, af]
  refine b8 (by kernel_rfl) ?_ _
  rw [← secM_0] at hm
  have hm2 := hm
  obtain ⟨g, c, rfl, hbg, hg, hc1, hc2⟩ := hm.slice_ (by rw [secM_len]; have := HTK.out.1; omega)
  rw [secM_len] at hm hc1 ⊢
  have HM := Lib.hid (hm.base (B' := w.heap.size) (by have := HLE.out; omega))
  have HGB : Hid (w1.heap.size ≤ g) := Lib.hid hbg
  have HBB := Lib.hid (HBW.out.trans (HB2.out.mono (by have := HLE.out; omega)))
  obtain ⟨t, ht⟩ : ∃ t, bf y = t := ⟨_, rfl⟩
  rw [ht] at HM HTK ⊢
  have HT := Lib.hid ht
  clear ht hm hm2 hS hS2 hb hbg hg hc1 hc2 HZ HLS HL HY
  go_wp2_with fail
  go_loopw [25] (fun i wr => ∃ k : Nat, k ≤ t ∧ i = .int .i64 k ∧ aA dq wr w.heap.size (.slice (some ⟨g, 0, none⟩) t c) (secM x.size y.pos t k) ∧ Below w.heap.size w wr) (fun i _ => t - (intOf i).toNat)
  case atStart => exact ⟨0, Nat.zero_le _, rfl, HM.out, HBB.out⟩
  case round =>
    clear HM HBB HB2
    obtain ⟨k, hk, rfl, hm, hb⟩ := hrel
    have ht34 := HTK.out.2
    by_cases hlt : k < t
    · obtain ⟨hc, hf⟩ := hm.cellI hlt
      rw [secM_at hlt] at hc
      have hmod : (y.pos + k) % x.size < 256 := by have := Nat.mod_lt (y.pos + k) (show 0 < x.size by have := HSZ.out.1; omega); have := HSZ.out.2; omega
      have HAD : Hid (IntKind.i64.wrap ((((y.pos + k) % x.size : Nat) : Int) + 10) = bV x.size (y.pos + k)) := Lib.hid (by unfold bV; rw [IntWalk.i64_in _ ⟨by omega, by omega⟩]; omega)
      have hm2 := hm.setI hlt (bV x.size (y.pos + k))
      rw [secM_set hlt] at hm2
      have HC := Lib.hid hc
      have HF := Lib.hid hf
      have HM2 := Lib.hid hm2
      have HB2 : Hid (Below w.heap.size w (wr.setCell ⟨g, k, none⟩ (.int .i64 (bV x.size (y.pos + k))))) := Lib.hid (below_setCells (o := k) hb (by have := HGB.out; have := HLE.out; omega) [_])
      clear hc hf hm hm2 hb hmod
      go_upto_region 5 with fail
      refine wp_region_lit ?_
      refine ag rfl (ah rfl (ev rfl)) ?_
      simp only [Act.put, aa, ae, af]
      refine ag rfl (ah rfl (ev rfl)) ?_
      simp only [Act.put, aa, ae, af]
      refine ag rfl (exec_idxI rfl (ev rfl) (ev rfl) hlt) ?_
      simp only [Act.put, aa, ae, af]
      refine ag rfl (av rfl (ev rfl) (bW HC.out)) ?_
      simp only [Act.put, aa, ae, af]
      refine ag rfl (fb rfl (ev rfl) evk HAD.out) ?_
      simp only [Act.put, aa, ae, af]
      refine ag rfl (exec_idxI rfl (ev rfl) (ev rfl) hlt) ?_
      simp only [Act.put, aa, ae, af]
      refine aB rfl (exec_stI rfl (ev rfl) (ev rfl) HC.out HF.out) ?_
      simp only [Act.put, aa, ae, af]
      refine wpList_nil ?_
      generalize wr.setCell ⟨g, k, none⟩ (.int .i64 (bV x.size (y.pos + k))) = wt at *
      go_wp2_with fail
      go_roundw
      case rel => exact ⟨k + 1, by omega, by go_num, HM2.out, HB2.out⟩
      case measure => simp [intOf]; omega
    · have hkt : k = t := by omega
      rw [hkt, secM_all] at hm
      rw [hkt]
      clear hkt hk hlt
      have HM := Lib.hid hm
      have HB := Lib.hid hb
      clear hm hb
      go_wp2_with fail
      go_ret2
      exact ⟨_, rfl, by rw [HT.out]; exact HM.out, HB.out⟩
end
theorem run_bldZB (w : World) : (Instr.build 65 #[]).run Tryz.prog w = .ok (blk al) w := by kernel_rfl
section
variable {K : Nat → Prop} {w w' : World} {p B : Nat} {s : Fv} {t : Stp} {v : Value} {l l' : List Fv} {ts : List Stp}
theorem StpAt.grow (h : StpAt K w p s t) (hm : aA FnE w B v l') (hg : w.grownBy w' v.ownBlock) : StpAt K w' p s t := by
  have key : ∀ {a : Nat} {cs : Array Value} {ty : TypeId}, w.heap[a]? = some (.cells cs ty (0, 0)) → FnE.t ≠ ty → w'.heap[a]? = some (.cells cs ty (0, 0)) := fun ha hne => (hg.block _ (aV ha) (fun e => hm.cq ha hne e.symm)).trans ha
  cases h with
  | fl => exact .fl
  | wr a b c n x ha hb hc ka kb kc => exact .wr a b c n x (key ha (by decide)) (key hb (by decide)) (key hc (by decide)) ka kb kc
  | mk a b c n m ha hb hc ka kb kc hn hf he => exact .mk a b c n m (key ha (by decide)) (key hb (by decide)) (key hc (by decide)) ka kb kc hn hf he
  | nt a b y ha hb ka kb hf he => exact .nt a b y (key ha (by decide)) (key hb (by decide)) ka kb hf he
theorem Stps.grow (hm : aA FnE w B v l') (hg : w.grownBy w' v.ownBlock) : ∀ {l : List Fv} {ts : List Stp}, Stps K w p l ts → Stps K w' p l ts
  | [], [], _ => trivial
  | _ :: _, _ :: _, h => ⟨h.1.grow hm hg, Stps.grow hm hg h.2⟩
structure Lay_ (B : Nat) (w0 w : World) (p : Nat) (v : Value) (ts : List Stp) : Prop where
  row : ∃ l, aA FnE w B v l ∧ Stps (Btw B w.heap.size) w p l ts
  bel : Below B w0 w
  le : B ≤ w0.heap.size
theorem Lay_.below {w0 : World} (h : Lay_ B w0 w p v ts) (hb : Below w.heap.size w w') : Lay_ B w0 w' p v ts := by
  obtain ⟨⟨l, h1, h2⟩, h3, h4⟩ := h
  exact ⟨⟨l, h1.below hb, h2.below (Nat.le_refl _) hb (Nat.le_refl _) hb.size⟩, h3.trans (hb.mono (Nat.le_trans h4 h3.size)), h4⟩
theorem Lay_.nil (w0 w : World) (hB : B ≤ w0.heap.size) (hb : Below B w0 w) : Lay_ B w0 w p (.slice none 0 0) [] := ⟨⟨[], aA.nil _ _, trivial⟩, hb, hB⟩
theorem Lay_.len {w0 : World} (h : Lay_ B w0 w p v ts) : ∃ l, aA FnE w B v l ∧ Stps (Btw B w.heap.size) w p l ts ∧ l.length = ts.length := by
  obtain ⟨⟨l, h1, h2⟩, _⟩ := h
  exact ⟨l, h1, h2, h2.len⟩
theorem fJ {w0 : World} {ops : Array Oper} {rest : List Oper} {o : Oper} {a : Act} {Q : Exit → Act → World → Prop} (hgd : o.guard = none) (x y : Operand)
    (ho : o.op = .call { callee := .builtin .append, args := #[x, y], argTypes := #[110, 110] }) (N m c : Nat) (A : Option Addr) {ls : List Fv} {ts' : List Stp} (hx : a.eval x = v) (hy : a.eval y = .slice A m c)
    (h : Lay_ B w0 w p v ts) (hs : Stps (Btw B w.heap.size) w p ls ts') (hr : RdE FnE w N A m ls) (hn : ts.length + m ≤ 1000000)
    (hk : ∀ v' w', Lay_ B w0 w' p v' (ts ++ ts') → w.grownBy w' v.ownBlock → wpList Tryz.prog ops Q rest (a.put o.dst v') w') : wpList Tryz.prog ops Q (o :: rest) a w := by
  obtain ⟨l, h1, h2, h3⟩ := h.len
  refine wpList_appE FnE hgd x y ho B N m c v l ls A hx hy h1 hr (Nat.le_trans h.le h.bel.size) (by omega) fun v' w' e1 e2 => hk v' w' ?_ e2
  obtain ⟨⟨l0, _, _⟩, h5, h6⟩ := h
  have hK : ∀ b, Btw B w.heap.size b → Btw B w'.heap.size b := fun b hb => ⟨hb.1, Nat.lt_of_lt_of_le hb.2 e2.size⟩
  exact ⟨⟨l ++ ls, e1, ((Stps.grow h1 e2 h2).append (Stps.grow h1 e2 hs)).keep_ (fun _ _ => rfl) hK⟩, h5.grown e2 (Nat.le_trans h6 h5.size) (fun k hk => h1.lt_own k hk), h6⟩
theorem rdF_new1 (w : World) (s : Fv) : RdE FnE (w.alloc (.cells (FnE.cel s).toArray 108)) (w.heap.size + 1) (some ⟨w.heap.size, 0, none⟩) 1 [s] := dZ (E := FnE) (l := [s]) w #[s.val] 108 rfl
theorem one_step (h : StpAt K w p s t) : Stps K w p [s] [t] := ⟨h, trivial⟩
end
set_option maxHeartbeats 1600000 in
theorem plblanking (w : World) (p : Nat) : Calls Tryz.prog 102 #[.pointer (some ⟨p, 0, none⟩)] w fun e w' => ∃ r, e = .returned r ∧ Lay_ w.heap.size w w' p r zerT := by
  have HB0 := Lib.hid (Below.refl w.heap.size w)
  go_enter Tryz.func102, Tryz.ntmps102
  go_wp2_with fail
  go_loopw [3, 5] (fun v i wr => ∃ k : Nat, k ≤ 10 ∧ i = .int .i64 k ∧ Lay_ w.heap.size w wr p v (zerT.take k)) (fun _ i _ => 10 - (intOf i).toNat)
  case atStart => exact ⟨0, Nat.zero_le _, rfl, Lay_.nil w w (Nat.le_refl _) HB0.out⟩
  case round =>
    obtain ⟨k, hk, rfl, hl⟩ := hrel
    by_cases hlt : k < 10
    · have HL := Lib.hid hl
      have HTK := Lib.hid (zer_take hlt)
      clear hl
      go_upto_region 5 with fail
      refine wp_region_lit ?_
      refine ag rfl (ah rfl (ev rfl)) ?_
      simp only [Act.put, aa, ae, af]
      refine ag rfl (ah rfl (ev rfl)) ?_
      simp only [Act.put, aa, ae, af]
      refine ag rfl (ah rfl (ev rfl)) ?_
      simp only [Act.put, aa, ae, af]
      refine ag rfl (exec_bld0 rfl (run_bldZB _)) ?_
      simp only [Act.put, aa, ae, af]
      refine ao rfl (au Tryz.call127 rfl (evc (ev rfl) (evc (ev rfl) (evc (ev rfl) evn)))) ?_
      refine (pwriting (k : Int) al).mono ?_
      rintro e w2 ⟨s, rfl, hs, hb⟩
      have HL2 := Lib.hid (HL.out.below hb)
      have HS2 := Lib.hid (hs.below (B' := w.heap.size) (C' := w2.heap.size) (Nat.le_refl _) (Below.refl _ _) HL.out.bel.size (Nat.le_refl _))
      clear hs hb
      refine ⟨_, rfl, ?_⟩
      simp only [Act.put, aa, ae, af]
      refine ag rfl (dc (E := FnE) (a := s) rfl (ev rfl) rfl (by show 1 ≤ _; omega)) ?_
      simp only [Act.put, aa, ae, af]
      have HL3 := Lib.hid (HL2.out.below ((Below.refl w2.heap.size w2).alloc (Nat.le_refl _) (.cells (FnE.cel s).toArray 108)))
      have HS3 := Lib.hid (one_step (HS2.out.below (Nat.le_refl _) ((Below.refl w2.heap.size w2).alloc (Nat.le_refl _) (.cells (FnE.cel s).toArray 108)) (Nat.le_refl _) ((Below.refl w2.heap.size w2).alloc (Nat.le_refl _) (.cells (FnE.cel s).toArray 108)).size))
      change wpList _ _ _ _ _ (w2.alloc (.cells (FnE.cel s).toArray 108))
      refine fJ rfl _ _ rfl (w2.heap.size + 1) 1 1 (some ⟨w2.heap.size, 0, none⟩) rfl rfl HL3.out HS3.out (rdF_new1 w2 s) (by rw [List.length_take]; omega) ?_
      intro v' w4 hl4 hg4
      simp only [Act.put, aa, ae, af]
      refine ag rfl (aq rfl (ev rfl)) ?_
      simp only [Act.put, aa, ae, af]
      refine wpList_nil ?_
      rw [← HTK.out] at hl4
      have HL4 := Lib.hid hl4
      clear hl4 hg4
      go_wp2_with fail
      go_roundw
      case rel => exact ⟨k + 1, by omega, by go_num, HL4.out⟩
      case measure => simp [intOf]; omega
    · have hkt : k = 10 := by omega
      subst hkt
      have HL := Lib.hid hl
      clear hl
      go_wp2_with fail
      go_ret
      exact ⟨_, rfl, HL.out⟩
theorem recT_len (r p : Nat) (l : List Blk) : (recT r p l).length = l.length := by simp [recT]
theorem recT_take {r p k : Nat} {l : List Blk} (h : k < l.length) : (recT r p l).take (k + 1) = (recT r p l).take k ++ [.wr (bV r (p + k)) (l.getD k al)] := by
  rw [List.take_add_one]
  congr 1
  unfold recT
  rw [List.getElem?_map, List.getElem?_range h]
  rfl
theorem recT_all {r p : Nat} {l : List Blk} : (recT r p l).take l.length = recT r p l := List.take_of_length_le (by rw [recT_len]; exact Nat.le_refl _)
set_option maxHeartbeats 1600000 in
theorem pllaying {p q : Nat} {v : Value} {x : LgS} (w : World) (y : Nte) (A : Option Addr) (n c N0 : Nat) (R : List Blk) (h : PLg w p q v x) (hy : 1 ≤ y.cells ∧ y.cells ≤ 32) (hs : 40 ≤ x.size ∧ x.size ≤ 256) (hp : y.pos + bf y ≤ 4611686018427387904) (hR : RdB w N0 A n R) (hN0 : N0 ≤ w.heap.size) (hn : bf y = n) : Calls Tryz.prog 67 #[.pointer (some ⟨p, 0, none⟩), nte y, .slice A n c] w fun e w' => ∃ r, e = .returned r ∧ Lay_ w.heap.size w w' p r (recT x.size y.pos R) := by
  have htk : 2 ≤ bf y ∧ bf y ≤ 34 := by unfold bf hd; omega
  have HN : Hid (2 ≤ n ∧ n ≤ 34) := Lib.hid (by omega)
  have HRL : Hid (R.length = n) := Lib.hid hR.1
  have HNT := Lib.hid hn
  have HRR := Lib.hid hR
  have HN0 := Lib.hid hN0
  have HLE0 := Lib.hid (Nat.le_refl w.heap.size)
  obtain ⟨k1, k2, k3⟩ := dr w y
  have HY := Lib.hid k1
  have HBW := Lib.hid k2
  have HLE := Lib.hid k3
  have HC := Lib.hid (plsectors (w.alloc (.cells (aS y).toArray 70)) y (h.below k2) hy hs hp)
  clear h hy hs hp htk k1 k2 k3 hR hn hN0
  go_enter Tryz.func67, Tryz.ntmps67
  go_upto_region 1 with (first | (refine ag rfl (cI rfl rfl) ?_) | fail)
  generalize w.alloc (.cells (aS y).toArray 70) = w1 at *
  refine wp_region_lit ?_
  refine ag rfl (ah rfl (ev rfl)) ?_
  simp only [Act.put, aa, ae, af]
  refine ag rfl (aZ (c := y) rfl (ev rfl) HY.out.range) ?_
  simp only [Act.put, aa, ae, af]
  refine ao rfl (au Tryz.call126 rfl (evc (ev rfl) (evc (ev rfl) evn))) ?_
  refine HC.out.mono ?_
  rintro e w2 ⟨r, rfl, hm, hb⟩
  rw [HNT.out] at hm
  refine ⟨_, rfl, ?_⟩
  simp only [Act.put, aa, ae, af]
  refine ag rfl (ah rfl (ev rfl)) ?_
  simp only [Act.put, aa, ae, af]
  refine ag rfl (aC rfl (ev rfl) rfl) ?_
  simp only [Act.put, aa, ae, af]
  refine ag rfl (aC rfl (ev rfl) rfl) ?_
  simp only [Act.put, aa, ae, af]
  refine ag rfl (aq rfl (ev rfl)) ?_
  simp only [Act.put, aa, ae, af]
  refine ag rfl (aq rfl (ev rfl)) ?_
  simp only [Act.put, aa, ae, af]
  refine wpList_nil ?_
  obtain ⟨g, c1, rfl, hbg, hg, hc1, hc2⟩ := hm.slice_ (by rw [secX_len]; have := HN.out.1; omega)
  rw [secX_len] at hm hc1 ⊢
  have HM := Lib.hid (hm.base (B' := w.heap.size) (by have := HLE.out; omega))
  have HBB := Lib.hid (HBW.out.trans (hb.mono (by have := HLE.out; omega)))
  clear hm hb hbg hg hc1 hc2 HC HY HBW
  go_wp2_with fail
  go_loopw [9, 20] (fun v i wr => ∃ k : Nat, k ≤ n ∧ i = .int .i64 k ∧ Lay_ w.heap.size w wr p v ((recT x.size y.pos R).take k) ∧ aA dq wr w.heap.size (.slice (some ⟨g, 0, none⟩) n c1) (secX x.size y.pos n)) (fun _ i _ => n - (intOf i).toNat)
  case atStart => exact ⟨0, Nat.zero_le _, rfl, Lay_.nil w _ HLE0.out HBB.out, HM.out⟩
  case round =>
    clear HM HBB
    obtain ⟨k, hk, rfl, hl, hm⟩ := hrel
    have hn34 := HN.out.2
    by_cases hlt : k < n
    · obtain ⟨hc, _⟩ := hm.cellI hlt
      rw [secX_at hlt] at hc
      obtain ⟨gb, off, hA, hgb, hrg⟩ := ((HRR.out.more HN0.out).below hl.bel).2 k hlt
      subst hA
      have HIX := Lib.hid hc
      have HRG := Lib.hid hrg
      have HL := Lib.hid hl
      have HM := Lib.hid hm
      have HTK := Lib.hid (recT_take (r := x.size) (p := y.pos) (l := R) (k := k) (by rw [HRL.out]; exact hlt))
      clear hl hm hc hgb hrg
      go_upto_region 5 with fail
      refine wp_region_lit ?_
      refine ag rfl (ah rfl (ev rfl)) ?_
      simp only [Act.put, aa, ae, af]
      refine ag rfl (exec_idxI rfl (ev rfl) (ev rfl) hlt) ?_
      simp only [Act.put, aa, ae, af]
      refine ag rfl (av rfl (ev rfl) (bW HIX.out)) ?_
      simp only [Act.put, aa, ae, af]
      refine ag rfl (aq rfl (ev rfl)) ?_
      simp only [Act.put, aa, ae, af]
      refine ag rfl (aq rfl (ev rfl)) ?_
      simp only [Act.put, aa, ae, af]
      refine wpList_nil ?_
      go_upto_region 6 with fail
      refine wp_region_lit ?_
      refine ag rfl (ah rfl (ev rfl)) ?_
      simp only [Act.put, aa, ae, af]
      refine ag rfl (ah rfl (ev rfl)) ?_
      simp only [Act.put, aa, ae, af]
      refine ag rfl (ah rfl (ev rfl)) ?_
      simp only [Act.put, aa, ae, af]
      refine ag rfl (ah rfl (ev rfl)) ?_
      simp only [Act.put, aa, ae, af]
      refine ag rfl (ah rfl (ev rfl)) ?_
      simp only [Act.put, aa, ae, af]
      refine ag rfl (dz rfl (ev rfl) (ev rfl) hlt) ?_
      simp only [Act.put, aa, ae, af]
      refine ag rfl (aJ (c := R.getD k al) rfl (ev rfl) HRG.out) ?_
      simp only [Act.put, aa, ae, af]
      refine ao rfl (au Tryz.call127 rfl (evc (ev rfl) (evc (ev rfl) (evc (ev rfl) evn)))) ?_
      refine (pwriting (bV x.size (y.pos + k)) (R.getD k al)).mono ?_
      rintro e w2 ⟨s, rfl, hs, hb⟩
      have HL2 := Lib.hid (HL.out.below hb)
      have HM2 := Lib.hid (HM.out.below hb)
      have HS2 := Lib.hid (hs.below (B' := w.heap.size) (C' := w2.heap.size) (Nat.le_refl _) (Below.refl _ _) HL.out.bel.size (Nat.le_refl _))
      clear hs hb
      refine ⟨_, rfl, ?_⟩
      simp only [Act.put, aa, ae, af]
      refine ag rfl (dc (E := FnE) (a := s) rfl (ev rfl) rfl (by show 1 ≤ _; omega)) ?_
      simp only [Act.put, aa, ae, af]
      have HL3 := Lib.hid (HL2.out.below ((Below.refl w2.heap.size w2).alloc (Nat.le_refl _) (.cells (FnE.cel s).toArray 108)))
      have HM3 := Lib.hid (HM2.out.below ((Below.refl w2.heap.size w2).alloc (Nat.le_refl _) (.cells (FnE.cel s).toArray 108)))
      have HS3 := Lib.hid (one_step (HS2.out.below (Nat.le_refl _) ((Below.refl w2.heap.size w2).alloc (Nat.le_refl _) (.cells (FnE.cel s).toArray 108)) (Nat.le_refl _) ((Below.refl w2.heap.size w2).alloc (Nat.le_refl _) (.cells (FnE.cel s).toArray 108)).size))
      change wpList _ _ _ _ _ (w2.alloc (.cells (FnE.cel s).toArray 108))
      refine fJ rfl _ _ rfl (w2.heap.size + 1) 1 1 (some ⟨w2.heap.size, 0, none⟩) rfl rfl HL3.out HS3.out (rdF_new1 w2 s) (by rw [List.length_take]; omega) ?_
      intro v' w4 hl4 hg4
      simp only [Act.put, aa, ae, af]
      refine ag rfl (aq rfl (ev rfl)) ?_
      simp only [Act.put, aa, ae, af]
      refine wpList_nil ?_
      rw [← HTK.out] at hl4
      have HL4 := Lib.hid hl4
      obtain ⟨l3, hl31, _⟩ := HL3.out.len
      have HM4 := Lib.hid (HM3.out.kept hg4 (HM3.out.other hl31 (by decide)))
      clear hl4 hg4 hl31
      go_wp2_with fail
      go_roundw
      case rel => exact ⟨k + 1, by omega, by go_num, HL4.out, HM4.out⟩
      case measure => simp [intOf]; omega
    · have hkt : k = n := by omega
      rw [hkt, ← HRL.out, recT_all] at hl
      have HL := Lib.hid hl
      clear hl hm
      go_wp2_with fail
      go_ret
      exact ⟨_, rfl, HL.out⟩
section
variable {α : Type} {E : Elt α} {w : World} {b n c t u : Nat}
theorem run_cutEH (h : t ≤ c) : (Instr.sliceAt E.s (.slice (some ⟨b, 0, none⟩) n c) none (some (.int .i64 (t : Int))) none).run Tryz.prog w = .ok (.slice (some ⟨b, 0, none⟩) t c) w := by
  have hs := eh E w
  simp [Instr.sliceAt, Instr.slice, Instr.sliceBounds, Instr.sliceBound, asIntOf, run_underlying E.und, hs, add_mid]
  intro hh; omega
theorem run_cutET (h : t ≤ n) (hn : n ≤ c) : (Instr.sliceAt E.s (.slice (some ⟨b, 0, none⟩) n c) (some (.int .i64 (t : Int))) none none).run Tryz.prog w = .ok (.slice (some ⟨b, if c = t then 0 else t * E.n, none⟩) (n - t) (c - t)) w := by
  have hs := eh E w
  have e1 : (0 ≤ (t : Int) ∧ (t : Int) ≤ (n : Int)) := by omega
  simp [Instr.sliceAt, Instr.slice, Instr.sliceBounds, Instr.sliceBound, asIntOf, run_underlying E.und, hs, add_mid, e1, h]
  by_cases hct : c = t
  · rw [if_pos hct, if_pos hct]
  · rw [if_neg hct, if_neg hct]
theorem run_cutEM (h1 : u < t) (h : t ≤ c) : (Instr.sliceAt E.s (.slice (some ⟨b, 0, none⟩) n c) (some (.int .i64 (u : Int))) (some (.int .i64 (t : Int))) none).run Tryz.prog w = .ok (.slice (some ⟨b, u * E.n, none⟩) (t - u) (c - u)) w := by
  have hs := eh E w
  have e1 : (0 ≤ (t : Int) ∧ (t : Int) ≤ (c : Int)) := by omega
  have e2 : (0 ≤ (u : Int) ∧ (u : Int) ≤ (t : Int)) := by omega
  have e3 : c ≠ u := by omega
  simp [Instr.sliceAt, Instr.slice, Instr.sliceBounds, Instr.sliceBound, asIntOf, run_underlying E.und, hs, add_mid, e1, e2, e3, h, Nat.le_of_lt h1]
theorem run_cutE3 (h1 : t ≤ n) (h : n ≤ c) : (Instr.sliceAt E.s (.slice (some ⟨b, 0, none⟩) n c) (some (.int .i64 0)) (some (.int .i64 (t : Int))) (some (.int .i64 (n : Int)))).run Tryz.prog w = .ok (.slice (some ⟨b, 0, none⟩) t n) w := by
  have hs := eh E w
  have e1 : (0 ≤ (n : Int) ∧ (n : Int) ≤ (c : Int)) := by omega
  have e2 : (0 ≤ (t : Int) ∧ (t : Int) ≤ (n : Int)) := by omega
  simp [Instr.sliceAt, Instr.slice, Instr.sliceBounds, Instr.sliceBound, asIntOf, run_underlying E.und, hs, add_mid, e1, e2, h, h1]
end
section
variable {ρ : Operand → Value} {o : Oper} {x y z u : Operand} {w : World} {p q a b c : Value} {t : TypeId}
theorem exec_sl1 (ho : o.op = .slice t x none (some y) none) (hx : ρ x = p) (hy : ρ y = a) (h : (Instr.sliceAt t p none (some a) none).run Tryz.prog w = .ok q w) : (execOp ρ o).run Tryz.prog w = .ok (.value q) w := by
  unfold execOp
  simp only [ho, hx, hy, Option.map_some, Option.map_none, Sem.run_bind, h, Result.andThen_ok, Sem.run_pure]
theorem exec_sl2 (ho : o.op = .slice t x (some y) none none) (hx : ρ x = p) (hy : ρ y = a) (h : (Instr.sliceAt t p (some a) none none).run Tryz.prog w = .ok q w) : (execOp ρ o).run Tryz.prog w = .ok (.value q) w := by
  unfold execOp
  simp only [ho, hx, hy, Option.map_some, Option.map_none, Sem.run_bind, h, Result.andThen_ok, Sem.run_pure]
theorem exec_sl3 (ho : o.op = .slice t x (some y) (some z) none) (hx : ρ x = p) (hy : ρ y = a) (hz : ρ z = b) (h : (Instr.sliceAt t p (some a) (some b) none).run Tryz.prog w = .ok q w) : (execOp ρ o).run Tryz.prog w = .ok (.value q) w := by
  unfold execOp
  simp only [ho, hx, hy, hz, Option.map_some, Option.map_none, Sem.run_bind, h, Result.andThen_ok, Sem.run_pure]
theorem exec_sl4 (ho : o.op = .slice t x (some y) (some z) (some u)) (hx : ρ x = p) (hy : ρ y = a) (hz : ρ z = b) (hu : ρ u = c) (h : (Instr.sliceAt t p (some a) (some b) (some c)).run Tryz.prog w = .ok q w) : (execOp ρ o).run Tryz.prog w = .ok (.value q) w := by
  unfold execOp
  simp only [ho, hx, hy, hz, hu, Option.map_some, Option.map_none, Sem.run_bind, h, Result.andThen_ok, Sem.run_pure]
theorem exec_clear {ac : Act} {w' : World} {v : Value} (ho : o.op = .call { callee := .builtin .clear, args := #[x], argTypes := #[t] }) (hx : ac.eval x = v) (hrun : (Builtin.clear_ #[t] o.type #[v]).run Tryz.prog w = .ok (.tuple #[]) w') : (execOp ac.eval o).run Tryz.prog w = .ok (.value (.tuple #[])) w' := by
  simp [execOp, ho, resolve, invoke, builtin, hx, hrun, Result.andThen]
end
def zerE {α : Type} (E : Elt α) (k : Nat) : List Value := (Builtin.zeroCells E.z.cells k).toList
theorem zerE_len {α : Type} (E : Elt α) (k : Nat) : (zerE E k).length = k * E.n := by simp [zerE, Builtin.zeroCells, E.zc]
theorem zerE_one {α : Type} (E : Elt α) (k : Nat) (h : ∀ u ∈ E.z.cells, u.oneCell' = true) : ∀ u ∈ zerE E k, u.oneCell' = true := by
  intro u hu
  have hp := E.pos
  have hz := E.zc
  simp only [zerE, Builtin.zeroCells, Array.toList_map, List.mem_map, Array.toList_range] at hu
  obtain ⟨i, _, rfl⟩ := hu
  have hlt : i % E.z.cells.size < E.z.cells.size := Nat.mod_lt _ (by omega)
  rw [getElem!_pos E.z.cells (i % E.z.cells.size) hlt]
  exact h _ (Array.getElem_mem hlt)
theorem run_clearE {α : Type} (E : Elt α) (h1 : ∀ u ∈ E.z.cells, u.oneCell' = true) (w : World) (ty b off k c : Nat) (hk : 0 < k) (hc : ∀ j, j < k * E.n → (w.cell? ⟨b, off + j, none⟩).isSome = true) (hf : ∀ j, j < k * E.n → w.frozen? ⟨b, off + j, none⟩ = false) :
    (Builtin.clear_ #[E.s] ty #[.slice (some ⟨b, off, none⟩) k c]).run Tryz.prog w = .ok (.tuple #[]) (w.setCells b off (zerE E k)) := by
  have hst := run_storeCells_cells (P := Tryz.prog) b off (zerE E k) 0 w (by simpa [zerE_len] using hc) (by simpa [zerE_len] using hf) (zerE_one E k h1)
  simp only [Nat.add_zero] at hst
  obtain ⟨m, rfl⟩ : ∃ m, k = m + 1 := ⟨k - 1, by omega⟩
  have hz := run_zeroE E w
  unfold zerE at hst ⊢
  simp [Builtin.clear_, run_underlying E.und, hz, hst]
theorem run_cutE3n {w : World} : (Instr.sliceAt 86 (.slice none 0 0) (some (.int .i64 0)) (some (.int .i64 0)) (some (.int .i64 0))).run Tryz.prog w = .ok (.slice none 0 0) w := by
  have hs := eh aW w
  have hu : Tryz.prog.underlying 86 = some (.slice 70) := Tryz.underlying86
  have hs' : (sizeOf 70).run Tryz.prog w = .ok 4 w := hs
  simp [Instr.sliceAt, Instr.slice, Instr.sliceBounds, Instr.sliceBound, asIntOf, run_underlying hu, hs']
section
variable {w : World} {B : Nat} {v : Value} {l : List Nte}
theorem pdel_0n (hm : aA aW w B (.slice none 0 0) []) : Calls Tryz.prog 62 #[.slice none 0 0, .int .i64 0, .int .i64 0] w fun e w' => e = .returned (.slice none 0 0) ∧ w = w' := by
  clear hm
  go_enter Tryz.func62, Tryz.ntmps62
  go_upto_region 1 with fail
  refine wp_region_lit ?_
  refine ag rfl (ah rfl (ev rfl)) ?_
  simp only [Act.put, aa, ae, af]
  refine ag rfl (ah rfl (ev rfl)) ?_
  simp only [Act.put, aa, ae, af]
  refine ag rfl (ah rfl (ev rfl)) ?_
  simp only [Act.put, aa, ae, af]
  refine ag rfl (ah rfl (ev rfl)) ?_
  simp only [Act.put, aa, ae, af]
  refine ag rfl (bQ Tryz.underlying86 rfl (ev rfl)) ?_
  simp only [Act.put, aa, ae, af]
  refine ag rfl (exec_sl4 rfl (ev rfl) (ev rfl) (ev rfl) (ev rfl) run_cutE3n) ?_
  simp only [Act.put, aa, ae, af]
  refine wpList_nil ?_
  go_wp2_with fail
  go_ret
  exact ⟨rfl, rfl⟩
theorem pdel_0s {g n c : Nat} (h : n ≤ c) : Calls Tryz.prog 62 #[.slice (some ⟨g, 0, none⟩) n c, .int .i64 0, .int .i64 0] w fun e w' => e = .returned (.slice (some ⟨g, 0, none⟩) n c) ∧ w = w' := by
  go_enter Tryz.func62, Tryz.ntmps62
  go_upto_region 1 with fail
  refine wp_region_lit ?_
  refine ag rfl (ah rfl (ev rfl)) ?_
  simp only [Act.put, aa, ae, af]
  refine ag rfl (ah rfl (ev rfl)) ?_
  simp only [Act.put, aa, ae, af]
  refine ag rfl (ah rfl (ev rfl)) ?_
  simp only [Act.put, aa, ae, af]
  refine ag rfl (ah rfl (ev rfl)) ?_
  simp only [Act.put, aa, ae, af]
  refine ag rfl (bQ Tryz.underlying86 rfl (ev rfl)) ?_
  simp only [Act.put, aa, ae, af]
  refine ag rfl (exec_sl4 rfl (ev rfl) (ev rfl) (ev rfl) (ev rfl) (run_cutE3 (E := aW) (t := 0) (by omega) h)) ?_
  simp only [Act.put, aa, ae, af]
  refine wpList_nil ?_
  go_wp2_with fail
  go_ret
  exact ⟨rfl, rfl⟩
theorem del_row {g n c k : Nat} {cur : Array Value} (hl : l.length = n) (hk : k ≤ n) (hB : B ≤ g) (hg : w.heap[g]? = some (.cells cur aW.t (0, 0))) (hnc : n ≤ c) (hcm : c ≤ maxLen) (hcs : cur.size = c * aW.n) (ht : cur.toList.take (n * aW.n) = bj aW l) :
    let w2 := w.setRow g (bj aW (l.drop k) ++ cur.toList.drop ((n - k) * aW.n)).toArray
    (∀ j, j < k * aW.n → (w2.cell? ⟨g, (n - k) * aW.n + j, none⟩).isSome = true) ∧ (∀ j, j < k * aW.n → w2.frozen? ⟨g, (n - k) * aW.n + j, none⟩ = false) ∧
      aA aW (w2.setCells g ((n - k) * aW.n) (zerE aW k)) B (.slice (some ⟨g, 0, none⟩) (n - k) c) (l.drop k) ∧ Only (fun b => b = g) w (w2.setCells g ((n - k) * aW.n) (zerE aW k)) := by
  intro w2
  have hfl : (bj aW (l.drop k)).length = (n - k) * aW.n := by rw [bw, List.length_drop, hl]
  have hcl : cur.toList.length = c * aW.n := by simpa using hcs
  have hp := aW.pos
  have hmul : (n - k) * aW.n + k * aW.n = n * aW.n := by rw [← Nat.add_mul]; congr 1; omega
  have hle : n * aW.n ≤ c * aW.n := Nat.mul_le_mul_right _ hnc
  have h2 : w2.heap[g]? = some (.cells (bj aW (l.drop k) ++ cur.toList.drop ((n - k) * aW.n)).toArray aW.t (0, 0)) := setRow_heap w g cur _ _ _ hg
  have h3 : (bj aW (l.drop k) ++ cur.toList.drop ((n - k) * aW.n)).length = c * aW.n := by rw [List.length_append, hfl, List.length_drop, hcl]; omega
  have hcell : ∀ j, j < c * aW.n → (w2.cell? ⟨g, j, none⟩).isSome = true := fun j hj => by
    rw [cell_of_row w2 g j _ _ _ h2, List.getElem?_toArray, List.getElem?_eq_getElem (by rw [h3]; exact hj)]
    rfl
  refine ⟨fun j hj => hcell _ (by omega), fun j hj => frozen_of_row w2 g _ _ _ h2, ?_, ?_⟩
  · have hsp : bj aW (l.drop k) ++ cur.toList.drop ((n - k) * aW.n) = bj aW (l.drop k) ++ (cur.toList.drop ((n - k) * aW.n)).take (k * aW.n) ++ (cur.toList.drop ((n - k) * aW.n)).drop (k * aW.n) := by
      rw [List.append_assoc, List.take_append_drop]
    rw [hsp] at h2
    have hmid : ((cur.toList.drop ((n - k) * aW.n)).take (k * aW.n)).length = (zerE aW k).length := by rw [zerE_len, List.length_take, List.length_drop, hcl]; omega
    have h4 := heap_put g aW.t _ (zerE aW k) _ (bj aW (l.drop k)) w2 hmid h2
    rw [hfl, List.append_assoc] at h4
    refine aA.of_parts (by rw [List.length_drop, hl]) hB h4 (by omega) hcm ?_
    rw [List.length_append, List.length_append, hfl, zerE_len, List.length_drop, List.length_drop, hcl]
    omega
  · obtain ⟨e1, e2, e3, e4⟩ := eO g (zerE aW k) ((n - k) * aW.n) w2
    refine ⟨e2, e3, e4, by rw [e1]; exact Nat.le_of_eq (size_setRow w g _).symm, fun b hb hne => ?_⟩
    rw [dO g (zerE aW k) _ w2 b hne]
    exact setRow_other w g b _ hne
theorem nteZ_one : ∀ u ∈ aW.z.cells, u.oneCell' = true := by
  intro u hu
  have : u ∈ aS aG := by
    have e : aW.z.cells = (aS aG).toArray := rfl
    rw [e] at hu
    simpa using hu
  exact celNt_one aG u this
set_option maxHeartbeats 1600000 in
theorem pdel_s {g n c k : Nat} (hm : aA aW w B (.slice (some ⟨g, 0, none⟩) n c) l) (hk : k ≤ n) (h0 : 0 < k) (h8 : n ≤ 1000) : Calls Tryz.prog 62 #[.slice (some ⟨g, 0, none⟩) n c, .int .i64 0, .int .i64 (k : Int)] w fun e w' => ∃ v', e = .returned v' ∧ aA aW w' B v' (l.drop k) ∧ (∀ b, v'.ownBlock = some b → b = g) ∧ Only (fun b => b = g) w w' := by
  obtain ⟨cur, hl, hB, hg, hnc, hcm, hcs, ht⟩ : ∃ cur : Array Value, l.length = n ∧ B ≤ g ∧ w.heap[g]? = some (.cells cur aW.t (0, 0)) ∧ n ≤ c ∧ c ≤ maxLen ∧ cur.size = c * aW.n ∧ cur.toList.take (n * aW.n) = bj aW l := by
    rcases hm.2 with ⟨hv, _⟩ | ⟨g', cap, cur, hv, hbg, hg, h1, h2, h3, ht⟩
    · cases hv
    · injection hv with e1 e2 e3
      injection e1 with e1
      injection e1 with e1
      subst e1 e2 e3
      exact ⟨cur, rfl, hbg, hg, h1, h2, h3, ht⟩
  have hrd := hm.rd
  obtain ⟨i0, hi, hz0, hz1, hz2⟩ := info_parts aW.info
  have hcl : cur.toList.length = c * aW.n := by simpa using hcs
  have hmul : (n - k) * aW.n + k * aW.n = n * aW.n := by rw [← Nat.add_mul]; congr 1; omega
  have hle : n * aW.n ≤ c * aW.n := Nat.mul_le_mul_right _ hnc
  have hfl : (bj aW (l.drop k)).length = (n - k) * aW.n := by rw [bw, List.length_drop, hl]
  have hsrc : ∀ j u, (bj aW (l.drop k))[j]? = some u → w.drew.cell? ((⟨g, if c = k then 0 else k * aW.n, none⟩ : Addr).add j) = some u := fun j u hj => by
    have hjl : j < (n - k) * aW.n := by have := (List.getElem?_eq_some_iff.1 hj).1; rwa [hfl] at this
    have hck : c ≠ k := by
      rintro rfl
      have : n - c = 0 := by omega
      rw [this] at hjl
      omega
    rw [if_neg hck, add_mid]
    show w.cell? _ = _
    have hd : bj aW l = bj aW (l.take k) ++ bj aW (l.drop k) := by rw [← ft, List.take_append_drop]
    have hlt : (bj aW (l.take k)).length = k * aW.n := by rw [bw, List.length_take, hl, Nat.min_eq_left hk]
    rw [cell_of_row w g _ cur aW.t (0, 0) hg, ← Array.getElem?_toList]
    have hx : (bj aW l)[k * aW.n + j]? = some u := by rw [hd, List.getElem?_append_right (by omega), hlt, Nat.add_sub_cancel_left]; exact hj
    rw [← ht, List.getElem?_take_of_lt (by omega)] at hx
    exact hx
  have hap := run_append_room (P := Tryz.prog) (w := w.drew) aW.s 86 aW.t i0 aW.und hi g 0 c cur hg ⟨g, if c = k then 0 else k * aW.n, none⟩ (n - k) (c - k) (bj aW (l.drop k)) (by rw [hfl, hz1]) hsrc (flatE_one aW _) (by omega) (by rw [hfl]; omega)
  rw [Nat.zero_add, Nat.zero_mul, Nat.zero_add, List.take_zero, List.nil_append, hfl] at hap
  obtain ⟨of, hof⟩ : ∃ of, (if c = k then 0 else k * aW.n) = of := ⟨_, rfl⟩
  have HCUT : Hid (∀ w : World, (Instr.sliceAt aW.s (.slice (some ⟨g, 0, none⟩) n c) (some (.int .i64 (k : Int))) none none).run Tryz.prog w = .ok (.slice (some ⟨g, of, none⟩) (n - k) (c - k)) w) := Lib.hid (fun w => by rw [← hof]; exact run_cutET hk hnc)
  rw [hof] at hap
  obtain ⟨d1, d2, d3, d4⟩ := del_row (w := w.drew) hl hk hB hg hnc hcm hcs ht
  have HAP := Lib.hid hap
  have HCL := Lib.hid (fun ty => run_clearE aW nteZ_one _ ty g ((n - k) * aW.n) k (c - (n - k)) h0 d1 d2)
  have HM := Lib.hid d3
  have HO := Lib.hid ((Only.of_below (fun b => b = g) (bd (Below.refl w.heap.size w))).trans d4 fun _ e => .inl e)
  have HNE : Hid (((0 : Int) == (k : Int)) = false) := Lib.hid (by simp; omega)
  have HCT := Lib.hid hnc
  have HSUB : Hid (n - (n - k) = k) := Lib.hid (by omega)
  clear hap d1 d2 d3 d4 hm hrd hi hz0 hz1 hz2 hcl hmul hle hfl hsrc hg hcm hcs ht hl hB hnc hof
  go_enter Tryz.func62, Tryz.ntmps62
  go_upto_region 1 with fail
  refine wp_region_lit ?_
  refine ag rfl (ah rfl (ev rfl)) ?_
  simp only [Act.put, aa, ae, af]
  refine ag rfl (ah rfl (ev rfl)) ?_
  simp only [Act.put, aa, ae, af]
  refine ag rfl (ah rfl (ev rfl)) ?_
  simp only [Act.put, aa, ae, af]
  refine ag rfl (ah rfl (ev rfl)) ?_
  simp only [Act.put, aa, ae, af]
  refine ag rfl (bQ Tryz.underlying86 rfl (ev rfl)) ?_
  simp only [Act.put, aa, ae, af]
  refine ag rfl (exec_sl4 rfl (ev rfl) (ev rfl) (ev rfl) (ev rfl) (run_cutE3 (E := aW) (t := k) hk HCT.out)) ?_
  simp only [Act.put, aa, ae, af]
  refine wpList_nil ?_
  go_upto_region 2 with fail
  refine wp_region_lit ?_
  refine ag rfl (ah rfl (ev rfl)) ?_
  simp only [Act.put, aa, ae, af]
  refine ag rfl (ah rfl (ev rfl)) ?_
  simp only [Act.put, aa, ae, af]
  refine ag (v := .bool false) rfl (aI false rfl (ev rfl) (ev rfl) HNE.out) ?_
  simp only [Act.put, aa, ae, af]
  refine wpList_nil ?_
  go_upto_region 5 with fail
  refine bx (fun _ => True) 7 (by kernel_rfl) ?_
  change cm _ _ _ _ _ _ 8 _ _ w.drew
  refine ap 0 rfl (by kernel_rfl) (by kernel_rfl) (by kernel_rfl) (by decide) (by kernel_rfl) rfl (fun w' hw => ah rfl (ev rfl)) (fun _ _ _ h => h) trivial ?_
  simp only [Act.put, aa, ae, af]
  refine ap 1 rfl (by kernel_rfl) (by kernel_rfl) (by kernel_rfl) (by decide) (by kernel_rfl) rfl (fun w' hw => ah rfl (ev rfl)) (fun _ _ _ h => h) trivial ?_
  simp only [Act.put, aa, ae, af]
  refine ap 2 rfl (by kernel_rfl) (by kernel_rfl) (by kernel_rfl) (by decide) (by kernel_rfl) rfl (fun w' hw => exec_sl1 rfl (ev rfl) (ev rfl) (run_cutEH (E := aW) (t := 0) (by omega))) (fun _ _ _ h => h) trivial ?_
  simp only [Act.put, aa, ae, af]
  refine ap 3 rfl (by kernel_rfl) (by kernel_rfl) (by kernel_rfl) (by decide) (by kernel_rfl) rfl (fun w' hw => ah rfl (ev rfl)) (fun _ _ _ h => h) trivial ?_
  simp only [Act.put, aa, ae, af]
  refine ap 4 rfl (by kernel_rfl) (by kernel_rfl) (by kernel_rfl) (by decide) (by kernel_rfl) rfl (fun w' hw => ah rfl (ev rfl)) (fun _ _ _ h => h) trivial ?_
  simp only [Act.put, aa, ae, af]
  refine ap 5 rfl (by kernel_rfl) (by kernel_rfl) (by kernel_rfl) (by decide) (by kernel_rfl) rfl (fun w' hw => exec_sl2 rfl (ev rfl) (ev rfl) (HCUT.out _)) (fun _ _ _ h => h) trivial ?_
  simp only [Act.put, aa, ae, af]
  refine bl 6 rfl (by kernel_rfl) rfl (fB (E := aW) rfl (ev rfl) (ev rfl) HAP.out) (fun _ => trivial) ?_
  simp only [Act.put, aa, ae, af]
  refine bl 7 rfl (by kernel_rfl) rfl (aq rfl (ev rfl)) (fun e => absurd rfl e) ?_
  simp only [Act.put, aa, ae, af]
  refine b8 (by kernel_rfl) ?_ _
  go_upto_region 6 with fail
  refine wp_region_lit ?_
  refine ag rfl (ah rfl (ev rfl)) ?_
  simp only [Act.put, aa, ae, af]
  refine ag rfl (ah rfl (ev rfl)) ?_
  simp only [Act.put, aa, ae, af]
  refine ag rfl (bQ Tryz.underlying86 rfl (ev rfl)) ?_
  simp only [Act.put, aa, ae, af]
  refine ag rfl (ah rfl (ev rfl)) ?_
  simp only [Act.put, aa, ae, af]
  refine ag rfl (exec_sl3 rfl (ev rfl) (ev rfl) (ev rfl) (run_cutEM (E := aW) (by omega) HCT.out)) ?_
  simp only [Act.put, aa, ae, af]
  refine ag rfl (exec_clear rfl (ev rfl) (by rw [HSUB.out]; exact HCL.out _)) ?_
  simp only [Act.put, aa, ae, af]
  refine wpList_nil ?_
  go_wp2_with fail
  go_ret
  exact ⟨_, rfl, HM.out, fun b hb => by injection hb with hb; exact hb.symm, HO.out⟩
theorem pdel (k : Nat) (hm : aA aW w B v l) (hk : k ≤ l.length) (h8 : l.length ≤ 1000) : Calls Tryz.prog 62 #[v, .int .i64 0, .int .i64 (k : Int)] w fun e w' => ∃ v', e = .returned v' ∧ aA aW w' B v' (l.drop k) ∧ (∀ b, v'.ownBlock = some b → v.ownBlock = some b) ∧ Only (fun b => v.ownBlock = some b) w w' := by
  rcases Nat.eq_zero_or_pos k with rfl | h0
  · have hpost : ∃ v', Ending.returned v = .returned v' ∧ aA aW w B v' (l.drop 0) ∧ (∀ b, v'.ownBlock = some b → v.ownBlock = some b) ∧ Only (fun b => v.ownBlock = some b) w w := ⟨v, rfl, hm, fun b e => e, Only.refl _ _⟩
    obtain ⟨A, c, rfl, h1, h2⟩ := hm.form
    rcases hm.2 with ⟨hv, hl0⟩ | ⟨g, cap, cur, hv, _⟩
    · have hl : l = [] := List.eq_nil_of_length_eq_zero hl0
      subst hl
      injection hv with e1 e2 e3
      subst e1 e3
      exact (pdel_0n hm).mono fun e w' ⟨he, hw⟩ => by subst he hw; exact hpost
    · injection hv with e1 e2 e3
      subst e1 e3
      exact (pdel_0s h1).mono fun e w' ⟨he, hw⟩ => by subst he hw; exact hpost
  · obtain ⟨g, c, rfl, _, _, h1, h2⟩ := show ∃ g c, v = .slice (some ⟨g, 0, none⟩) l.length c ∧ B ≤ g ∧ g < w.heap.size ∧ l.length ≤ c ∧ c ≤ maxLen from by
      rcases hm.2 with ⟨rfl, hl0⟩ | ⟨g, cap, cur, rfl, hbg, hg, h1, h2, _⟩
      · omega
      · exact ⟨g, cap, rfl, hbg, aV hg, h1, h2⟩
    exact (pdel_s hm hk h0 h8).mono fun e w' ⟨v', he, k1, k2, k3⟩ => ⟨v', he, k1, fun b hb => by rw [k2 b hb]; rfl, ⟨k3.os, k3.tape, k3.output, k3.size, fun b hb hne => k3.block b hb fun e => hne (by rw [e]; rfl)⟩⟩
end
section
variable {P : Program} {ops : Array Oper} {Q : Exit → Act → World → Prop} {md : Region.Mode} {S T : World → Prop} {z : Nat}
def condW (S T : World → Prop) (z : Nat) (listed : Array Bool) (w : World) : Prop := (listed.getD z false = false → S w) ∧ (listed.getD z false = true → T w)
def d6 (P : Program) (md : Region.Mode) (ops : Array Oper) (Q : Exit → Act → World → Prop) (S T : World → Prop) (z : Nat) : Nat → Array Bool → Act → World → Prop
  | 0, listed, a, w => Region.ready md ops listed = [] ∧ Q .normal a w
  | fuel + 1, listed, a, w =>
    (Region.ready md ops listed = [] → Q .normal a w) ∧
    ∀ i ∈ Region.ready md ops listed, wpOp P ops Q i (fun a' w' => condW S T z (listed.setIfInBounds i true) w' ∧ d6 P md ops Q S T z fuel (listed.setIfInBounds i true) a' w') a w
theorem wpAny_of_W : ∀ (fuel : Nat) (listed : Array Bool) (a : Act) (w : World), d6 P md ops Q S T z fuel listed a w → wpAny P md ops Q fuel listed a w
  | 0, _, _, _, h => h
  | fuel + 1, _, _, _, h => ⟨h.1, fun i hi => wpOp_mono (fun a' w' h' => wpAny_of_W fuel _ a' w' h'.2) (h.2 i hi)⟩
theorem fM {l : Array Bool} {i j : Nat} (h : j ≠ i) : (l.setIfInBounds i true).getD j false = l.getD j false := by
  by_cases hj : j < l.size
  · simp [hj, Array.getElem_setIfInBounds, Ne.symm h]
  · simp [Array.getElem?_eq_none (Nat.le_of_not_lt hj), hj]
theorem condW_set {listed : Array Bool} {w : World} {i : Nat} (h : condW S T z listed w) (hi : i ≠ z) : condW S T z (listed.setIfInBounds i true) w := by
  unfold condW at *
  rw [fM (Ne.symm hi)]
  exact h
theorem condW_un {listed : Array Bool} {w : World} {i : Nat} (h : condW S T z (listed.setIfInBounds i true) w) (hi : i ≠ z) : condW S T z listed w := by
  unfold condW at *
  rw [fM (Ne.symm hi)] at h
  exact h
theorem wpAnyW_first {i : Nat} {oi : Oper} {v : Value} (hi : ops[i]? = some oi) (hsel : ∀ (j : Nat) (o : Oper) cs b, ops[j]? = some o → o.op ≠ .select cs b)
    (hQ : ∀ c a w, Q (.panic c) (a.put oi.dst v) w → Q (.panic c) a w) (hiz : i ≠ z) {U : World → Prop} (hS : ∀ w, S w → U w) (hT : waitsB md ops z i = true ∨ ∀ w, T w → U w) :
    ∀ (fuel : Nat) (listed : Array Bool) (a : Act) (w : World),
      (∀ j oj, ops[j]? = some oj → j ≠ i → listed.getD j true = false → (∀ e ∈ oj.after, Region.binds md e = true → e.on ≠ i) → oi.apart ops oj = true) →
      i ∈ Region.ready md ops listed → (waitsB md ops z i = true → listed.getD z false = false) → YieldsIf P ops U oi v a → condW S T z listed w →
      d6 P md ops Q S T z fuel (listed.setIfInBounds i true) (a.put oi.dst v) w → d6 P md ops Q S T z (fuel + 1) listed a w := by
  intro fuel
  have key : ∀ (listed : Array Bool) (w : World), (waitsB md ops z i = true → listed.getD z false = false) → condW S T z listed w → U w := fun listed w hz hc => by
    by_cases hl : listed.getD z false = false
    · exact hS w (hc.1 hl)
    · rcases hT with h | h
      · exact absurd (hz h) hl
      · exact h w (hc.2 (by simpa using hl))
  induction fuel with
  | zero =>
    intro listed a w _ hr hz hy hc H
    refine ⟨fun h => (by rw [h] at hr; cases hr), fun j hj => ?_⟩
    by_cases hji : j = i
    · subst hji; exact hy.wpOp hi (key listed w hz hc) ⟨condW_set hc hiz, H⟩
    · have := ready_mono hj hji
      rw [H.1] at this
      cases this
  | succ fuel ih =>
    intro listed a w hfree hr hz hy hc H
    refine ⟨fun h => (by rw [h] at hr; cases hr), fun j hj => ?_⟩
    by_cases hji : j = i
    · subst hji; exact hy.wpOp hi (key listed w hz hc) ⟨condW_set hc hiz, H⟩
    · have h1 := H.2 j (ready_mono hj hji)
      obtain ⟨hjun, oj, hoj, hall⟩ := mem_ready.1 hj
      have hnot : ∀ e ∈ oj.after, Region.binds md e = true → e.on ≠ i := fun e he hb heq => by
        have h1 := hall e he hb
        rw [heq, un_of (mem_ready.1 hr).1] at h1
        cases h1
      have h2 := wpOp_putIf hoj (hfree j oj hoj hji hjun hnot) (fun cs b => hsel i oi cs b hi) (fun cs b => hsel j oj cs b hoj) hQ hy h1
      have hfree' : ∀ k ok, ops[k]? = some ok → k ≠ i → (listed.setIfInBounds j true).getD k true = false →
          (∀ e ∈ ok.after, Region.binds md e = true → e.on ≠ i) → oi.apart ops ok = true := fun k ok hk hki hun hno => by
        refine hfree k ok hk hki ?_ hno
        by_cases hjk : j = k
        · subst hjk; exact hjun
        · rw [getD_set_ne true hjk] at hun; exact hun
      have hz' : waitsB md ops z i = true → (listed.setIfInBounds j true).getD z false = false := fun hw => by
        have hjz : j ≠ z := fun e => by
          subst e
          exact waits_spec hw (un_of (mem_ready.1 hr).1) hj
        rw [fM (Ne.symm hjz)]
        exact hz hw
      refine wpOp_mono (fun a' w' h3 => ?_) h2
      have hc' : condW S T z (listed.setIfInBounds j true) w' := by
        have h4 := h3.2.1
        rw [Array.setIfInBounds_comm _ _ (Ne.symm hji)] at h4
        exact condW_un h4 hiz
      refine ⟨hc', ih (listed.setIfInBounds j true) a' w' hfree' (ready_mono hr (Ne.symm hji)) hz' h3.1 hc' ?_⟩
      rw [Array.setIfInBounds_comm _ _ hji]
      exact h3.2.2
theorem wpAnyW_all {rs : List Nat} {fuel : Nat} {listed : Array Bool} {a : Act} {w : World} (hr : Region.ready md ops listed = rs) (hne : rs ≠ [])
    (h : ∀ i ∈ rs, wpOp P ops Q i (fun a' w' => condW S T z (listed.setIfInBounds i true) w' ∧ d6 P md ops Q S T z fuel (listed.setIfInBounds i true) a' w') a w) : d6 P md ops Q S T z (fuel + 1) listed a w :=
  ⟨fun h0 => absurd (hr ▸ h0) hne, hr ▸ h⟩
theorem wpAnyW_done {listed : Array Bool} {a : Act} {w : World} (hr : Region.ready md ops listed = []) (h : Q .normal a w) :
    ∀ fuel, d6 P md ops Q S T z fuel listed a w
  | 0 => ⟨hr, h⟩
  | _ + 1 => ⟨fun _ => h, by rw [hr]; simp⟩
theorem wp_region_two {id : Nat} {a : Act} {w : World} (S T : World → Prop) (z : Nat) (hm : P.follows .mixedOrders = true)
    (h : d6 P .any ops Q S T z ops.size (Array.replicate ops.size false) a w.drew) : (Code.region id ops true).wp P Q a w :=
  wp_region_any hm (wpAny_of_W _ _ _ _ h)
end
section
variable {P : Program} {md : Region.Mode} {l : List Oper} {Q : Exit → Act → World → Prop} {S T : World → Prop} {z fuel : Nat} {listed : Array Bool} {a : Act} {w w' : World} {o : Oper} {v : Value}
theorem two_val (i : Nat) (hi : l[i]? = some o) (hs : Region.noSelect l.toArray = true) (hf : Region.free md l.toArray listed i = true) (hr : (Region.ready md l.toArray listed).contains i = true) (hiz : i ≠ z) (hwz : waitsB md l.toArray z i = true) (hlz : listed.getD z false = false)
    (hw : Region.wanted o (yielded l.toArray a.tmps) = true) (h : ∀ w, S w → (execOp a.eval o).run P w = .ok (.value v) w) (hQ : ∀ c a w, Q (.panic c) (a.put o.dst v) w → Q (.panic c) a w) (hS : S w)
    (hk : d6 P md l.toArray Q S T z fuel (listed.setIfInBounds i true) (a.put o.dst v) w) : d6 P md l.toArray Q S T z (fuel + 1) listed a w :=
  wpAnyW_first (by simpa using hi) (Region.noSelect_spec hs) hQ hiz (U := S) (fun _ h => h) (.inl hwz) fuel listed a w (Region.free_spec (by simpa using hi) hf) (by simpa using hr) (fun _ => hlz) (.inl ⟨hw, h⟩) ⟨fun _ => hS, fun e => absurd (e.symm.trans hlz) (by decide)⟩ hk
theorem two_any (i : Nat) (hi : l[i]? = some o) (hs : Region.noSelect l.toArray = true) (hf : Region.free md l.toArray listed i = true) (hr : (Region.ready md l.toArray listed).contains i = true) (hiz : i ≠ z) (hwz : waitsB md l.toArray z i = false)
    (hw : Region.wanted o (yielded l.toArray a.tmps) = true) (h : ∀ w, S w ∨ T w → (execOp a.eval o).run P w = .ok (.value v) w) (hQ : ∀ c a w, Q (.panic c) (a.put o.dst v) w → Q (.panic c) a w) (hc : condW S T z listed w)
    (hk : d6 P md l.toArray Q S T z fuel (listed.setIfInBounds i true) (a.put o.dst v) w) : d6 P md l.toArray Q S T z (fuel + 1) listed a w :=
  wpAnyW_first (by simpa using hi) (Region.noSelect_spec hs) hQ hiz (U := fun w => S w ∨ T w) (fun _ h => .inl h) (.inr fun _ h => .inr h) fuel listed a w (Region.free_spec (by simpa using hi) hf) (by simpa using hr) (fun e => by rw [hwz] at e; cases e) (.inl ⟨hw, h⟩) hc hk
theorem two_nul (i : Nat) (hi : l[i]? = some o) (hr : Region.ready md l.toArray listed = [i]) (hw : Region.wanted o (yielded l.toArray a.tmps) = true) (h : (execOp a.eval o).run P w = .ok .skip w')
    (hc : condW S T z (listed.setIfInBounds i true) w') (hk : d6 P md l.toArray Q S T z fuel (listed.setIfInBounds i true) (a.put o.dst undef) w') : d6 P md l.toArray Q S T z (fuel + 1) listed a w :=
  wpAnyW_all hr (by simp) fun j hj => by
    obtain rfl : j = i := by simpa using hj
    unfold wpOp
    simp only [List.getElem?_toArray, hi, hw, if_true]
    refine .inl ?_
    unfold Oper.wp
    rw [h]
    exact ⟨hc, hk⟩
theorem condW_pre (hl : listed.getD z false = false) (h : S w) : condW S T z listed w := ⟨fun _ => h, fun e => absurd (e.symm.trans hl) (by decide)⟩
theorem condW_post (hl : listed.getD z false = true) (h : T w) : condW S T z listed w := ⟨fun e => absurd (e.symm.trans hl) (by decide), fun _ => h⟩
end
end Go.Proofs.YtcafafdimcecpaaGreatDoor
