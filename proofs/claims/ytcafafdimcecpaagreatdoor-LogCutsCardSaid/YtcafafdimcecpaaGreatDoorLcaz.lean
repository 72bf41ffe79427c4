import Derived.Test.YtcafafdimcecpaaGreatDoorLcat
import Derived.Test.YtcafafdimcecpaaGreatDoorLcau
import Derived.Test.YtcafafdimcecpaaGreatDoorLcav
import Derived.Test.YtcafafdimcecpaaGreatDoorLcaw
import Derived.Test.YtcafafdimcecpaaGreatDoorLcac
import Derived.Test.YtcafafdimcecpaaGreatDoorLcay
import Derived.Test.YtcafafdimcecpaaGreatDoorLcab
import Derived.Test.YtcafafdimcecpaaGreatDoorLcaa
import Derived.Deep.Slices
import Derived.Test.YtcafafdimcecpaaGreatDoorLcah
import Derived.Test.YtcafafdimcecpaaGreatDoorLcZ
namespace Go.Proofs.YtcafafdimcecpaaGreatDoor
open Go.RowKit
set_option linter.unusedVariables false
set_option linter.unusedSimpArgs false
set_option maxRecDepth 100000
def rdM (M : BenS) (x : LgS) (y : Nte) (k : Nat) : List Blk := (List.range (bf y)).map fun i => if i < k then cC M x.d (bV x.size (y.pos + i)) else al
theorem rdM_len (M : BenS) (x : LgS) (y : Nte) (k : Nat) : (rdM M x y k).length = bf y := by simp [rdM]
theorem rdM_0 (M : BenS) (x : LgS) (y : Nte) : rdM M x y 0 = List.replicate (bf y) al := by
  apply List.ext_getElem
  · simp [rdM]
  · intro j h1 h2
    simp [rdM]
theorem rdM_set {M : BenS} {x : LgS} {y : Nte} {k : Nat} (hk : k < bf y) : (rdM M x y k).set k (cC M x.d (bV x.size (y.pos + k))) = rdM M x y (k + 1) := by
  apply List.ext_getElem
  · simp [rdM]
  · intro j h1 h2
    rw [List.getElem_set]
    simp only [rdM, List.getElem_map, List.getElem_range]
    by_cases e : k = j
    · subst e; rw [if_pos rfl, if_pos (by omega)]
    · rw [if_neg e]
      by_cases e2 : j < k
      · rw [if_pos e2, if_pos (by omega)]
      · rw [if_neg e2, if_neg (by omega)]
theorem rdM_all (M : BenS) (x : LgS) (y : Nte) : rdM M x y (bf y) = rcdL M x y := by
  unfold rdM rcdL
  exact List.map_congr_left fun j hj => if_pos (List.mem_range.1 hj)
theorem sec_same {M : BenS} {x : LgS} {N a b : Nat} (hk : LgOk M x N) : bX M x.d (bV x.size a) = bX M x.d (bV x.size b) := by
  have hl := hk.len
  have hs := hk.siz
  have h1 := Nat.mod_lt a (show 0 < x.size by omega)
  have h2 := Nat.mod_lt b (show 0 < x.size by omega)
  exact rd_same ⟨by unfold bV; omega, by unfold bV; omega⟩ ⟨by unfold bV; omega, by unfold bV; omega⟩
theorem exec_idxB {ρ : Operand → Value} {o : Oper} {x y : Operand} {w : World} {g j n c : Nat} (ho : o.op = .indexAddr 112 x y) (hx : ρ x = .slice (some ⟨g, 0, none⟩) n c) (hy : ρ y = .int .i64 (j : Int)) (hj : j < n) : (execOp ρ o).run Tryz.prog w = .ok (.value (.pointer (some ⟨g, j * 64, none⟩))) w := by
  have := dz (w := w) ho hx hy hj
  rwa [Nat.zero_add] at this
def Laid_ (w : World) (E : Int) (L : List Blk) (n : Nat) (e : Ending) (w' : World) : Prop :=
  Below w.heap.size w w' ∧ ((E = 0 ∧ ∃ g, e = .returned (.tuple #[.slice (some ⟨g, 0, none⟩) n n, .int .i64 0]) ∧ ch w' g L ∧ w.heap.size ≤ g) ∨ (E ≠ 0 ∧ e = .returned (.tuple #[.slice none 0 0, .int .i64 E])))
set_option maxHeartbeats 2000000 in
theorem pllaid {w0 w : World} {H K : Nat → Prop} {p q N : Nat} {v : Value} {M : BenS} {x : LgS} (y : Nte) (h : PJ w0 H K w p q v M x) (hk : LgOk M x N) (hy : 1 ≤ y.cells ∧ y.cells ≤ 32) (hp : y.pos + bf y ≤ 4611686018427387904) : Calls Tryz.prog 74 #[.pointer (some ⟨p, 0, none⟩), nte y] w (Laid_ w (bX M x.d (bV x.size y.pos)) (rcdL M x y) (bf y)) := by
  have htk : 2 ≤ bf y ∧ bf y ≤ 34 := by unfold bf hd; omega
  have hsz := hk.siz
  obtain ⟨t, ht⟩ : ∃ t, bf y = t := ⟨_, rfl⟩
  obtain ⟨E, hE⟩ : ∃ E, bX M x.d (bV x.size y.pos) = E := ⟨_, rfl⟩
  have HSAME : Hid (∀ j, bX M x.d (bV x.size (y.pos + j)) = E) := Lib.hid fun j => (sec_same hk).trans hE
  have HALL := Lib.hid (rdM_all M x y)
  have HR0 := Lib.hid (rdM_0 M x y)
  have HRS : Hid (∀ k, k < t → (rdM M x y k).set k (cC M x.d (bV x.size (y.pos + k))) = rdM M x y (k + 1)) := Lib.hid fun k hk => rdM_set (by rw [ht]; exact hk)
  have HRL : Hid (∀ k, (rdM M x y k).length = t) := Lib.hid fun k => (rdM_len M x y k).trans ht
  obtain ⟨k1, k2, k3⟩ := dr w y
  have HSEC := Lib.hid (plsectors (w.alloc (.cells (aS y).toArray 70)) y (h.below k2).log hy hsz hp)
  have HY := Lib.hid k1
  have HBW := Lib.hid k2
  have HLE := Lib.hid k3
  have HJ := Lib.hid (h.below k2)
  rw [ht] at HSEC htk HALL HR0 ⊢
  rw [hE]
  have HTK := Lib.hid htk
  clear h hk hy hp hsz htk ht hE k1 k2 k3
  go_enter Tryz.func74, Tryz.ntmps74
  go_upto_region 1 with (first | (refine ag rfl (cI rfl rfl) ?_) | fail)
  generalize w.alloc (.cells (aS y).toArray 70) = w1 at *
  refine wp_region_lit ?_
  refine ag rfl (ah rfl (ev rfl)) ?_
  simp only [Act.put, aa, ae, af]
  refine ag rfl (aZ (c := y) rfl (ev rfl) HY.out.range) ?_
  simp only [Act.put, aa, ae, af]
  refine ao rfl (au Tryz.call126 rfl (evc (ev rfl) (evc (ev rfl) evn))) ?_
  refine HSEC.out.mono ?_
  rintro e w2 ⟨r, rfl, hm, hb⟩
  refine ⟨_, rfl, ?_⟩
  simp only [Act.put, aa, ae, af]
  refine ag rfl (ah rfl (ev rfl)) ?_
  simp only [Act.put, aa, ae, af]
  refine ag rfl (aC rfl (ev rfl) rfl) ?_
  simp only [Act.put, aa, ae, af]
  refine ag rfl (aC rfl (ev rfl) rfl) ?_
  simp only [Act.put, aa, ae, af]
  refine ag rfl (aq rfl (ev rfl)) ?_
  simp only [Act.put, aa, ae, af]
  refine ag rfl (aq rfl (ev rfl)) ?_
  simp only [Act.put, aa, ae, af]
  refine wpList_nil ?_
  obtain ⟨g, c1, rfl, hbg, hg, hc1, hc2⟩ := hm.slice_ (by rw [secX_len]; have := HTK.out.1; omega)
  rw [secX_len] at hm hc1 ⊢
  have HM := Lib.hid hm
  have HJ2 := Lib.hid (HJ.out.below hb)
  have HB2 := Lib.hid (HBW.out.trans (hb.mono (by have := HLE.out; omega)))
  clear hm hb hbg hg hc1 hc2 HSEC HY HBW HJ
  go_upto_region 4 with fail
  refine wp_region_lit ?_
  refine ag rfl (ah rfl (ev rfl)) ?_
  simp only [Act.put, aa, ae, af]
  refine ag rfl (bQ Tryz.underlying36 rfl (ev rfl)) ?_
  simp only [Act.put, aa, ae, af]
  refine ag rfl (exec_make rfl (ev rfl) (ev rfl) (by have := HTK.out.2; omega)) ?_
  simp only [Act.put, aa, ae, af]
  refine ag rfl (aq rfl (ev rfl)) ?_
  simp only [Act.put, aa, ae, af]
  refine wpList_nil ?_
  have HH := Lib.hid (holdsB_made w2 t)
  have HAL := Lib.hid ((Below.refl w2.heap.size w2).alloc (Nat.le_refl _) (.cells (madeCells (cel al).toArray (t * 64)) 65))
  rw [← HR0.out] at HH
  have HGB : Hid (w.heap.size ≤ w2.heap.size) := Lib.hid HB2.out.size
  have HJ2B : Hid (∀ w', Below w2.heap.size w2 w' → PJ w0 H K w' p q v M x) := Lib.hid fun w' hb => HJ2.out.below hb
  have HM2B : Hid (∀ w', Below w2.heap.size w2 w' → aA dq w' w1.heap.size (.slice (some ⟨g, 0, none⟩) t c1) (secX x.size y.pos t)) := Lib.hid fun w' hb => HM.out.below hb
  generalize w2.alloc (.cells (madeCells (cel al).toArray (t * 64)) 65) = w3 at *
  clear HM HJ2
  generalize w2.heap.size = gb at *
  go_wp2_with fail
  go_loopw [25] (fun i wr => ∃ k : Nat, k ≤ t ∧ i = .int .i64 k ∧ ch wr gb (rdM M x y k) ∧ Below gb w2 wr ∧ (0 < k → E = 0)) (fun i _ => t - (intOf i).toNat)
  case atStart => exact ⟨0, Nat.zero_le _, rfl, HH.out, HAL.out, fun e => absurd e (Nat.lt_irrefl _)⟩
  case round =>
    clear HH HAL
    obtain ⟨k, hk, rfl, hh, hb, hE0⟩ := hrel
    have ht34 := HTK.out.2
    by_cases hlt : k < t
    · obtain ⟨hc, _⟩ := (HM2B.out wr hb).cellI hlt
      rw [secX_at hlt] at hc
      have HIX := Lib.hid hc
      have HH := Lib.hid hh
      have HB := Lib.hid hb
      obtain ⟨c, hcc⟩ : ∃ c, cC M x.d (bV x.size (y.pos + k)) = c := ⟨_, rfl⟩
      have HCC := Lib.hid hcc
      have HRK := Lib.hid (HRS.out k hlt)
      have HRLK := Lib.hid (HRL.out k)
      have HSK := Lib.hid (HSAME.out k)
      rw [hcc] at HRK
      clear hc hh hb hcc hE0
      go_upto_region 7 with fail
      refine wp_region_lit ?_
      refine ag rfl (ah rfl (ev rfl)) ?_
      simp only [Act.put, aa, ae, af]
      refine ag rfl (exec_idxI rfl (ev rfl) (ev rfl) hlt) ?_
      simp only [Act.put, aa, ae, af]
      refine ag rfl (av rfl (ev rfl) (bW HIX.out)) ?_
      simp only [Act.put, aa, ae, af]
      refine ag rfl (aq rfl (ev rfl)) ?_
      simp only [Act.put, aa, ae, af]
      refine ag rfl (aq rfl (ev rfl)) ?_
      simp only [Act.put, aa, ae, af]
      refine wpList_nil ?_
      have hS : PLg wr.drew p q v x := (HJ2B.out wr.drew (bd HB.out)).log
      go_upto_region 8 with fail
      refine bx (fun w' => PLg w' p q v x) 17 (by kernel_rfl) ?_
      change cm _ _ _ _ _ _ 18 _ _ wr.drew
      refine ap 0 rfl (by kernel_rfl) (by kernel_rfl) (by kernel_rfl) (by decide) (by kernel_rfl) rfl (fun w' hw => ah rfl (ev rfl)) (fun _ _ _ h => h) hS ?_
      simp only [Act.put, aa, ae, af]
      refine ap 1 rfl (by kernel_rfl) (by kernel_rfl) (by kernel_rfl) (by decide) (by kernel_rfl) rfl (fun w' hw => ah rfl (ev rfl)) (fun _ _ _ h => h) hS ?_
      simp only [Act.put, aa, ae, af]
      refine ap 2 rfl (by kernel_rfl) (by kernel_rfl) (by kernel_rfl) (by decide) (by kernel_rfl) rfl (fun w' hw => ah rfl (ev rfl)) (fun _ _ _ h => h) hS ?_
      simp only [Act.put, aa, ae, af]
      refine ap 3 rfl (by kernel_rfl) (by kernel_rfl) (by kernel_rfl) (by decide) (by kernel_rfl) rfl (fun w' hw => az rfl (ev rfl)) (fun _ _ _ h => h) hS ?_
      simp only [Act.put, aa, ae, af]
      refine ap 4 rfl (by kernel_rfl) (by kernel_rfl) (by kernel_rfl) (by decide) (by kernel_rfl) rfl (fun w' hw => ak rfl (ev rfl) faQl0) (fun _ _ _ h => h) hS ?_
      simp only [Act.put, aa, ae, af]
      refine ap 5 rfl (by kernel_rfl) (by kernel_rfl) (by kernel_rfl) (by decide) (by kernel_rfl) rfl (fun w' hw => av rfl (ev rfl) (ldQp (PLg.c0 hw))) (fun _ _ _ h => h) hS ?_
      simp only [Act.put, aa, ae, af]
      refine ap 6 rfl (by kernel_rfl) (by kernel_rfl) (by kernel_rfl) (by decide) (by kernel_rfl) rfl (fun w' hw => ah rfl (ev rfl)) (fun _ _ _ h => h) hS ?_
      simp only [Act.put, aa, ae, af]
      refine ap 7 rfl (by kernel_rfl) (by kernel_rfl) (by kernel_rfl) (by decide) (by kernel_rfl) rfl (fun w' hw => az rfl (ev rfl)) (fun _ _ _ h => h) hS ?_
      simp only [Act.put, aa, ae, af]
      refine ap 8 rfl (by kernel_rfl) (by kernel_rfl) (by kernel_rfl) (by decide) (by kernel_rfl) rfl (fun w' hw => ak rfl (ev rfl) faQl1) (fun _ _ _ h => h) hS ?_
      simp only [Act.put, aa, ae, af]
      refine ap 9 rfl (by kernel_rfl) (by kernel_rfl) (by kernel_rfl) (by decide) (by kernel_rfl) rfl (fun w' hw => av rfl (ev rfl) (bW (PLg.c1 hw))) (fun _ _ _ h => h) hS ?_
      simp only [Act.put, aa, ae, af]
      refine ap 10 rfl (by kernel_rfl) (by kernel_rfl) (by kernel_rfl) (by decide) (by kernel_rfl) rfl (fun w' hw => ah rfl (ev rfl)) (fun _ _ _ h => h) hS ?_
      simp only [Act.put, aa, ae, af]
      refine dd 11 rfl (by kernel_rfl) rfl (au Tryz.call133 rfl (evc (ev rfl) (evc (ev rfl) (evc (ev rfl) evn)))) ?_
      refine (PJ.read (x.d : Int) (bV x.size (y.pos + k)) (HJ2B.out wr.drew (bd HB.out))).mono ?_
      rintro e w5 ⟨rfl, hb5⟩
      rw [HCC.out, HSK.out]
      have HB5 := Lib.hid ((bd HB.out).trans (hb5.mono (Nat.le_of_lt HH.out.lt)))
      have HH5 := Lib.hid (ch.below (w := wr.drew) HH.out hb5)
      clear hb5
      have hS5 : PLg w5 p q v x := (HJ2B.out w5 HB5.out).log
      refine ⟨_, rfl, fun _ => hS5, ?_⟩
      simp only [Act.put, aa, ae, af]
      refine ap 12 rfl (by kernel_rfl) (by kernel_rfl) (by kernel_rfl) (by decide) (by kernel_rfl) rfl (fun w' hw => ah rfl (ev rfl)) (fun _ _ _ h => h) hS5 ?_
      simp only [Act.put, aa, ae, af]
      refine ap 13 rfl (by kernel_rfl) (by kernel_rfl) (by kernel_rfl) (by decide) (by kernel_rfl) rfl (fun w' hw => aC rfl (ev rfl) rfl) (fun _ _ _ h => h) hS5 ?_
      simp only [Act.put, aa, ae, af]
      refine ap 14 rfl (by kernel_rfl) (by kernel_rfl) (by kernel_rfl) (by decide) (by kernel_rfl) rfl (fun w' hw => aC rfl (ev rfl) rfl) (fun _ _ _ h => h) hS5 ?_
      simp only [Act.put, aa, ae, af]
      refine ap 15 rfl (by kernel_rfl) (by kernel_rfl) (by kernel_rfl) (by decide) (by kernel_rfl) rfl (fun w' hw => exec_idxB rfl (ev rfl) (ev rfl) hlt) (fun _ _ _ h => h) hS5 ?_
      simp only [Act.put, aa, ae, af]
      refine ey 16 rfl (by kernel_rfl) rfl (aH (c := c) rfl (ev rfl) (ev rfl) (HH5.out.there (by rw [HRLK.out]; exact hlt))) (fun _ => (HJ2B.out _ (below_setCells (B := gb) (o := k * 64) HB5.out (Nat.le_refl _) (cel c))).log) ?_
      simp only [Act.put]
      have HH6 := Lib.hid (HH5.out.store (by rw [HRLK.out]; exact hlt) c)
      rw [HRK.out] at HH6
      have HB6 := Lib.hid (below_setCells (B := gb) (o := k * 64) HB5.out (Nat.le_refl _) (cel c))
      have hS6 : PLg (w5.setCells gb (k * 64) (cel c)) p q v x := (HJ2B.out _ HB6.out).log
      refine bl 17 rfl (by kernel_rfl) rfl (aq rfl (ev rfl)) (fun e => absurd rfl e) ?_
      simp only [Act.put, aa, ae, af]
      refine b8 (by kernel_rfl) ?_ _
      clear hS hS5 hS6
      generalize w5.setCells gb (k * 64) (cel c) = w6 at *
      by_cases h0 : E = 0
      · have hne : (E != 0) = false := by simp [h0]
        go_wp2_with fail
        go_roundw
        case rel => exact ⟨k + 1, by omega, by go_num, HH6.out, HB6.out, fun _ => h0⟩
        case measure => simp [intOf]; omega
      · have hne : (E != 0) = true := by simpa using h0
        go_wp2_with fail
        go_ret2
        exact ⟨HB2.out.trans (HB6.out.mono HGB.out), .inr ⟨h0, rfl⟩⟩
    · have hkt : k = t := by omega
      rw [hkt, HALL.out] at hh
      have HH := Lib.hid hh
      have HB := Lib.hid hb
      have HE0 : Hid (E = 0) := Lib.hid (hE0 (by have := HTK.out.1; omega))
      clear hh hb hkt hE0
      go_wp2_with fail
      go_ret2
      exact ⟨HB2.out.trans (HB.out.mono HGB.out), .inl ⟨HE0.out, gb, rfl, HH.out, HGB.out⟩⟩
theorem rcd_none {M : BenS} {x : LgS} {s : Nat} (h : ¬ (x.fst ≤ s ∧ s < x.next)) : rcdE M x s = 7 ∧ rcdC M x s = [] := by
  have e : ¬ livQ x s = true := fun e => h (of_decide_eq_true e)
  have e1 : rcdE M x s = 7 := if_neg e
  exact ⟨e1, by unfold rcdC; rw [e1]; rfl⟩
theorem rcd_some {M : BenS} {x : LgS} {g : Nat} {y : Nte} (hg : g < x.nts.length) (hy : x.nts.getD g aG = y) :
    rcdE M x (x.fst + g) = (if bX M x.d (bV x.size y.pos) = 0 then rcdF (rcdL M x y) y else bX M x.d (bV x.size y.pos)) ∧ rcdC M x (x.fst + g) = (if rcdE M x (x.fst + g) = 0 then rgC (rcdL M x y) y.cells else []) := by
  have hl : livQ x (x.fst + g) = true := decide_eq_true ⟨by omega, by unfold LgS.next; omega⟩
  have hn : x.note (x.fst + g) = y := by unfold LgS.note; rw [Nat.add_sub_cancel_left]; exact hy
  refine ⟨?_, ?_⟩
  · unfold rcdE
    rw [if_pos hl, hn]
  · unfold rcdC
    rw [hn]
theorem PRec.err {M : BenS} {x : LgS} {s : Nat} {w w' : World} {e : Ending} {E : Int} (hE : rcdE M x s = E) (h0 : E ≠ 0) (hb : Below w.heap.size w w') (he : e = .returned (.tuple #[.slice none 0 0, .int .i64 E])) : PRec M x s w e w' := by
  refine ⟨.slice none 0 0, by rw [hE]; exact he, ?_, hb⟩
  unfold rcdC
  rw [hE, if_neg h0]
  exact aA.nil _ _
def RngN (w : World) (b off g : Nat) (y : Nte) : Prop := b < w.heap.size ∧ w.rangeAt b (off + g * aW.n) (aS y)
theorem RngN.below {w w' : World} {b off g : Nat} {y : Nte} (h : RngN w b off g y) (hb : Below w.heap.size w w') : RngN w' b off g y := ⟨Nat.lt_of_lt_of_le h.1 hb.size, cO h.2 h.1 hb⟩
theorem plrec_no {w0 w : World} {H K : Nat → Prop} {p q N : Nat} {v : Value} {M : BenS} {x : LgS} (s : Nat) (h : PJ w0 H K w p q v M x) (hk : LgOk M x N) (hs : s < 18446744073709551616) (hno : ¬ (x.fst ≤ s ∧ s < x.next)) : Calls Tryz.prog 24 #[.pointer (some ⟨p, 0, none⟩), .int .u64 (s : Nat)] w (PRec M x s w) := by
  obtain ⟨g1, g2⟩ := rcd_none (M := M) hno
  have HE := Lib.hid g1
  have HL := Lib.hid h.log
  have HK := Lib.hid hk
  clear g1 g2
  by_cases hlt : (s : Int) < (x.fst : Int)
  · have H1 := Lib.hid (decide_eq_true hlt)
    clear h hk hs hno hlt
    go_enter Tryz.func24, Tryz.ntmps24
    go_upto_region 1 with fail
    refine wp_region_lit ?_
    refine ag rfl (ah rfl (ev rfl)) ?_
    simp only [Act.put, aa, ae, af]
    refine ao rfl (au Tryz.call56 rfl (evc (ev rfl) evn)) ?_
    refine (plmade _ HL.out).mono ?_
    rintro e w1 ⟨rfl, rfl⟩
    refine ⟨_, rfl, ?_⟩
    simp only [Act.put, aa, ae, af]
    refine ag (v := .bool false) rfl (aX true rfl (ev rfl)) ?_
    simp only [Act.put, aa, ae, af]
    refine wpList_nil ?_
    go_upto_region 3 with fail
    refine wp_region_lit ?_
    refine ag rfl (ah rfl (ev rfl)) ?_
    simp only [Act.put, aa, ae, af]
    refine ag rfl (ah rfl (ev rfl)) ?_
    simp only [Act.put, aa, ae, af]
    refine ag rfl (az rfl (ev rfl)) ?_
    simp only [Act.put, aa, ae, af]
    refine ag rfl (ak rfl (ev rfl) dG) ?_
    simp only [Act.put, aa, ae, af]
    refine ag rfl (ak rfl (ev rfl) faQm2) ?_
    simp only [Act.put, aa, ae, af]
    refine ag rfl (av rfl (ev rfl) (bR (PLg.c5 HL.out))) ?_
    simp only [Act.put, aa, ae, af]
    refine ag (v := .bool true) rfl (br true rfl (ev rfl) (ev rfl) H1.out) ?_
    simp only [Act.put, aa, ae, af]
    refine aO 4 (v := .bool true) rfl (ah rfl (ev rfl)) (by kernel_rfl) ?_
    simp only [bc, List.take_succ_cons, List.take_zero, List.drop_succ_cons, List.drop_zero, Act.put, List.setIfInBounds_toArray, List.set_cons_succ, List.set_cons_zero]
    refine ag (v := .bool true) rfl (aM rfl (ev rfl) evk) ?_
    simp only [Act.put, aa, ae, af]
    refine wpList_nil ?_
    go_wp2_with fail
    go_ret2
    exact PRec.err HE.out (by decide) (Below.refl _ _) rfl
  · have H1 := Lib.hid (decide_eq_false hlt)
    have H2 : Hid (decide ((x.next : Int) ≤ (s : Int)) = true) := Lib.hid (decide_eq_true (by omega))
    clear h hk hs hno hlt
    go_enter Tryz.func24, Tryz.ntmps24
    go_upto_region 1 with fail
    refine wp_region_lit ?_
    refine ag rfl (ah rfl (ev rfl)) ?_
    simp only [Act.put, aa, ae, af]
    refine ao rfl (au Tryz.call56 rfl (evc (ev rfl) evn)) ?_
    refine (plmade _ HL.out).mono ?_
    rintro e w1 ⟨rfl, rfl⟩
    refine ⟨_, rfl, ?_⟩
    simp only [Act.put, aa, ae, af]
    refine ag (v := .bool false) rfl (aX true rfl (ev rfl)) ?_
    simp only [Act.put, aa, ae, af]
    refine wpList_nil ?_
    go_upto_region 3 with fail
    refine wp_region_lit ?_
    refine ag rfl (ah rfl (ev rfl)) ?_
    simp only [Act.put, aa, ae, af]
    refine ag rfl (ah rfl (ev rfl)) ?_
    simp only [Act.put, aa, ae, af]
    refine ag rfl (az rfl (ev rfl)) ?_
    simp only [Act.put, aa, ae, af]
    refine ag rfl (ak rfl (ev rfl) dG) ?_
    simp only [Act.put, aa, ae, af]
    refine ag rfl (ak rfl (ev rfl) faQm2) ?_
    simp only [Act.put, aa, ae, af]
    refine ag rfl (av rfl (ev rfl) (bR (PLg.c5 HL.out))) ?_
    simp only [Act.put, aa, ae, af]
    refine ag (v := .bool false) rfl (br false rfl (ev rfl) (ev rfl) H1.out) ?_
    simp only [Act.put, aa, ae, af]
    refine ag (v := .bool false) rfl (ah rfl (ev rfl)) ?_
    simp only [Act.put, aa, ae, af]
    refine ai (aj rfl rfl rfl rfl) (ah rfl (ev rfl)) ?_
    simp only [Act.put, aa, ae, af]
    refine ai (aj rfl rfl rfl rfl) (ah rfl (ev rfl)) ?_
    simp only [Act.put, aa, ae, af]
    refine ao (aj rfl rfl rfl rfl) (au Tryz.call57 rfl (evc (ev rfl) evn)) ?_
    refine (plnext w HL.out HK.out).mono ?_
    rintro e w1 ⟨rfl, hb1⟩
    have HB1 := Lib.hid hb1
    clear hb1
    refine ⟨_, rfl, ?_⟩
    simp only [Act.put, aa, ae, af]
    refine ai (v := .bool true) (aj rfl rfl rfl rfl) (fc true rfl (ev rfl) (ev rfl) H2.out) ?_
    simp only [Act.put, aa, ae, af]
    refine ag (v := .bool true) rfl (aN rfl (ev rfl) (ev rfl)) ?_
    simp only [Act.put, aa, ae, af]
    refine wpList_nil ?_
    go_wp2_with fail
    go_ret2
    exact PRec.err HE.out (by decide) HB1.out rfl
theorem exec_idxNU {ρ : Operand → Value} {o : Oper} {x y : Operand} {w : World} {b off n c j : Nat} (ho : o.op = .indexAddr 86 x y) (hx : ρ x = .slice (some ⟨b, off, none⟩) n c) (hy : ρ y = .int .u64 (j : Int)) (hj : j < n) : (execOp ρ o).run Tryz.prog w = .ok (.value (.pointer (some ⟨b, off + j * 4, none⟩))) w := by
  have hs := eh aW w
  have hu : Tryz.prog.underlying 86 = some (.slice 70) := Tryz.underlying86
  have hs' : (sizeOf 70).run Tryz.prog w = .ok 4 w := hs
  exact dS ho hx hy (by simp [Instr.indexAt, asIntOf, run_underlying hu, add_mid, hs', hj])
set_option maxHeartbeats 2000000 in
theorem plrec_go {w0 w : World} {H K : Nat → Prop} {p q N : Nat} {v : Value} {M : BenS} {x : LgS} (s : Nat) (h : PJ w0 H K w p q v M x) (hk : LgOk M x N) (hs : s < 18446744073709551616) (hle : x.fst ≤ s ∧ s < x.next) : Calls Tryz.prog 24 #[.pointer (some ⟨p, 0, none⟩), .int .u64 (s : Nat)] w (PRec M x s w) := by
  obtain ⟨g, rfl⟩ : ∃ g, s = x.fst + g := ⟨s - x.fst, by omega⟩
  have hg : g < x.nts.length := by have := hle.2; unfold LgS.next at this; omega
  obtain ⟨n1, n2, n3, n4⟩ := hk.nts g hg
  have hend := hk.end_ hg
  have huse := hk.use
  have hhd := hk.hed
  have hlim := hk.lim
  have heig := hk.eig
  obtain ⟨y, hy⟩ : ∃ y, x.nts.getD g aG = y := ⟨_, rfl⟩
  obtain ⟨r1, r2⟩ := rcd_some (M := M) hg hy
  obtain ⟨A, c, rfl, h1, h2⟩ := h.log.slice
  obtain ⟨bg, off, rfl, hbg, hrg⟩ := h.log.row.rd.2 g hg
  rw [show aW.d = aG from rfl, hy] at hrg
  rw [hy] at n1 n2 n3 n4 hend
  have htk : 2 ≤ bf y ∧ bf y ≤ 34 := by unfold bf hd; omega
  have hps : y.pos + bf y ≤ 4611686018427387904 := by unfold LgS.head LgS.used at hhd; unfold LgS.used at hend; omega
  have HRA := Lib.hid r1
  have HRB := Lib.hid r2
  have HJ := Lib.hid h
  have HL := Lib.hid h.log
  have HK := Lib.hid hk
  have HG := Lib.hid hg
  have HRG := Lib.hid (show RngN w bg off g y from ⟨hbg, hrg⟩)
  have HCL := Lib.hid (show 1 ≤ y.cells ∧ y.cells ≤ 32 from ⟨n1, n2⟩)
  have HPS := Lib.hid hps
  have HTK := Lib.hid htk
  have H1 : Hid (decide (((x.fst + g : Nat) : Int) < (x.fst : Int)) = false) := Lib.hid (decide_eq_false (by omega))
  have H2 : Hid (decide ((x.next : Int) ≤ ((x.fst + g : Nat) : Int)) = false) := Lib.hid (decide_eq_false (by have := hle.2; omega))
  have HFL : Hid (x.fst + g < 18446744073709551616) := Lib.hid hs
  clear h hk hs hle hg n1 n2 n3 n4 hend huse hhd hlim heig hy r1 r2 h1 h2 hbg hrg htk hps
  go_enter Tryz.func24, Tryz.ntmps24
  go_upto_region 1 with fail
  refine wp_region_lit ?_
  refine ag rfl (ah rfl (ev rfl)) ?_
  simp only [Act.put, aa, ae, af]
  refine ao rfl (au Tryz.call56 rfl (evc (ev rfl) evn)) ?_
  refine (plmade _ HL.out).mono ?_
  rintro e w1 ⟨rfl, rfl⟩
  refine ⟨_, rfl, ?_⟩
  simp only [Act.put, aa, ae, af]
  refine ag (v := .bool false) rfl (aX true rfl (ev rfl)) ?_
  simp only [Act.put, aa, ae, af]
  refine wpList_nil ?_
  go_upto_region 3 with fail
  refine wp_region_lit ?_
  refine ag rfl (ah rfl (ev rfl)) ?_
  simp only [Act.put, aa, ae, af]
  refine ag rfl (ah rfl (ev rfl)) ?_
  simp only [Act.put, aa, ae, af]
  refine ag rfl (az rfl (ev rfl)) ?_
  simp only [Act.put, aa, ae, af]
  refine ag rfl (ak rfl (ev rfl) dG) ?_
  simp only [Act.put, aa, ae, af]
  refine ag rfl (ak rfl (ev rfl) faQm2) ?_
  simp only [Act.put, aa, ae, af]
  refine ag rfl (av rfl (ev rfl) (bR (PLg.c5 HL.out))) ?_
  simp only [Act.put, aa, ae, af]
  refine ag (v := .bool false) rfl (br false rfl (ev rfl) (ev rfl) H1.out) ?_
  simp only [Act.put, aa, ae, af]
  refine ag (v := .bool false) rfl (ah rfl (ev rfl)) ?_
  simp only [Act.put, aa, ae, af]
  refine ai (aj rfl rfl rfl rfl) (ah rfl (ev rfl)) ?_
  simp only [Act.put, aa, ae, af]
  refine ai (aj rfl rfl rfl rfl) (ah rfl (ev rfl)) ?_
  simp only [Act.put, aa, ae, af]
  refine ao (aj rfl rfl rfl rfl) (au Tryz.call57 rfl (evc (ev rfl) evn)) ?_
  refine (plnext w HL.out HK.out).mono ?_
  rintro e w1 ⟨rfl, hb1⟩
  have HB1 := Lib.hid hb1
  clear hb1
  refine ⟨_, rfl, ?_⟩
  simp only [Act.put, aa, ae, af]
  refine ai (v := .bool false) (aj rfl rfl rfl rfl) (fc false rfl (ev rfl) (ev rfl) H2.out) ?_
  simp only [Act.put, aa, ae, af]
  refine ag (v := .bool false) rfl (aN rfl (ev rfl) (ev rfl)) ?_
  simp only [Act.put, aa, ae, af]
  refine wpList_nil ?_
  have HJ1 := Lib.hid (HJ.out.below HB1.out)
  have HRG1 := Lib.hid (HRG.out.below HB1.out)
  have hS : PLg w1.drew p q (.slice (some ⟨bg, off, none⟩) x.nts.length c) x ∧ RngN w1.drew bg off g y := ⟨HJ1.out.drew.log, HRG1.out⟩
  go_upto_region 5 with fail
  refine bx (fun w' => PLg w' p q (.slice (some ⟨bg, off, none⟩) x.nts.length c) x ∧ RngN w' bg off g y) 14 (by kernel_rfl) ?_
  change cm _ _ _ _ _ _ 15 _ _ w1.drew
  refine ap 0 rfl (by kernel_rfl) (by kernel_rfl) (by kernel_rfl) (by decide) (by kernel_rfl) rfl (fun w' hw => ah rfl (ev rfl)) (fun _ _ _ h => h) hS ?_
  simp only [Act.put, aa, ae, af]
  refine ap 1 rfl (by kernel_rfl) (by kernel_rfl) (by kernel_rfl) (by decide) (by kernel_rfl) rfl (fun w' hw => az rfl (ev rfl)) (fun _ _ _ h => h) hS ?_
  simp only [Act.put, aa, ae, af]
  refine ap 2 rfl (by kernel_rfl) (by kernel_rfl) (by kernel_rfl) (by decide) (by kernel_rfl) rfl (fun w' hw => ak rfl (ev rfl) faQl4) (fun _ _ _ h => h) hS ?_
  simp only [Act.put, aa, ae, af]
  refine ap 3 rfl (by kernel_rfl) (by kernel_rfl) (by kernel_rfl) (by decide) (by kernel_rfl) rfl (fun w' hw => av rfl (ev rfl) (ldNts (PLg.c7 hw.1))) (fun _ _ _ h => h) hS ?_
  simp only [Act.put, aa, ae, af]
  refine ap 4 rfl (by kernel_rfl) (by kernel_rfl) (by kernel_rfl) (by decide) (by kernel_rfl) rfl (fun w' hw => ah rfl (ev rfl)) (fun _ _ _ h => h) hS ?_
  simp only [Act.put, aa, ae, af]
  refine ap 5 rfl (by kernel_rfl) (by kernel_rfl) (by kernel_rfl) (by decide) (by kernel_rfl) rfl (fun w' hw => ah rfl (ev rfl)) (fun _ _ _ h => h) hS ?_
  simp only [Act.put, aa, ae, af]
  refine ap 6 rfl (by kernel_rfl) (by kernel_rfl) (by kernel_rfl) (by decide) (by kernel_rfl) rfl (fun w' hw => az rfl (ev rfl)) (fun _ _ _ h => h) hS ?_
  simp only [Act.put, aa, ae, af]
  refine ap 7 rfl (by kernel_rfl) (by kernel_rfl) (by kernel_rfl) (by decide) (by kernel_rfl) rfl (fun w' hw => ak rfl (ev rfl) dG) (fun _ _ _ h => h) hS ?_
  simp only [Act.put, aa, ae, af]
  refine ap 8 rfl (by kernel_rfl) (by kernel_rfl) (by kernel_rfl) (by decide) (by kernel_rfl) rfl (fun w' hw => ak rfl (ev rfl) faQm2) (fun _ _ _ h => h) hS ?_
  simp only [Act.put, aa, ae, af]
  refine ap 9 rfl (by kernel_rfl) (by kernel_rfl) (by kernel_rfl) (by decide) (by kernel_rfl) rfl (fun w' hw => av rfl (ev rfl) (bR (PLg.c5 hw.1))) (fun _ _ _ h => h) hS ?_
  simp only [Act.put, aa, ae, af]
  refine ap 10 rfl (by kernel_rfl) (by kernel_rfl) (by kernel_rfl) (by decide) (by kernel_rfl) rfl (fun w' hw => exec_sbU rfl (ev rfl) (ev rfl) HFL.out) (fun _ _ _ h => h) hS ?_
  simp only [Act.put, aa, ae, af]
  refine ap 11 rfl (by kernel_rfl) (by kernel_rfl) (by kernel_rfl) (by decide) (by kernel_rfl) rfl (fun w' hw => exec_idxNU rfl (ev rfl) (ev rfl) HG.out) (fun _ _ _ h => h) hS ?_
  simp only [Act.put, aa, ae, af]
  refine ap 12 rfl (by kernel_rfl) (by kernel_rfl) (by kernel_rfl) (by decide) (by kernel_rfl) rfl (fun w' hw => aZ (c := y) rfl (ev rfl) hw.2.2) (fun _ _ _ h => h) hS ?_
  simp only [Act.put, aa, ae, af]
  refine bl 13 rfl (by kernel_rfl) rfl (ci rfl) (fun _ => ⟨(HJ1.out.below ((bd (Below.refl w1.heap.size w1)).alloc (Nat.le_refl _) _)).log, HRG1.out.below ((bd (Below.refl w1.heap.size w1)).alloc (Nat.le_refl _) _)⟩) ?_
  simp only [Act.put, aa, ae, af]
  refine ey 14 rfl (by kernel_rfl) rfl (dK (c := y) rfl (ev rfl) (ev rfl)) (fun e => absurd rfl e) ?_
  simp only [Act.put]
  refine b8 (by kernel_rfl) ?_ _
  have HY := Lib.hid (bT.new w1.drew y)
  have HB2 := Lib.hid ((bd (Below.refl w1.heap.size w1)).alloc (Nat.le_refl _) (.cells (aS y).toArray 70))
  have HLE : Hid (w1.heap.size < (w1.drew.alloc (.cells (aS y).toArray 70)).heap.size) := Lib.hid (by rw [World.size_alloc]; exact Nat.lt_succ_self _)
  (try rw [show w1.drew.heap.size = w1.heap.size from rfl])
  rw [show w1.drew.heap.size = w1.heap.size from rfl] at HY
  generalize w1.drew.alloc (.cells (aS y).toArray 70) = w2 at *
  have HJ2 := Lib.hid (HJ1.out.below HB2.out)
  have HB12 := Lib.hid (HB1.out.trans (HB2.out.mono HB1.out.size))
  have HW1 : Hid (w.heap.size ≤ w1.heap.size) := Lib.hid HB1.out.size
  clear hS HJ1 HRG1 HB2 HB1 HJ HL HRG
  generalize w1.heap.size = nb at *
  go_upto_region 6 with fail
  refine wp_region_lit ?_
  refine ag rfl (ah rfl (ev rfl)) ?_
  simp only [Act.put, aa, ae, af]
  refine ag rfl (aZ (c := y) rfl (ev rfl) HY.out.range) ?_
  simp only [Act.put, aa, ae, af]
  refine ao rfl (au Tryz.call74 rfl (evc (ev rfl) (evc (ev rfl) evn))) ?_
  refine (pllaid y HJ2.out HK.out HCL.out HPS.out).mono ?_
  rintro e w3 ⟨hb3, ⟨hE, gb, rfl, hh, hgb⟩ | ⟨hE, rfl⟩⟩
  rotate_left 1
  · have HE := Lib.hid (HRA.out.trans (if_neg hE))
    have HB3 := Lib.hid (HB12.out.trans (hb3.mono HB12.out.size))
    generalize bX M x.d (bV x.size y.pos) = E at *
    have hne : (E != 0) = true := by simpa using hE
    clear hb3
    refine ⟨_, rfl, ?_⟩
    simp only [Act.put, aa, ae, af]
    refine ag rfl (ah rfl (ev rfl)) ?_
    simp only [Act.put, aa, ae, af]
    refine ag rfl (aC rfl (ev rfl) rfl) ?_
    simp only [Act.put, aa, ae, af]
    refine ag rfl (aC rfl (ev rfl) rfl) ?_
    simp only [Act.put, aa, ae, af]
    refine ag rfl (aq rfl (ev rfl)) ?_
    simp only [Act.put, aa, ae, af]
    refine ag rfl (aq rfl (ev rfl)) ?_
    simp only [Act.put, aa, ae, af]
    refine wpList_nil ?_
    go_wp2_with fail
    go_ret2
    exact PRec.err HE.out hE HB3.out rfl
  have HE := Lib.hid (HRA.out.trans (if_pos hE))
  have HB3 := Lib.hid (HB12.out.trans (hb3.mono HB12.out.size))
  have HJ3 := Lib.hid (HJ2.out.below hb3)
  have HY3 := Lib.hid (HY.out.below HLE.out hb3)
  have HZ3 : Hid (nb < w3.heap.size) := Lib.hid (Nat.lt_of_lt_of_le HLE.out hb3.size)
  obtain ⟨R, hR⟩ : ∃ R, rcdL M x y = R := ⟨_, rfl⟩
  have hRl : R.length = bf y := by rw [← hR]; simp [rcdL]
  rw [hR] at hh HE
  have HRB2 : Hid (rcdC M x (x.fst + g) = if rcdE M x (x.fst + g) = 0 then rgC R y.cells else []) := Lib.hid (by rw [← hR]; exact HRB.out)
  have hrd := hh.rd (bf y) (Nat.le_of_eq hRl.symm)
  rw [List.take_of_length_le (Nat.le_of_eq hRl)] at hrd
  obtain ⟨t, ht⟩ : ∃ t, bf y = t := ⟨_, rfl⟩
  rw [ht] at hrd HTK ⊢
  have HRD := Lib.hid hrd
  clear hE hb3 hh hgb hR hRl hrd ht HRB HRA HJ2 HY HLE HB12
  refine ⟨_, rfl, ?_⟩
  simp only [Act.put, aa, ae, af]
  refine ag rfl (ah rfl (ev rfl)) ?_
  simp only [Act.put, aa, ae, af]
  refine ag rfl (aC rfl (ev rfl) rfl) ?_
  simp only [Act.put, aa, ae, af]
  refine ag rfl (aC rfl (ev rfl) rfl) ?_
  simp only [Act.put, aa, ae, af]
  refine ag rfl (aq rfl (ev rfl)) ?_
  simp only [Act.put, aa, ae, af]
  refine ag rfl (aq rfl (ev rfl)) ?_
  simp only [Act.put, aa, ae, af]
  refine wpList_nil ?_
  go_upto_region 7 with fail
  refine wp_region_lit ?_
  refine ag rfl (ah rfl (ev rfl)) ?_
  simp only [Act.put, aa, ae, af]
  refine ag (v := .bool false) rfl (aP false rfl (ev rfl) evk rfl) ?_
  simp only [Act.put, aa, ae, af]
  refine wpList_nil ?_
  by_cases hsum : sumB R = y.sum
  · have HNE : Hid (((sumB R : Int) != (y.sum : Int)) = false) := Lib.hid (by simp [hsum])
    have HF := Lib.hid (show rcdF R y = rgE R y.cells from if_pos hsum)
    clear hsum
    go_upto_region 9 with fail
    refine aE (B := w3.heap.size) (by kernel_rfl) ?_
    refine am rfl (fun w' hw => ah rfl (ev rfl)) ?_
    simp only [Act.put, aa, ae, af]
    refine a9 rfl (fun _ => au Tryz.call65 rfl (evc (ev rfl) evn)) (aU (Nat.le_refl _) fun w' hw => ((psum (some ⟨gb, 0, none⟩) t t w3.heap.size R w' (HJ3.out.below hw).tab.m.tab (HRD.out.below hw) (by have := HTK.out.2; omega)).mono fun e w'' hh => ⟨hh.1, by rw [hh.2]; exact Below.refl _ _⟩)) ?_
    simp only [Act.put, aa, ae, af]
    refine am rfl (fun w' hw => ak rfl (ev rfl) faNt3) ?_
    simp only [Act.put, aa, ae, af]
    refine am rfl (fun w' hw => av rfl (ev rfl) (ldU32 (HY3.out.below HZ3.out hw).cells.2.2.2)) ?_
    simp only [Act.put, aa, ae, af]
    refine am (v := .bool false) rfl (fun w' hw => aP false rfl (ev rfl) (ev rfl) HNE.out) ?_
    simp only [Act.put, aa, ae, af]
    refine wpQuiet_nil ?_
    intro w4 hw
    have HY4 := Lib.hid (HY3.out.below HZ3.out hw)
    have HRD4 := Lib.hid (HRD.out.below hw)
    have HB4 := Lib.hid (HB3.out.trans (hw.mono HB3.out.size))
    have HZ4 : Hid (w3.heap.size ≤ w4.heap.size) := Lib.hid hw.size
    clear hw HRD HY3
    go_upto_region 11 with fail
    refine wp_region_lit ?_
    refine ag rfl (ah rfl (ev rfl)) ?_
    simp only [Act.put, aa, ae, af]
    refine ag rfl (ak rfl (ev rfl) faNt2) ?_
    simp only [Act.put, aa, ae, af]
    refine ag rfl (av rfl (ev rfl) (bW HY4.out.cells.2.2.1)) ?_
    simp only [Act.put, aa, ae, af]
    refine ao rfl (au Tryz.call75 rfl (evc (ev rfl) (evc (ev rfl) evn))) ?_
    refine (pcget (some ⟨gb, 0, none⟩) t t w3.heap.size w4.heap.size R y.cells w4 (Lib.hid rfl) HRD4.out HZ4.out (Nat.le_refl _) (by have := HTK.out.2; unfold maxLen; omega)).mono ?_
    rintro e w5 ⟨v5, rfl, hm5, hb5⟩
    refine ⟨_, rfl, ?_⟩
    simp only [Act.put, aa, ae, af]
    refine ag rfl (aC rfl (ev rfl) rfl) ?_
    simp only [Act.put, aa, ae, af]
    refine ag rfl (aC rfl (ev rfl) rfl) ?_
    simp only [Act.put, aa, ae, af]
    refine ag rfl (aq rfl (ev rfl)) ?_
    simp only [Act.put, aa, ae, af]
    refine ag rfl (aq rfl (ev rfl)) ?_
    simp only [Act.put, aa, ae, af]
    refine wpList_nil ?_
    go_wp2_with fail
    go_ret2
    refine ⟨v5, ?_, ?_, HB4.out.trans (hb5.mono HB4.out.size)⟩
    · rw [HE.out, HF.out]
      rfl
    · rw [HRB2.out, HE.out, HF.out]
      by_cases h0 : (rgE R y.cells : Int) = 0
      · rw [if_pos h0]
        exact hm5.base HB4.out.size
      · rw [if_neg h0]
        have : rgC R y.cells = [] := rgC_no (by omega)
        rw [this] at hm5
        exact hm5.base HB4.out.size
  · have HNE : Hid (((sumB R : Int) != (y.sum : Int)) = true) := Lib.hid (by simp; omega)
    have HF := Lib.hid (show rcdF R y = 6 from if_neg hsum)
    clear hsum
    go_upto_region 9 with fail
    refine aE (B := w3.heap.size) (by kernel_rfl) ?_
    refine am rfl (fun w' hw => ah rfl (ev rfl)) ?_
    simp only [Act.put, aa, ae, af]
    refine a9 rfl (fun _ => au Tryz.call65 rfl (evc (ev rfl) evn)) (aU (Nat.le_refl _) fun w' hw => ((psum (some ⟨gb, 0, none⟩) t t w3.heap.size R w' (HJ3.out.below hw).tab.m.tab (HRD.out.below hw) (by have := HTK.out.2; omega)).mono fun e w'' hh => ⟨hh.1, by rw [hh.2]; exact Below.refl _ _⟩)) ?_
    simp only [Act.put, aa, ae, af]
    refine am rfl (fun w' hw => ak rfl (ev rfl) faNt3) ?_
    simp only [Act.put, aa, ae, af]
    refine am rfl (fun w' hw => av rfl (ev rfl) (ldU32 (HY3.out.below HZ3.out hw).cells.2.2.2)) ?_
    simp only [Act.put, aa, ae, af]
    refine am (v := .bool true) rfl (fun w' hw => aP true rfl (ev rfl) (ev rfl) HNE.out) ?_
    simp only [Act.put, aa, ae, af]
    refine wpQuiet_nil ?_
    intro w4 hw
    have HB4 := Lib.hid (HB3.out.trans (hw.mono HB3.out.size))
    clear hw
    go_wp2_with fail
    go_ret2
    exact PRec.err (HE.out.trans HF.out) (by decide) HB4.out rfl
theorem plrec {w0 w : World} {H K : Nat → Prop} {p q N : Nat} {v : Value} {M : BenS} {x : LgS} (s : Nat) (h : PJ w0 H K w p q v M x) (hk : LgOk M x N) (hs : s < 18446744073709551616) : Calls Tryz.prog 24 #[.pointer (some ⟨p, 0, none⟩), .int .u64 (s : Nat)] w (PRec M x s w) := by
  by_cases hle : x.fst ≤ s ∧ s < x.next
  · exact plrec_go s h hk hs hle
  · exact plrec_no s h hk hs hle
theorem run_bldLg2 {w : World} {q : Nat} {d : Int} : (Instr.build 88 #[(0, .pointer (some ⟨q, 0, none⟩)), (1, .int .i64 d)]).run Tryz.prog w = .ok (.agg #[.pointer (some ⟨q, 0, none⟩), .int .i64 d, .int .u64 0, .int .u64 0, .int .i64 0, .int .u64 0, .int .u64 0, .slice none 0 0]) w := by kernel_rfl
theorem exec_bldLg2 {ρ : Operand → Value} {o : Oper} {x1 x2 : Operand} {w : World} {q : Nat} {d : Int} (ho : o.op = .build 88 #[(0, x1), (1, x2)]) (h1 : ρ x1 = .pointer (some ⟨q, 0, none⟩)) (h2 : ρ x2 = .int .i64 d) :
    (execOp ρ o).run Tryz.prog w = .ok (.value (.agg #[.pointer (some ⟨q, 0, none⟩), .int .i64 d, .int .u64 0, .int .u64 0, .int .i64 0, .int .u64 0, .int .u64 0, .slice none 0 0])) w := by
  unfold execOp
  simp only [ho, h1, h2, List.map_toArray, List.map_cons, List.map_nil, Sem.run_bind, run_bldLg2, Result.andThen_ok, Sem.run_pure]
def LgS.none (d : Nat) : LgS := ⟨d, 0, 0, 0, 0, 0, []⟩
theorem nX_may {a b : Blk} (h : aR.nE a b = 0) : aR.may (aR.nX a b) = true := by
  unfold Cod.nX
  unfold Cod.nE at h
  split
  · rename_i hlt
    have : aR.gE b = 0 := by
      by_cases e : aR.gE b = 0
      · exact e
      · have := aR.gN_no e; omega
    exact aR.gX_may this
  · rename_i hlt
    have : aR.gE a = 0 := by
      by_cases e : aR.gE a = 0
      · exact e
      · have h0 := aR.gN_no e
        rw [if_pos ⟨h0, by omega⟩] at h
        omega
    exact aR.gX_may this
def Lost (w0 : World) (H : Nat → Prop) (q : Nat) (M : BenS) (w : World) : Prop := ∃ G, bi.Bn w G q M ∧ Only H w0 w ∧ Grow w0 H G
theorem PJ.lost {w0 w w' : World} {H K : Nat → Prop} {p q : Nat} {v : Value} {M : BenS} {x : LgS} (h : PJ w0 H K w p q v M x) (ho : Only (cM p v) w w') : Lost w0 H q M w' := by
  obtain ⟨G, h1, h2, h3, h4, h5, _⟩ := h
  exact ⟨G, bi.only h1 ho fun b hg e => h3 b e hg, h4.trans ho fun b e => h5 b (.inr e), fun b e => h5 b (.inl e)⟩
theorem Lost.below {w0 w w' : World} {H : Nat → Prop} {q : Nat} {M : BenS} (h : Lost w0 H q M w) (hb : Below w.heap.size w w') : Lost w0 H q M w' := by
  obtain ⟨G, h1, h2, h3⟩ := h
  exact ⟨G, bi.below h1 hb, h2.cJ hb, h3⟩
theorem PNew.lost {w w1 w' : World} {G H : Nat → Prop} {p q : Nat} {v0 : Value} {M' : BenS} {x' : LgS} {E : Int} {e : Ending} (hb : Below w.heap.size w w1) (hH : ∀ b, H b → G b ∨ cM p v0 b) (hp : ∀ b, cM p v0 b → w.heap.size ≤ b) (h : Lost w1 H q M' w') (h0 : E ≠ 0) (he : e = .returned (.tuple #[.pointer none, .int .i64 E])) : PNew bi.Bn pJ w G q E M' x' e w' := by
  obtain ⟨G', h1, h4, h5⟩ := h
  have hs := hb.size
  refine ⟨G', (Only.of_below G hb).trans h4 fun b hb' => (hH b hb').imp id (hp b), fun b hb' => ?_, .inr ⟨h0, he, h1⟩⟩
  rcases h5 b hb' with e | e
  · exact (hH b e).imp id (hp b)
  · exact .inr (by omega)
def rmF (p : Nat) : Fv := ⟨72, [ptr p], [], Tryz.call72⟩
def rnF (p : Nat) : Fv := ⟨73, [ptr p], [], Tryz.call73⟩
theorem opn_at {M : BenS} {d : Nat} (h : opnE M (d : Int) = 0) : RnS M (opnL M (d : Int)) d 0 (opnX M (d : Int)) := by
  obtain ⟨h1, h2, h3⟩ := opn_base h
  obtain ⟨_, _, b3, b4, b5⟩ : aR.nE (cC M (d : Int) 0) (cC M (d : Int) 1) = 0 ∧ (dp M (d : Int)).m.ring ≤ ca M (d : Int) - 10 ∧ (dp M (d : Int)).n ≤ 2305843009213693952 ∧ (dp M (d : Int)).m.first ≤ 2305843009213693952 ∧ (dp M (d : Int)).m.pos ≤ 2305843009213693952 := of_decide_eq_true h3
  exact ⟨opn_ok0 h, Int.toNat_natCast _, Nat.le_refl _, rfl, b4, b5⟩
theorem opnN_keeps {M : BenS} : ∀ (k : Nat) (x : LgS), (opnN M k x).own = x.own ∧ (opnN M k x).fst = x.fst
  | 0, x => ⟨rfl, rfl⟩
  | k + 1, x => by
    unfold opnN
    split
    · exact opnN_keeps k _
    · exact ⟨rfl, rfl⟩
theorem opn_own {M : BenS} {d : Nat} (h : opnE M (d : Int) = 0) : (opnL M (d : Int)).own ≠ 0 ∧ 1 ≤ (opnL M (d : Int)).fst := by
  obtain ⟨_, _, h3⟩ := opn_base h
  obtain ⟨b1, _⟩ : aR.nE (cC M (d : Int) 0) (cC M (d : Int) 1) = 0 ∧ (dp M (d : Int)).m.ring ≤ ca M (d : Int) - 10 ∧ (dp M (d : Int)).n ≤ 2305843009213693952 ∧ (dp M (d : Int)).m.first ≤ 2305843009213693952 ∧ (dp M (d : Int)).m.pos ≤ 2305843009213693952 := of_decide_eq_true h3
  have hm := nX_may b1
  obtain ⟨k1, k2⟩ := opnN_keeps (M := M) 8 (opnX M (d : Int))
  unfold opnL
  rw [k1, k2]
  unfold opnX
  show (dp M (d : Int)).m.id ≠ 0 ∧ 1 ≤ (dp M (d : Int)).m.first
  unfold dp
  rw [eB, Bool.and_eq_true] at hm
  obtain ⟨r1, _, _, r2, _⟩ := of_mrkB hm.2
  exact ⟨r1, r2⟩
theorem opn_Q {M : BenS} {d : Int} (h : 40 ≤ ca M d - 10) : dx M d = 0 ∧ 50 ≤ ca M d ∧ (∃ k : Nat, d = (k : Int)) ∧ opnE M d = rmE M d := by
  have h1 : dx M d = 0 := by
    by_cases e : dx M d = 0
    · exact e
    · have : ca M d = 0 := by unfold ca; rw [if_neg e]
      omega
  have h2 : 50 ≤ ca M d := by omega
  have hq : opnQ M d = true := decide_eq_true ⟨h1, h2⟩
  refine ⟨h1, h2, ?_, if_pos hq⟩
  rcases dF M d with ⟨e, _⟩ | ⟨_, k, hk, _⟩
  · omega
  · exact ⟨k, hk⟩
theorem opn_no {M : BenS} {d : Int} (h : ca M d - 10 < 40) : opnE M d = 2 := by
  have hq : ¬ opnQ M d = true := fun e => by
    obtain ⟨_, e2⟩ := of_decide_eq_true e
    omega
  exact if_neg hq
theorem opn_chain {w0 w : World} {H K : Nat → Prop} {p q dn : Nat} {M : BenS} (h : PJ w0 H (fun _ => False) w p q (.slice none 0 0) M (LgS.none dn)) (hK : ∀ b, K b → b < w.heap.size ∧ b ≠ p) (h1 : dx M (dn : Int) = 0) (h2 : 50 ≤ ca M (dn : Int)) :
    Chn K (fun E w' => E = rmE M (dn : Int) ∧ (E = 0 → ∃ v', PJ w0 H (fun _ => False) w' p q v' M (opnL M (dn : Int))) ∧ Lost w0 H q M w') [rmF p, rnF p] w := fun w1 hb1 => by
  have hj1 := h.below hb1
  have hs1 := hb1.size
  refine (plreadMark hj1 rfl h1 h2).mono fun e w2 ⟨he, ho, hx⟩ => ?_
  have hs2 := ho.size
  refine ⟨fun b hb => ho.block b (by have := (hK b hb).1; omega) (hK b hb).2, rmE M (dn : Int), he, ?_⟩
  by_cases h0 : rmE M (dn : Int) = 0
  · left
    refine ⟨h0, fun w3 hb3 => ?_⟩
    have hE : opnE M (dn : Int) = 0 := ((opn_Q (M := M) (d := (dn : Int)) (by omega)).2.2.2).trans h0
    have hj2 := hj1.grow (ho.wide (G := cM p (.slice none 0 0)) fun b e => .inl e) (hx h0) (fun b e => .inl e)
    have hj3 := hj2.below hb3
    have hs3 := hb3.size
    refine (plreadNotes hj3 (opn_at hE) h1 h2 (opn_base hE).2.1).mono fun e w4 ⟨he4, ho4, v', hl4, hv4⟩ => ?_
    refine ⟨fun b hb => ho4.block b (by have := (hK b hb).1; omega) (hK b hb).2, 0, he4, .inl ⟨rfl, fun w5 hb5 => ?_⟩⟩
    have hj4 := hj3.grow (ho4.wide (G := cM p (.slice none 0 0)) fun b e => .inl e) hl4 (fun b e => .inr (hv4 b e))
    have hj5 := hj4.below hb5
    exact ⟨h0.symm, fun _ => ⟨v', hj5⟩, hj5.lost (Only.refl _ _)⟩
  · right
    exact ⟨h0, fun w3 hb3 => ⟨rfl, fun e => absurd e h0, (hj1.lost (ho.wide fun b e => .inl e)).below hb3⟩⟩
theorem plopen_no {w : World} {G : Nat → Prop} {q : Nat} {M : BenS} (d : Int) (hb : bi.Bn w G q M) (hT : TbG w G) (h : ca M d - 10 < 40) : Calls Tryz.prog 22 #[.pointer (some ⟨q, 0, none⟩), .int .i64 d] w (PNew bi.Bn pJ w G q (opnE M d) M (opnL M d)) := by
  rw [opn_no h]
  have HB := Lib.hid hb
  have H1 := Lib.hid (decide_eq_true h)
  clear hb hT h
  go_enter Tryz.func22, Tryz.ntmps22
  go_upto_region 1 with fail
  refine wp_region_lit ?_
  refine ag rfl (ah rfl (ev rfl)) ?_
  simp only [Act.put, aa, ae, af]
  refine ao rfl (au Tryz.call70 rfl (evc (ev rfl) evn)) ?_
  refine (pbmade HB.out).mono ?_
  rintro e w1 ⟨rfl, hb1⟩
  refine ⟨_, rfl, ?_⟩
  simp only [Act.put, aa, ae, af]
  refine ag (v := .bool false) rfl (aX true rfl (ev rfl)) ?_
  simp only [Act.put, aa, ae, af]
  refine wpList_nil ?_
  have HB1 := Lib.hid hb1
  clear hb1
  go_upto_region 3 with fail
  refine wp_region_lit ?_
  refine ag rfl (ah rfl (ev rfl)) ?_
  simp only [Act.put, aa, ae, af]
  refine ag rfl (ah rfl (ev rfl)) ?_
  simp only [Act.put, aa, ae, af]
  refine ao rfl (au Tryz.call71 rfl (evc (ev rfl) (evc (ev rfl) evn))) ?_
  refine (proom d (bi.below HB.out HB1.out)).mono ?_
  rintro e w2 ⟨rfl, hb2⟩
  have HB2 := Lib.hid (HB1.out.trans (hb2.mono HB1.out.size))
  clear hb2
  refine ⟨_, rfl, ?_⟩
  simp only [Act.put, aa, ae, af]
  refine ag (v := .bool true) rfl (br true rfl (ev rfl) evk H1.out) ?_
  simp only [Act.put, aa, ae, af]
  refine wpList_nil ?_
  go_wp2_with fail
  go_ret2
  exact PNew.same HB.out HB2.out (by decide) rfl
set_option maxHeartbeats 2000000 in
theorem plopen_go {w : World} {G : Nat → Prop} {q : Nat} {M : BenS} (d : Int) (hb : bi.Bn w G q M) (hT : TbG w G) (h : ¬ ca M d - 10 < 40) : Calls Tryz.prog 22 #[.pointer (some ⟨q, 0, none⟩), .int .i64 d] w (PNew bi.Bn pJ w G q (opnE M d) M (opnL M d)) := by
  obtain ⟨q1, q2, ⟨dn, rfl⟩, q3⟩ := opn_Q (M := M) (d := d) (by omega)
  have HB := Lib.hid hb
  have HT := Lib.hid hT
  have H1 := Lib.hid (decide_eq_false h)
  have HQ1 := Lib.hid q1
  have HQ2 := Lib.hid q2
  have HQ3 := Lib.hid q3
  clear hb hT h q1 q2 q3
  go_enter Tryz.func22, Tryz.ntmps22
  go_upto_region 1 with fail
  refine wp_region_lit ?_
  refine ag rfl (ah rfl (ev rfl)) ?_
  simp only [Act.put, aa, ae, af]
  refine ao rfl (au Tryz.call70 rfl (evc (ev rfl) evn)) ?_
  refine (pbmade HB.out).mono ?_
  rintro e w1 ⟨rfl, hb1⟩
  refine ⟨_, rfl, ?_⟩
  simp only [Act.put, aa, ae, af]
  refine ag (v := .bool false) rfl (aX true rfl (ev rfl)) ?_
  simp only [Act.put, aa, ae, af]
  refine wpList_nil ?_
  have HB1 := Lib.hid hb1
  clear hb1
  go_upto_region 3 with fail
  refine wp_region_lit ?_
  refine ag rfl (ah rfl (ev rfl)) ?_
  simp only [Act.put, aa, ae, af]
  refine ag rfl (ah rfl (ev rfl)) ?_
  simp only [Act.put, aa, ae, af]
  refine ao rfl (au Tryz.call71 rfl (evc (ev rfl) (evc (ev rfl) evn))) ?_
  refine (proom (dn : Int) (bi.below HB.out HB1.out)).mono ?_
  rintro e w2 ⟨rfl, hb2⟩
  have HB2 := Lib.hid (HB1.out.trans (hb2.mono HB1.out.size))
  clear hb2
  refine ⟨_, rfl, ?_⟩
  simp only [Act.put, aa, ae, af]
  refine ag (v := .bool false) rfl (br false rfl (ev rfl) evk H1.out) ?_
  simp only [Act.put, aa, ae, af]
  refine wpList_nil ?_
  go_upto_region 5 with fail
  refine wp_region_lit ?_
  refine ag rfl (ah rfl (ev rfl)) ?_
  simp only [Act.put, aa, ae, af]
  refine ag rfl (ah rfl (ev rfl)) ?_
  simp only [Act.put, aa, ae, af]
  refine ag rfl (exec_bldLg2 rfl (ev rfl) (ev rfl)) ?_
  simp only [Act.put, aa, ae, af]
  refine ag rfl (exec_boxLgP (q := q) (v := .slice none 0 0) (x := LgS.none dn) rfl (ev rfl)) ?_
  simp only [Act.put, aa, ae, af]
  refine ag rfl (aq rfl (ev rfl)) ?_
  simp only [Act.put, aa, ae, af]
  refine wpList_nil ?_
  have HJ4 := Lib.hid (PJ.first (x := LgS.none dn) HB.out HT.out HB2.out rfl)
  have HB4 := Lib.hid (HB2.out.alloc HB2.out.size (.cells (plgC q (.slice none 0 0) (LgS.none dn)).toArray 88))
  have HPW : Hid (w.heap.size ≤ w2.heap.size) := Lib.hid HB2.out.size
  have HZ4 : Hid (w2.heap.size < (w2.alloc (.cells (plgC q (.slice none 0 0) (LgS.none dn)).toArray 88)).heap.size) := Lib.hid (by rw [World.size_alloc]; omega)
  generalize w2.alloc (.cells (plgC q (.slice none 0 0) (LgS.none dn)).toArray 88) = w4 at *
  clear HB2 HB1
  generalize w2.heap.size = p at *
  go_upto_region 6 with fail
  refine wp_region_lit ?_
  refine ag rfl (ah rfl (ev rfl)) ?_
  simp only [Act.put, aa, ae, af]
  refine ag rfl (eM rfl (ev rfl)) ?_
  simp only [Act.put, aa, ae, af]
  refine ag rfl (ah rfl (ev rfl)) ?_
  simp only [Act.put, aa, ae, af]
  refine ag rfl (eM rfl (ev rfl)) ?_
  simp only [Act.put, aa, ae, af]
  refine ag rfl (exec_mk2F (s1 := rmF p) (s2 := rnF p) rfl (ev rfl) (ev rfl)) ?_
  simp only [Act.put, aa, ae, af]
  have HAL := Lib.hid ((Below.refl w4.heap.size w4).alloc (Nat.le_refl _) (.cells #[(rmF p).val, (rnF p).val] 108))
  have HRD := Lib.hid (rdF_new2 w4 (rmF p) (rnF p))
  have HZ5 : Hid (w4.heap.size + 1 = (w4.alloc (.cells #[(rmF p).val, (rnF p).val] 108)).heap.size) := Lib.hid (by rw [World.size_alloc])
  have HJ5 := Lib.hid (HJ4.out.below HAL.out)
  (try change wpList _ _ _ _ _ (w4.alloc (.cells #[(rmF p).val, (rnF p).val] 108)))
  generalize w4.alloc (.cells #[(rmF p).val, (rnF p).val] 108) = w5 at *
  have HCH := Lib.hid (opn_chain (K := fun b => b = w4.heap.size) HJ5.out (fun b e => by subst e; exact ⟨by have := HZ5.out; omega, fun e => by have := HZ4.out; omega⟩) HQ1.out HQ2.out)
  refine ao rfl (au Tryz.call59 rfl (evc (ev rfl) evn)) ?_
  refine (ptaken (some ⟨w4.heap.size, 0, none⟩) 2 2 (w4.heap.size + 1) [rmF p, rnF p] w5 (fun b => b = w4.heap.size) _ HRD.out (Nat.le_of_eq HZ5.out) (by omega) (fun b off e => by injection e with e; injection e with e1 e2; exact e1.symm) HCH.out).mono ?_
  rintro e w10 ⟨E, rfl, hE, hj10, hl10⟩
  have HL10 := Lib.hid hl10
  clear hl10
  refine ⟨_, rfl, ?_⟩
  simp only [Act.put, aa, ae, af]
  refine ag rfl (aq rfl (ev rfl)) ?_
  simp only [Act.put, aa, ae, af]
  refine wpList_nil ?_
  rw [← HQ3.out] at hE
  have HHF : Hid (∀ b, (G b ∨ cM p (.slice none 0 0) b) → G b ∨ cM p (.slice none 0 0) b) := Lib.hid fun b e => e
  have HPF : Hid (∀ b, cM p (.slice none 0 0) b → w.heap.size ≤ b) := Lib.hid fun b e => by
    rcases e with rfl | e
    · exact HPW.out
    · simp [Value.ownBlock] at e
  have HEE := Lib.hid hE
  by_cases h0 : E = 0
  · obtain ⟨v10, hj⟩ := hj10 h0
    have HJ10 := Lib.hid hj
    subst h0
    clear hE hj10 hj
    go_wp2_with fail
    go_ret2
    rw [← HEE.out]
    exact PNew.of HB4.out HHF.out HPF.out HJ10.out (.inl ⟨rfl, rfl, opn_own HEE.out.symm⟩) fun _ => rfl
  · have hne : (E != 0) = true := by simpa using h0
    clear hE hj10
    go_wp2_with fail
    go_ret2
    rw [← HEE.out]
    exact PNew.lost HB4.out HHF.out HPF.out HL10.out h0 rfl
theorem plopen {w : World} {G : Nat → Prop} {q : Nat} {M : BenS} (d : Int) (hb : bi.Bn w G q M) (hT : TbG w G) : Calls Tryz.prog 22 #[.pointer (some ⟨q, 0, none⟩), .int .i64 d] w (PNew bi.Bn pJ w G q (opnE M d) M (opnL M d)) := by
  by_cases h : ca M d - 10 < 40
  · exact plopen_no d hb hT h
  · exact plopen_go d hb hT h
section
variable {w w' : World} {G F : Nat → Prop} {q p : Nat} {M M' : BenS} {x x' : LgS}
theorem pJ.lt (h : pJ w G q p M x) : ∀ b, G b → b < w.heap.size := by
  obtain ⟨v, Gb, h1, h2, h3, rfl, _⟩ := h
  exact fun b hb => hb.elim (bi.lt h1 b) (h2.lt b)
theorem pJ.only (h : pJ w G q p M x) (ho : Only F w w') (hn : ∀ b, G b → ¬ F b) : pJ w' G q p M x := by
  obtain ⟨v, Gb, h1, h2, h3, rfl, h4⟩ := h
  exact ⟨v, Gb, bi.only h1 ho fun b e => hn b (.inl e), h2.only ho fun b e => hn b (.inr e), h3, rfl, h4⟩
theorem pJ.ben (h : pJ w G q p M x) : ∃ Gb, bi.Bn w Gb q M ∧ (∀ b, Gb b → G b) ∧ ∀ w' Gb' M', bi.Bn w' Gb' q M' → Only Gb w w' → Grow w Gb Gb' → ∃ G', pJ w' G' q p M' x ∧ Only G w w' ∧ Grow w G G' ∧ ∀ b, Gb' b → G' b := by
  obtain ⟨v, Gb, h1, h2, h3, rfl, h4⟩ := h
  refine ⟨Gb, h1, fun b e => .inl e, fun w' Gb' M' k1 k2 k3 => ⟨_, ⟨v, Gb', k1, h2.only k2 h3, fun b hb hg => ?_, rfl, h4⟩, k2.wide fun b e => .inl e, fun b hb => ?_, fun b e => .inl e⟩⟩
  · rcases k3 b hg with e | e
    · exact h3 b hb e
    · have := h2.lt b hb; omega
  · rcases hb with e | e
    · exact (k3 b e).imp .inl id
    · exact .inl (.inr e)
theorem pJ.live (h : pJ w G q p M x) {N : Nat} (hk : LgOk M x N) : Calls Tryz.prog 23 #[.pointer (some ⟨p, 0, none⟩)] w fun e w' => e = .returned (.tuple #[.int .u64 ((x.fst : Nat) : Int), .int .u64 ((x.next : Nat) : Int)]) ∧ Below w.heap.size w w' := by
  obtain ⟨v, Gb, h1, h2, _⟩ := h
  exact pllive w h2 hk
theorem pJ.free (h : pJ w G q p M x) {N : Nat} (hk : LgOk M x N) : Calls Tryz.prog 31 #[.pointer (some ⟨p, 0, none⟩)] w fun e w' => e = .returned (.int .i64 ((x.free : Nat) : Int)) ∧ Below w.heap.size w w' := by
  obtain ⟨v, Gb, h1, h2, _⟩ := h
  exact plfree w h2 hk
theorem pJ.id_ (h : pJ w G q p M x) : Calls Tryz.prog 36 #[.pointer (some ⟨p, 0, none⟩)] w fun e w' => e = .returned (.int .u64 ((x.own : Nat) : Int)) ∧ Below w.heap.size w w' := by
  obtain ⟨v, Gb, h1, h2, _⟩ := h
  exact plid w h2
theorem pJ.ring_ (h : pJ w G q p M x) : Calls Tryz.prog 32 #[.pointer (some ⟨p, 0, none⟩)] w fun e w' => e = .returned (.int .i64 ((x.size : Nat) : Int)) ∧ Below w.heap.size w w' := by
  obtain ⟨v, Gb, h1, h2, _⟩ := h
  exact plring w h2
end
theorem app_keeps {M : BenS} {x : LgS} {cs : List Cl} : (appX M x cs).own = x.own ∧ (appX M x cs).fst = x.fst := by
  unfold appX
  split
  · exact ⟨rfl, rfl⟩
  · exact ⟨rfl, rfl⟩
theorem clr_keeps {M : BenS} {x : LgS} {f : Nat} (h : 1 ≤ x.fst) : (clrX M x f).own = x.own ∧ 1 ≤ (clrX M x f).fst := by
  unfold clrX
  split
  · rename_i he
    refine ⟨rfl, ?_⟩
    show 1 ≤ f
    by_cases hq : clrQ x f = true
    · have := (of_clrQ hq).1; omega
    · unfold clrE at he
      rw [if_neg hq] at he
      cases he
  · exact ⟨rfl, h⟩
def eA : LogI where
  R := bi
  J := pJ
  lt := fun h => h.lt
  only := fun h => h.only
  ben := fun h => h.ben
  open_ := fun d hb hT => plopen d hb hT
  lay := fun d id r hb hT hr hid => pllay d id r hb hT hr hid
  app := fun A n c N0 cs h hT hk hr hc hN0 hn => by
    obtain ⟨v, hj, ho, hf⟩ := h.start hT
    exact (plappend A n c N0 cs hj hk hr hc hN0 hn hf).mono fun e w' ⟨he, v', hj'⟩ => ⟨he, hj'.end_ (by rw [app_keeps.1]; exact ho) (by rw [app_keeps.2]; exact hf)⟩
  rec_ := fun s h hT hk hs => by
    obtain ⟨v, hj, ho, hf⟩ := h.start hT
    exact plrec s hj hk hs
  clr := fun f h hT hk hr hf => by
    obtain ⟨v, hj, ho, h1⟩ := h.start hT
    exact (plclear f hj hk hr hf ho h1).mono fun e w' ⟨he, v', hj'⟩ => ⟨he, hj'.end_ (by rw [(clr_keeps h1).1]; exact ho) (clr_keeps h1).2⟩
  live := fun h hk => h.live hk
  free := fun h hk => h.free hk
  id := fun h _ => h.id_
  ring := fun h _ => h.ring_
open Go.RowKit Go.ChangeShapes Go.WideShapes Go.ChangeAt Go.Deep
theorem cellsB : Tryz.prog.cellsOf 65 = 64 := by kernel_rfl
section
variable {H : Type} {enc : TypeId × Value → H} {W : World} {base : Nat} {v : Value} {d : DataW H} {p : List MemPlace}
theorem one_u8 {m : Nat} {x : Value} {y : DataW H × List MemPlace} (h : DataW.trod enc Tryz.prog W 0 (fun _ => true) true m 5 [x] = some y) : ∃ u : UInt8, x = .int .u8 (u.toNat : Int) := by
  obtain ⟨k, e, _, hw⟩ := DataW.trod_int Tryz.underlying5 h
  have hr : 0 ≤ k ∧ k ≤ 255 := bounds_u8 hw
  injection e with e
  refine ⟨UInt8.ofNat k.toNat, ?_⟩
  rw [e, UInt8.toNat_ofNat']
  congr 1
  omega
theorem cel_of_trod {fuel : Nat} {cs : List Value} {x : DataW H × List MemPlace} (h : DataW.trod enc Tryz.prog W 0 (fun _ => true) true fuel 65 cs = some x) : ∃ b : Blk, cs = cel b := by
  obtain ⟨xs, m, _, _, hlen, hn, hel⟩ := DataW.trod_array undB h
  rw [cellsB] at hlen
  rw [u8cells] at hel
  have hu : ∀ i : Fin 64, ∃ u : UInt8, cs[i.val]? = some (.int .u8 (u.toNat : Int)) := fun i => by
    have h1 := hel i.val i.isLt
    have hi : i.val < cs.length := by have := i.isLt; omega
    have hd : (cs.drop (i.val * 1)).take 1 = [cs[i.val]] := by
      rw [Nat.mul_one, List.drop_eq_getElem_cons hi]
      rfl
    have hx : i.val < xs.length := by have := i.isLt; omega
    rw [hd, List.getElem?_eq_getElem hx] at h1
    obtain ⟨u, hu⟩ := one_u8 h1
    exact ⟨u, by rw [List.getElem?_eq_getElem hi, hu]⟩
  obtain ⟨f, hf⟩ := Classical.axiomOfChoice hu
  refine ⟨Vector.ofFn f, ?_⟩
  apply List.ext_getElem?
  intro i
  by_cases hi : i < 64
  · rw [hf ⟨i, hi⟩, dX _ hi, eR _ hi]
    simp
  · rw [List.getElem?_eq_none (by omega), List.getElem?_eq_none (by rw [ax]; omega)]
end
theorem cellsI : Tryz.prog.cellsOf 3 = 1 := by kernel_rfl
section
variable {H : Type} {enc : TypeId × Value → H} {W : World} {base : Nat} {v : Value} {d : DataW H} {p : List MemPlace}
theorem at_int {m : Nat} {x : Value} {y : DataW H × List MemPlace} (h : DataW.trod enc Tryz.prog W 0 (fun _ => true) true m 3 [x] = some y) : ∃ k : Int, x = .int .i64 k := by
  obtain ⟨k, e, _, hw⟩ := DataW.trod_int Tryz.underlying3 h
  injection e with e
  exact ⟨k, e⟩
end
theorem cellsC : Tryz.prog.cellsOf 104 = 66 := by kernel_rfl
theorem cellsPl : Tryz.prog.cellsOf 102 = 2 := by kernel_rfl
section
variable {H : Type} {enc : TypeId × Value → H} {W : World} {base : Nat} {v : Value} {d : DataW H} {p : List MemPlace}
theorem at_place {fuel : Nat} {cs : List Value} {x : DataW H × List MemPlace} (h : DataW.trod enc Tryz.prog W 0 (fun _ => true) true fuel 102 cs = some x) : ∃ s m : Int, cs = celP s m := by
  obtain ⟨xs, k, _, _, hlen, hn, hel⟩ := DataW.trod_struct Tryz.underlying102 h
  rw [cellsPl] at hlen
  have hn' : xs.length = 2 := hn
  match cs, hlen, xs, hn' with
  | [a, b], _, [y0, y1], _ =>
    have e0 : DataW.trod enc Tryz.prog W 0 (fun _ => true) true k 3 ((List.drop 0 [a, b]).take (Tryz.prog.cellsOf 3)) = some y0 := hel 0 _ rfl
    rw [cellsI] at e0
    have e1 : DataW.trod enc Tryz.prog W 0 (fun _ => true) true k 3 ((List.drop 1 [a, b]).take (Tryz.prog.cellsOf 3)) = some y1 := hel 1 _ rfl
    rw [cellsI] at e1
    obtain ⟨s, rfl⟩ := at_int (show DataW.trod enc Tryz.prog W 0 (fun _ => true) true k 3 [a] = some y0 from e0)
    obtain ⟨m, rfl⟩ := at_int (show DataW.trod enc Tryz.prog W 0 (fun _ => true) true k 3 [b] = some y1 from e1)
    exact ⟨s, m, rfl⟩
theorem at_cell {fuel : Nat} {cs : List Value} {x : DataW H × List MemPlace} (h : DataW.trod enc Tryz.prog W 0 (fun _ => true) true fuel 104 cs = some x) : ∃ c : Cl, cs = cp c := by
  obtain ⟨xs, k, _, _, hlen, hn, hel⟩ := DataW.trod_struct Tryz.underlying104 h
  rw [cellsC] at hlen
  have hn' : xs.length = 2 := hn
  match xs, hn' with
  | [y0, y1], _ =>
    have e0 : DataW.trod enc Tryz.prog W 0 (fun _ => true) true k 102 ((List.drop 0 cs).take (Tryz.prog.cellsOf 102)) = some y0 := hel 0 _ rfl
    rw [cellsPl] at e0
    have e1 : DataW.trod enc Tryz.prog W 0 (fun _ => true) true k 65 ((List.drop 2 cs).take (Tryz.prog.cellsOf 65)) = some y1 := hel 1 _ rfl
    rw [cellsB] at e1
    obtain ⟨s, m, h0⟩ := at_place e0
    obtain ⟨b, h1⟩ := cel_of_trod e1
    refine ⟨⟨s, m, b⟩, ?_⟩
    have e : cs = (cs.drop 0).take 2 ++ (cs.drop 2).take 64 := by
      rw [List.drop_zero, List.take_of_length_le (l := cs.drop 2) (by simp; omega), List.take_append_drop]
    rw [e, h0, h1]
    rfl
end
end Go.Proofs.YtcafafdimcecpaaGreatDoor
