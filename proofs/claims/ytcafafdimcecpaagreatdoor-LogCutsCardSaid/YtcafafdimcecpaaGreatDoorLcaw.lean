import Derived.Test.YtcafafdimcecpaaGreatDoorLcag
import Derived.Test.YtcafafdimcecpaaGreatDoorLcao
import Derived.Test.YtcafafdimcecpaaGreatDoorLcab
import Derived.Test.YtcafafdimcecpaaGreatDoorLcah
import Derived.Deep.DeepCutAuto
import Derived.Test.YtcafafdimcecpaaGreatDoorLcau
import Derived.Test.YtcafafdimcecpaaGreatDoorLcav
import Derived.Test.YtcafafdimcecpaaGreatDoorLcai
import Derived.Test.YtcafafdimcecpaaGreatDoorLcZ
namespace Go.Proofs.YtcafafdimcecpaaGreatDoor
open Go.RowKit
set_option linter.unusedVariables false
set_option linter.unusedSimpArgs false
set_option maxRecDepth 100000
theorem rd_rng {w : World} {b o N : Nat} {x : Blk} (h : w.rangeAt b o (cel x)) (hb : b < N) : Rd w N (some ⟨b, o, none⟩) 64 x.toList :=
  ⟨cx x, fun k hk => ⟨b, o, rfl, hb, h k _ (dX x hk)⟩⟩
set_option maxHeartbeats 2000000 in
theorem psum (A : Option Addr) (n c N : Nat) (l : List Blk) (w : World) (T : Tab w) (hl : RdB w N A n l) (hn : n ≤ 2199023255552) :
    Calls Tryz.prog 65 #[.slice A n c] w fun e w' => e = .returned (.int .u32 (sumB l : Nat)) ∧ w = w' := by
  have HL := Lib.hid hl.1
  have HRD := Lib.hid hl
  have HZ : Hid (more 0 [] = 0) := Lib.hid (by decide)
  have HZ0 : Hid (sumB (l.take 0) = 0) := Lib.hid (by rw [List.take_zero]; exact HZ.out)
  have HALL : Hid (sumB (l.take n) = sumB l) := Lib.hid (by rw [List.take_of_length_le (by rw [hl.1]; exact Nat.le_refl _)])
  clear hl
  go_enter Tryz.func65, Tryz.ntmps65
  go_wp2_with fail
  refine (of_any none 0 0 0 [] w T (Rd.nil _ _ _) (by unfold maxLen; omega)).mono ?_
  rintro e w' ⟨rfl, rfl⟩
  rw [HZ.out]
  go_wp2_with fail
  go_loop [3, 8] (fun x i => ∃ k : Nat, k ≤ n ∧ i = .int .i64 k ∧ x = .int .u32 (sumB (l.take k) : Nat)) (fun _ i => n - (intOf i).toNat)
  case atStart => exact ⟨0, Nat.zero_le _, rfl, by rw [HZ0.out]; rfl⟩
  case round =>
    obtain ⟨k, hk, rfl, rfl⟩ := hrel
    by_cases hlt : k < n
    · obtain ⟨b, off, rfl, hb, hr⟩ := HRD.out.2 k hlt
      have HR := Lib.hid (rd_rng hr hb)
      have HT1 : Hid (decide ((k : Int) < (n : Int)) = true) := Lib.hid (decide_eq_true (by omega))
      have HLT := Lib.hid hlt
      have HS := Lib.hid (sumB_lt (l.take k))
      have HNX := Lib.hid (sumB_succ (l := l) (k := k) (by rw [HL.out]; exact hlt))
      clear hr
      go_upto_region 3 with fail
      refine wp_region_lit ?_
      refine ag (v := .bool true) rfl (br true rfl (ev rfl) (ev rfl) HT1.out) ?_
      simp only [Act.put, aa, ae, af]
      refine wpList_nil ?_
      go_upto_region 4 with fail
      refine wp_region_lit ?_
      refine ag rfl (ah rfl (ev rfl)) ?_
      simp only [Act.put, aa, ae, af]
      refine ag rfl (aq rfl (ev rfl)) ?_
      simp only [Act.put, aa, ae, af]
      refine wpList_nil ?_
      go_upto_region 5 with fail
      refine wp_region_lit ?_
      refine ag rfl (ah rfl (ev rfl)) ?_
      simp only [Act.put, aa, ae, af]
      refine ag rfl (ah rfl (ev rfl)) ?_
      simp only [Act.put, aa, ae, af]
      refine ag rfl (ah rfl (ev rfl)) ?_
      simp only [Act.put, aa, ae, af]
      refine ag rfl (dz rfl (ev rfl) (ev rfl) HLT.out) ?_
      simp only [Act.put, aa, ae, af]
      refine ag rfl (exec_allB rfl (ev rfl)) ?_
      simp only [Act.put, aa, ae, af]
      refine ao rfl (au Tryz.call124 rfl (evc (ev rfl) (evc (ev rfl) evn))) ?_
      refine (more_any (sumB (l.take k)) _ 64 64 N (l.getD k al).toList w T HS.out HR.out (by unfold maxLen; omega)).mono ?_
      rintro e w' ⟨rfl, rfl⟩
      rw [← HNX.out]
      refine ⟨_, rfl, ?_⟩
      simp only [Act.put, aa, ae, af]
      refine ag rfl (aq rfl (ev rfl)) ?_
      simp only [Act.put, aa, ae, af]
      refine wpList_nil ?_
      go_wp2_with fail
      go_round
      case rel => exact ⟨k + 1, by have := HLT.out; omega, by go_num, rfl⟩
      case measure => simp [intOf]; have := HLT.out; omega
    · have e : k = n := by omega
      subst e
      rw [HALL.out]
      go_wp2_with fail
      go_ret
      exact ⟨rfl, rfl⟩
theorem app_row {wa : World} {p q nb cr : Nat} {Ar : Option Addr} {x : LgS} {y : Nte} (hL : PLg wa p q (.slice Ar x.nts.length cr) x) (hN : bT wa nb y) (hnf : ¬ cM p (.slice Ar x.nts.length cr) nb) (h8 : x.nts.length ≤ 8) :
    ∃ An cn w12, (Builtin.append_ #[aW.s, aW.s] 86 #[.slice Ar x.nts.length cr, .slice (some ⟨wa.heap.size, 0, none⟩) 1 1]).run Tryz.prog (wa.drew.alloc (.cells (aW.cel y).toArray aW.t)) = .ok (.slice An (x.nts.length + 1) cn) w12 ∧
      w12.heap[p]? = some (.cells (plgC q (.slice Ar x.nts.length cr) x).toArray 88 (0, 0)) ∧ bT w12 nb y ∧
      PLg (w12.setCell ⟨p, 7, none⟩ (.slice An (x.nts.length + 1) cn)) p q (.slice An (x.nts.length + 1) cn) (x.with_ y) ∧ Only (cM p (.slice Ar x.nts.length cr)) wa (w12.setCell ⟨p, 7, none⟩ (.slice An (x.nts.length + 1) cn)) ∧
      bT (w12.setCell ⟨p, 7, none⟩ (.slice An (x.nts.length + 1) cn)) nb y ∧ ∀ b, (Value.slice An (x.nts.length + 1) cn).ownBlock = some b → (Value.slice Ar x.nts.length cr).ownBlock = some b ∨ wa.heap.size ≤ b := by
  have hb : Below wa.heap.size wa (wa.drew.alloc (.cells (aW.cel y).toArray aW.t)) := (bd (Below.refl _ _)).alloc (Nat.le_refl _) _
  have hrd : RdE aW (wa.drew.alloc (.cells (aW.cel y).toArray aW.t)) (wa.heap.size + 1) (some ⟨wa.heap.size, 0, none⟩) 1 [y] := dZ (l := [y]) wa.drew _ aW.t (by simp [bj])
  obtain ⟨vn, w12, hrun, hmn, hgr, hown⟩ := er aW (wa.drew.alloc (.cells (aW.cel y).toArray aW.t)) 86 0 (wa.heap.size + 1) 1 1 (.slice Ar x.nts.length cr) x.nts [y] (some ⟨wa.heap.size, 0, none⟩) (hL.row.below hb) hrd (Nat.zero_le _) (by omega)
  have ho : Only (cM p (.slice Ar x.nts.length cr)) wa w12 := (Only.of_below _ hb).grown hgr (fun k e => .inl (.inr e))
  have hp : w12.heap[p]? = some (.cells (plgC q (.slice Ar x.nts.length cr) x).toArray 88 (0, 0)) := (hgr.block p (aV (bK hL.at_ hb)) (fun e => hL.rowp e.symm)).trans (bK hL.at_ hb)
  have hn : bT w12 nb y := ho.keep hN hnf
  obtain ⟨An, cn, hvn, _, _⟩ := hmn.form
  subst hvn
  have hlen : (x.nts ++ [y]).length = x.nts.length + 1 := by rw [List.length_append, List.length_singleton]
  rw [hlen] at hrun hmn hown
  have hpo := PLo.setn (q := q) (v := .slice Ar x.nts.length cr) (d := x.d) (c := x.cnt) (m := x.mark) hp hmn
  have hso := dR w12 p 7 (.slice An (x.nts.length + 1) cn)
  exact ⟨An, cn, w12, hrun, hp, hn, PLo.to (x := x.with_ y) hpo, ho.trans (hso.wide (G := cM p (.slice Ar x.nts.length cr)) fun b e => .inl e) fun b e => .inl e, hso.keep hn fun e => hnf (.inl e), fun b e => (hown b e).imp id fun e => Nat.le_trans hb.size e⟩
def PApp (w0 : World) (H : Nat → Prop) (p q : Nat) (M : BenS) (x : LgS) (cs : List Cl) (e : Ending) (w' : World) : Prop :=
  e = .returned (.tuple #[.int .u64 ((appN M x cs : Nat) : Int), .int .i64 (appE M x cs)]) ∧ ∃ v', PJ w0 H (fun _ => False) w' p q v' (appB M x cs) (appX M x cs)
theorem PApp.err {w0 w' : World} {H K : Nat → Prop} {p q : Nat} {v : Value} {M M' : BenS} {x : LgS} {cs : List Cl} {e : Ending} {E : Int} (h : appE M x cs = E ∧ appB M x cs = M' ∧ appX M x cs = x ∧ appN M x cs = 0) (hj : PJ w0 H K w' p q v M' x) (he : e = .returned (.tuple #[.int .u64 0, .int .i64 E])) : PApp w0 H p q M x cs e w' := by
  obtain ⟨h1, h2, h3, h4⟩ := h
  unfold PApp
  rw [h1, h2, h3, h4]
  exact ⟨he, v, hj.less fun _ e => e.elim⟩
theorem PApp.fin {w0 w' : World} {H : Nat → Prop} {p q : Nat} {v : Value} {M M' : BenS} {x : LgS} {cs : List Cl} {e : Ending} (h : appE M x cs = 0 ∧ appB M x cs = M' ∧ appX M x cs = x.with_ (cD x cs) ∧ appN M x cs = x.next) (hj : PJ w0 H (fun _ => False) w' p q v M' (x.with_ (cD x cs))) (he : e = .returned (.tuple #[.int .u64 ((x.next : Nat) : Int), .int .i64 0])) : PApp w0 H p q M x cs e w' := by
  obtain ⟨h1, h2, h3, h4⟩ := h
  unfold PApp
  rw [h1, h2, h3, h4]
  exact ⟨he, v, hj⟩
theorem app_note {M : BenS} {x : LgS} {N : Nat} {cs : List Cl} (hk : LgOk M x N) (hq : recE cs = 0) (h1 : 1 ≤ x.fst) : aT.pE (cD x cs) = 0 ∧ (cD x cs).fit ∧ 1 ≤ (cD x cs).cells ∧ (cD x cs).cells ≤ 32 := by
  obtain ⟨r1, r2, _⟩ := of_recE hq
  have hn := hk.nxt
  have hd := hk.hed
  have hl := hk.lim
  have hs := sumB_lt (bE cs)
  have hx : x.next = x.fst + x.nts.length := rfl
  exact ⟨aT.pE_ok (decide_eq_true ⟨by show 1 ≤ x.next; omega, by show x.next ≤ _; omega, by show x.head ≤ _; omega, by show (1 : Int) ≤ (cs.length : Int); omega, by show (cs.length : Int) ≤ 32; omega⟩), ⟨by show x.next < _; omega, by show x.head < _; omega, hs⟩, by show (1 : Int) ≤ (cs.length : Int); omega, by show (cs.length : Int) ≤ 32; omega⟩
set_option maxHeartbeats 3000000 in
theorem plappend {w0 w : World} {H : Nat → Prop} {p q N : Nat} {v : Value} {M : BenS} {x : LgS} (A : Option Addr) (n0 c0 N0 : Nat) (cs : List Cl) (h : PJ w0 H (fun _ => False) w p q v M x) (hk : LgOk M x N) (hr : Room M 40) (hc : RdE bn w N0 A n0 cs) (hN0 : N0 ≤ w.heap.size) (hn0 : n0 ≤ maxLen) (h1 : 1 ≤ x.fst) :
    Calls Tryz.prog 19 #[.pointer (some ⟨p, 0, none⟩), .slice A n0 c0] w (PApp w0 H p q M x cs) := by
  have HJ := Lib.hid h
  have HL := Lib.hid h.log
  have HK := Lib.hid hk
  have HR := Lib.hid hr
  have HCS := Lib.hid hc
  have HN0 := Lib.hid hN0
  have HNX : Hid (n0 ≤ maxLen) := Lib.hid hn0
  have HF1 := Lib.hid h1
  have HLC : Hid (cs.length = n0) := Lib.hid hc.1
  clear h hk hr hc hN0 hn0 h1
  go_enter Tryz.func19, Tryz.ntmps19
  go_upto_region 1 with fail
  refine wp_region_lit ?_
  refine ag rfl (ah rfl (ev rfl)) ?_
  simp only [Act.put, aa, ae, af]
  refine ao rfl (au Tryz.call56 rfl (evc (ev rfl) evn)) ?_
  refine (plmade _ HL.out).mono ?_
  rintro e w1 ⟨rfl, rfl⟩
  refine ⟨_, rfl, ?_⟩
  simp only [Act.put, aa, ae, af]
  refine ag (v := .bool false) rfl (aX true rfl (ev rfl)) ?_
  simp only [Act.put, aa, ae, af]
  refine wpList_nil ?_
  go_upto_region 3 with fail
  refine wp_region_lit ?_
  refine ag rfl (ah rfl (ev rfl)) ?_
  simp only [Act.put, aa, ae, af]
  refine ao rfl (au Tryz.call63 rfl (evc (ev rfl) evn)) ?_
  refine (pcput A n0 c0 N0 w.heap.size cs w (Lib.hid rfl) HCS.out HN0.out HNX.out).mono ?_
  rintro e w1 ⟨v1, rfl, hm, hb⟩
  refine ⟨_, rfl, ?_⟩
  simp only [Act.put, aa, ae, af]
  refine ag rfl (ah rfl (ev rfl)) ?_
  simp only [Act.put, aa, ae, af]
  refine ag rfl (aC rfl (ev rfl) rfl) ?_
  simp only [Act.put, aa, ae, af]
  refine ag rfl (aC rfl (ev rfl) rfl) ?_
  simp only [Act.put, aa, ae, af]
  refine ag rfl (aq rfl (ev rfl)) ?_
  simp only [Act.put, aa, ae, af]
  refine ag rfl (aq rfl (ev rfl)) ?_
  simp only [Act.put, aa, ae, af]
  refine wpList_nil ?_
  by_cases hE : recE cs = 0
  · rw [recP_ok hE] at hm
    rw [hE]
    obtain ⟨y1, y2, y3, y4⟩ := app_note HK.out hE HF1.out
    have hrl := bL cs
    obtain ⟨R, hRd⟩ : ∃ R, bE cs = R := ⟨_, rfl⟩
    have hlt : bf (cD x cs) = R.length := by rw [← hRd]; exact fg
    rw [hRd] at hm hrl
    obtain ⟨n, hn⟩ : ∃ n, R.length = n := ⟨_, rfl⟩
    have hhd : hd cs.length ≤ 2 := by have : (cs.length : Int) ≤ 32 := y4; unfold hd; omega
    have hn2 : 2 ≤ n ∧ n ≤ 34 := by
      have e1 : (1 : Int) ≤ (cs.length : Int) := y3
      have e2 : (cs.length : Int) ≤ 32 := y4
      rw [← hn, hrl]; unfold hd; omega
    obtain ⟨A1, c1, rfl, hrd, hc1, hc2⟩ := hm.open_ hn
    have HRD := Lib.hid hrd
    have HN2 := Lib.hid hn2
    have HTK := Lib.hid (hlt.trans hn)
    have HRR := Lib.hid hRd
    have HQ0 := Lib.hid hE
    have HPE := Lib.hid y1
    have HFT := Lib.hid y2
    have HCL := Lib.hid (show 1 ≤ (cD x cs).cells ∧ (cD x cs).cells ≤ 32 from ⟨y3, y4⟩)
    have HB1 := Lib.hid hb
    have HJ1 := Lib.hid (HJ.out.below hb)
    have HL1 := Lib.hid HJ1.out.log
    clear hm hb hE y1 y2 y3 y4 hrl hRd hlt hn hhd hn2 hrd hc1 hc2 HL HCS HN0 HNX
    go_upto_region 6 with fail
    refine wp_region_lit ?_
    refine ag rfl (ah rfl (ev rfl)) ?_
    simp only [Act.put, aa, ae, af]
    refine ao rfl (au Tryz.call57 rfl (evc (ev rfl) evn)) ?_
    refine (plnext w1 HL1.out HK.out).mono ?_
    rintro e w2 ⟨rfl, hb2⟩
    have HL2 := Lib.hid (HL1.out.below hb2)
    have HB2 := Lib.hid hb2
    clear hb2
    refine ⟨_, rfl, ?_⟩
    simp only [Act.put, aa, ae, af]
    refine ag rfl (ah rfl (ev rfl)) ?_
    simp only [Act.put, aa, ae, af]
    refine ao rfl (au Tryz.call64 rfl (evc (ev rfl) evn)) ?_
    refine (plhead w2 HL2.out HK.out).mono ?_
    rintro e w3 ⟨rfl, hb3⟩
    have HB3 := Lib.hid (HB2.out.trans (hb3.mono HB2.out.size))
    have HJ3 := Lib.hid (HJ1.out.below HB3.out)
    have HRD3 := Lib.hid (HRD.out.below HB3.out)
    clear hb3 HL2 HB2
    refine ⟨_, rfl, ?_⟩
    simp only [Act.put, aa, ae, af]
    refine ag rfl (ah rfl (ev rfl)) ?_
    simp only [Act.put, aa, ae, af]
    refine ag rfl (exec_lenC rfl (ev rfl)) ?_
    simp only [Act.put, aa, ae, af]
    refine ag rfl (ah rfl (ev rfl)) ?_
    simp only [Act.put, aa, ae, af]
    refine ao rfl (au Tryz.call65 rfl (evc (ev rfl) evn)) ?_
    refine (psum A1 n c1 w1.heap.size R w3 HJ3.out.tab.m.tab HRD3.out (by have := HN2.out.2; omega)).mono ?_
    rintro e w4 ⟨rfl, rfl⟩
    refine ⟨_, rfl, ?_⟩
    simp only [Act.put, aa, ae, af]
    refine ag rfl (exec_bldNt4 x.next x.head (n0 : Int) (sumB R) rfl (ev rfl) (ev rfl) (ev rfl) (ev rfl)) ?_
    simp only [Act.put, aa, ae, af]
    refine ag rfl (ci rfl) ?_
    simp only [Act.put, aa, ae, af]
    refine aB rfl (dK (c := ⟨x.next, x.head, (n0 : Int), sumB R⟩) rfl (ev rfl) (ev rfl)) ?_
    simp only [Act.put, aa, ae, af]
    refine wpList_nil ?_
    have hY : (⟨x.next, x.head, (n0 : Int), sumB R⟩ : Nte) = cD x cs := by unfold cD; rw [HRR.out, HLC.out]
    rw [hY]
    clear hY
    obtain ⟨y, hy⟩ : ∃ y, cD x cs = y := ⟨_, rfl⟩
    have HYP : Hid (y.pos = x.head ∧ y.seq = x.next) := Lib.hid (by rw [← hy]; exact ⟨rfl, rfl⟩)
    have HYD := Lib.hid hy
    rw [hy] at HTK HPE HFT HCL ⊢
    have HY := Lib.hid (bT.new w3 y)
    have HB4 := Lib.hid (HB3.out.trans (((Below.refl w3.heap.size w3).alloc (Nat.le_refl _) (.cells (aS y).toArray 70)).mono HB3.out.size))
    have HLE : Hid (w3.heap.size < (w3.alloc (.cells (aS y).toArray 70)).heap.size) := Lib.hid (by rw [World.size_alloc]; omega)
    have HNB : Hid (w1.heap.size ≤ w3.heap.size) := Lib.hid HB3.out.size
    have HW1 : Hid (w.heap.size ≤ w1.heap.size) := Lib.hid HB1.out.size
    generalize w3.alloc (.cells (aS y).toArray 70) = w4 at *
    have HJ4 := Lib.hid (HJ1.out.below HB4.out)
    have HL4 := Lib.hid HJ4.out.log
    have HRD4 := Lib.hid (HRD.out.below HB4.out)
    clear HRD3 HJ3 HB3 HRD HL1 hy
    generalize w3.heap.size = nb at *
    obtain ⟨Ar, cr, rfl, hcr1, hcr2⟩ := HL4.out.slice
    clear hcr1 hcr2
    have HFR : Hid (Calls Tryz.prog 66 #[.pointer (some ⟨p, 0, none⟩), nte y] w4 fun e w' => e = .returned (.bool (decide (n ≤ x.free))) ∧ Below w4.heap.size w4 w') := Lib.hid (by
      have := plfits w4 y HL4.out HK.out HCL.out
      rwa [HTK.out] at this)
    by_cases k1 : x.nts.length = 8
    · have HQ : Hid (appQ x cs = 10) := Lib.hid (appQ_full HQ0.out (.inl (by omega)))
      have H1 : Hid (((x.nts.length : Int) == (8 : Int)) = true) := Lib.hid (by simp [k1])
      clear k1
      go_upto_region 7 with fail
      refine wp_region_lit ?_
      refine ag rfl (ah rfl (ev rfl)) ?_
      simp only [Act.put, aa, ae, af]
      refine ag rfl (az rfl (ev rfl)) ?_
      simp only [Act.put, aa, ae, af]
      refine ag rfl (ak rfl (ev rfl) faQl4) ?_
      simp only [Act.put, aa, ae, af]
      refine ag rfl (av rfl (ev rfl) (ldNts (PLg.c7 HL4.out))) ?_
      simp only [Act.put, aa, ae, af]
      refine ag rfl (bQ Tryz.underlying86 rfl (ev rfl)) ?_
      simp only [Act.put, aa, ae, af]
      refine ag (v := .bool true) rfl (aI true rfl (ev rfl) evk H1.out) ?_
      simp only [Act.put, aa, ae, af]
      refine aO 4 (v := .bool true) rfl (ah rfl (ev rfl)) (by kernel_rfl) ?_
      simp only [bc, List.take_succ_cons, List.take_zero, List.drop_succ_cons, List.drop_zero, Act.put, List.setIfInBounds_toArray, List.set_cons_succ, List.set_cons_zero]
      refine ag (v := .bool true) rfl (aM rfl (ev rfl) evk) ?_
      simp only [Act.put, aa, ae, af]
      refine wpList_nil ?_
      go_wp2_with fail
      go_ret2
      exact PApp.err (by have h0 := app_no (M := M) (x := x) (cs := cs) (by rw [HQ.out]; decide); rw [HQ.out] at h0; exact h0) HJ4.out rfl
    · have H1 : Hid (((x.nts.length : Int) == (8 : Int)) = false) := Lib.hid (by simp; omega)
      by_cases k2 : n ≤ x.free
      rotate_left 1
      · have HQ : Hid (appQ x cs = 10) := Lib.hid (appQ_full HQ0.out (.inr (by rw [← fg (x := x), HYD.out, HTK.out]; omega)))
        have H2 : Hid (decide (n ≤ x.free) = false) := Lib.hid (decide_eq_false k2)
        clear k1 k2
        go_upto_region 7 with fail
        refine wp_region_lit ?_
        refine ag rfl (ah rfl (ev rfl)) ?_
        simp only [Act.put, aa, ae, af]
        refine ag rfl (az rfl (ev rfl)) ?_
        simp only [Act.put, aa, ae, af]
        refine ag rfl (ak rfl (ev rfl) faQl4) ?_
        simp only [Act.put, aa, ae, af]
        refine ag rfl (av rfl (ev rfl) (ldNts (PLg.c7 HL4.out))) ?_
        simp only [Act.put, aa, ae, af]
        refine ag rfl (bQ Tryz.underlying86 rfl (ev rfl)) ?_
        simp only [Act.put, aa, ae, af]
        refine ag (v := .bool false) rfl (aI false rfl (ev rfl) evk H1.out) ?_
        simp only [Act.put, aa, ae, af]
        refine ag (v := .bool false) rfl (ah rfl (ev rfl)) ?_
        simp only [Act.put, aa, ae, af]
        refine ai (aj rfl rfl rfl rfl) (ah rfl (ev rfl)) ?_
        simp only [Act.put, aa, ae, af]
        refine ai (aj rfl rfl rfl rfl) (aZ rfl (ev rfl) HY.out.range) ?_
        simp only [Act.put, aa, ae, af]
        refine ao (aj rfl rfl rfl rfl) (au Tryz.call66 rfl (evc (ev rfl) (evc (ev rfl) evn))) ?_
        refine HFR.out.mono ?_
        rintro e w5 ⟨rfl, hb5⟩
        rw [H2.out]
        have HB5 := Lib.hid hb5
        clear hb5
        refine ⟨_, rfl, ?_⟩
        simp only [Act.put, aa, ae, af]
        refine ai (v := .bool true) (aj rfl rfl rfl rfl) (aX false rfl (ev rfl)) ?_
        simp only [Act.put, aa, ae, af]
        refine ag (v := .bool true) rfl (aN rfl (ev rfl) (ev rfl)) ?_
        simp only [Act.put, aa, ae, af]
        refine wpList_nil ?_
        go_wp2_with fail
        go_ret2
        exact PApp.err (by have h0 := app_no (M := M) (x := x) (cs := cs) (by rw [HQ.out]; decide); rw [HQ.out] at h0; exact h0) (HJ4.out.below HB5.out) rfl
      · have heig := HK.out.eig
        have HQ : Hid (appQ x cs = 0) := Lib.hid (appQ_ok HQ0.out (by rw [← fg (x := x), HYD.out, HTK.out]; omega))
        have H2 : Hid (decide (n ≤ x.free) = true) := Lib.hid (decide_eq_true k2)
        clear k1 k2 heig
        go_upto_region 7 with fail
        refine wp_region_lit ?_
        refine ag rfl (ah rfl (ev rfl)) ?_
        simp only [Act.put, aa, ae, af]
        refine ag rfl (az rfl (ev rfl)) ?_
        simp only [Act.put, aa, ae, af]
        refine ag rfl (ak rfl (ev rfl) faQl4) ?_
        simp only [Act.put, aa, ae, af]
        refine ag rfl (av rfl (ev rfl) (ldNts (PLg.c7 HL4.out))) ?_
        simp only [Act.put, aa, ae, af]
        refine ag rfl (bQ Tryz.underlying86 rfl (ev rfl)) ?_
        simp only [Act.put, aa, ae, af]
        refine ag (v := .bool false) rfl (aI false rfl (ev rfl) evk H1.out) ?_
        simp only [Act.put, aa, ae, af]
        refine ag (v := .bool false) rfl (ah rfl (ev rfl)) ?_
        simp only [Act.put, aa, ae, af]
        refine ai (aj rfl rfl rfl rfl) (ah rfl (ev rfl)) ?_
        simp only [Act.put, aa, ae, af]
        refine ai (aj rfl rfl rfl rfl) (aZ rfl (ev rfl) HY.out.range) ?_
        simp only [Act.put, aa, ae, af]
        refine ao (aj rfl rfl rfl rfl) (au Tryz.call66 rfl (evc (ev rfl) (evc (ev rfl) evn))) ?_
        refine HFR.out.mono ?_
        rintro e w5 ⟨rfl, hb5⟩
        rw [H2.out]
        have HB5 := Lib.hid hb5
        clear hb5
        refine ⟨_, rfl, ?_⟩
        simp only [Act.put, aa, ae, af]
        refine ai (v := .bool false) (aj rfl rfl rfl rfl) (aX true rfl (ev rfl)) ?_
        simp only [Act.put, aa, ae, af]
        refine ag (v := .bool false) rfl (aN rfl (ev rfl) (ev rfl)) ?_
        simp only [Act.put, aa, ae, af]
        refine wpList_nil ?_
        have HJ5 := Lib.hid (HJ4.out.below HB5.out)
        have HL5 := Lib.hid HJ5.out.log
        have HRD5 := Lib.hid (HRD4.out.below (HB5.out.mono (Nat.le_of_lt (Nat.lt_of_le_of_lt HNB.out HLE.out))))
        have HY5 := Lib.hid (HY.out.below HLE.out HB5.out)
        have HB15 := Lib.hid (HB4.out.trans (HB5.out.mono (Nat.le_of_lt (Nat.lt_of_le_of_lt HNB.out HLE.out))))
        have HS5 : Hid (nb < w5.heap.size ∧ w1.heap.size ≤ w5.heap.size) := Lib.hid ⟨Nat.lt_of_lt_of_le HLE.out HB5.out.size, HB15.out.size⟩
        have HSZ := Lib.hid HK.out.siz
        have HLA := Lib.hid (pllaying w5 y A1 n c1 w1.heap.size R HL5.out HCL.out HK.out.siz (by have := HK.out.hed; have := HK.out.lim; have := HN2.out; rw [HYP.out.1, HTK.out]; omega) HRD5.out HS5.out.2 HTK.out)
        clear HJ4 HL4 HRD4 HY HB4 HB5 HFR H1 H2 HRD5
        go_upto_region 9 with fail
        refine wp_region_lit ?_
        refine ag rfl (ah rfl (ev rfl)) ?_
        simp only [Act.put, aa, ae, af]
        refine ag rfl (aZ (c := y) rfl (ev rfl) HY5.out.range) ?_
        simp only [Act.put, aa, ae, af]
        refine ag rfl (ah rfl (ev rfl)) ?_
        simp only [Act.put, aa, ae, af]
        refine ao rfl (au Tryz.call67 rfl (evc (ev rfl) (evc (ev rfl) (evc (ev rfl) evn)))) ?_
        refine HLA.out.mono ?_
        rintro e w6 ⟨r, rfl, hla⟩
        rw [HYP.out.1] at hla
        have HLY := Lib.hid hla
        have HY6 := Lib.hid (HY5.out.below HS5.out.1 hla.bel)
        clear hla HLA
        refine ⟨_, rfl, ?_⟩
        simp only [Act.put, aa, ae, af]
        refine ag rfl (aq rfl (ev rfl)) ?_
        simp only [Act.put, aa, ae, af]
        refine wpList_nil ?_
        go_upto_region 10 with fail
        refine wp_region_lit ?_
        refine ag rfl (ah rfl (ev rfl)) ?_
        simp only [Act.put, aa, ae, af]
        refine ag rfl (ah rfl (ev rfl)) ?_
        simp only [Act.put, aa, ae, af]
        refine ag rfl (eM rfl (ev rfl)) ?_
        simp only [Act.put, aa, ae, af]
        refine ag rfl (ah rfl (ev rfl)) ?_
        simp only [Act.put, aa, ae, af]
        refine ag rfl (aZ (c := y) rfl (ev rfl) HY6.out.range) ?_
        simp only [Act.put, aa, ae, af]
        refine ao rfl (au Tryz.call68 rfl (evc (ev rfl) (evc (ev rfl) evn))) ?_
        refine (pnoting (p := p) (w := w6) y HFT.out HPE.out).mono ?_
        rintro e w7 ⟨s, rfl, hs, hb7⟩
        have HLY7 := Lib.hid (HLY.out.below hb7)
        have HS7 := Lib.hid (hs.below (B' := w5.heap.size) (C' := w7.heap.size) (Nat.le_refl _) (Below.refl _ _) HLY.out.bel.size (Nat.le_refl _))
        have HY7 := Lib.hid (HY6.out.below (Nat.lt_of_lt_of_le HS5.out.1 HLY.out.bel.size) hb7)
        have HZ7 : Hid (nb < w7.heap.size) := Lib.hid (Nat.lt_of_lt_of_le (Nat.lt_of_lt_of_le HS5.out.1 HLY.out.bel.size) hb7.size)
        clear hs hb7
        refine ⟨_, rfl, ?_⟩
        simp only [Act.put, aa, ae, af]
        refine ag rfl (ah rfl (ev rfl)) ?_
        simp only [Act.put, aa, ae, af]
        refine ag rfl (eM rfl (ev rfl)) ?_
        simp only [Act.put, aa, ae, af]
        refine ag rfl (exec_mk3F (s1 := flF p) (s2 := s) (s3 := flF p) rfl (ev rfl) (ev rfl) (ev rfl)) ?_
        simp only [Act.put, aa, ae, af]
        have HAL := Lib.hid ((Below.refl w7.heap.size w7).alloc (Nat.le_refl _) (.cells #[(flF p).val, s.val, (flF p).val] 108))
        have HLY8 := Lib.hid (HLY7.out.below HAL.out)
        have HST8 : Hid (Stps (Btw w5.heap.size (w7.alloc (.cells #[(flF p).val, s.val, (flF p).val] 108)).heap.size) (w7.alloc (.cells #[(flF p).val, s.val, (flF p).val] 108)) p [flF p, s, flF p] [.fl, .wr (cz y.seq) (aT.pB y), .fl]) := Lib.hid ⟨.fl, HS7.out.below (Nat.le_refl _) HAL.out (Nat.le_refl _) HAL.out.size, .fl, trivial⟩
        have HY8 := Lib.hid (HY7.out.past (.cells #[(flF p).val, s.val, (flF p).val] 108))
        refine fJ (ts' := [.fl, .wr (cz y.seq) (aT.pB y), .fl]) rfl _ _ rfl (w7.heap.size + 1) 3 3 (some ⟨w7.heap.size, 0, none⟩) rfl rfl HLY8.out HST8.out (rdF_new3 w7 (flF p) s (flF p)) (by rw [recT_len, ← HRR.out, ← fg (x := x), HYD.out, HTK.out]; have := HN2.out.2; omega) ?_
        intro v9 w9 hl9 hg9
        simp only [Act.put, aa, ae, af]
        refine ag rfl (aq rfl (ev rfl)) ?_
        simp only [Act.put, aa, ae, af]
        refine wpList_nil ?_
        have HAPT : Hid (recT x.size x.head R ++ [.fl, .wr (cz y.seq) (aT.pB y), .fl] = appT x cs) := Lib.hid (by unfold appT; rw [HRR.out, HYD.out, HYP.out.2])
        rw [HAPT.out] at hl9
        have hlen9 := hl9.len
        obtain ⟨l9, hm9, hst9, hll⟩ := hlen9
        have hlt9 : l9.length = n + 3 := by rw [hll, appT_len, HRR.out, ← HTK.out, ← HYD.out, fg, HRR.out]
        obtain ⟨g9, c9, rfl, hb9, hg9', _, _⟩ := hm9.slice_ (by omega)
        have hrd9 := hm9.rd
        rw [hlt9] at hm9 hrd9 ⊢
        have HB19 := Lib.hid (HB15.out.trans (hl9.bel.mono HS5.out.2))
        have HJ9 := Lib.hid (HJ1.out.guard (K' := Btw w1.heap.size w9.heap.size) HB19.out (fun b e => .inr e))
        have HY9 : Hid (bT w9 nb y) := Lib.hid (hl9.bel.block nb HS5.out.1 |>.trans HY5.out)
        have HZ9 : Hid (nb < w9.heap.size) := Lib.hid (Nat.lt_of_lt_of_le HS5.out.1 hl9.bel.size)
        have HCH := Lib.hid (ptaken (some ⟨g9, 0, none⟩) (n + 3) c9 w9.heap.size l9 w9 (Btw w1.heap.size w9.heap.size) _ hrd9 (Nat.le_refl _) (by have := HN2.out.2; omega) (fun b off e => by injection e with e; injection e with e1 e2; subst e1; exact ⟨by have := HS5.out.2; omega, hg9'⟩) (chn_go (wK := w9) (fun _ e => e) _ _ (hst9.keep_ (fun _ _ => rfl) fun b e => ⟨Nat.le_trans HS5.out.2 e.1, e.2⟩) HJ9.out (fun _ _ => rfl) (room_more HR.out (by rw [← hll, hlt9]; have := HN2.out.2; omega))))
        have HBN : Hid (w1.heap.size ≤ nb) := Lib.hid HNB.out
        clear hl9 hg9 hm9 hst9 hll hlt9 hb9 hg9' hrd9 HJ5 HL5 HY5 HY6 HY7 HY8 HLY HLY7 HLY8 HST8 HS7 HAL HB15 HNB HLE HZ7
        go_upto_region 11 with fail
        refine wp_region_lit ?_
        refine ag rfl (ah rfl (ev rfl)) ?_
        simp only [Act.put, aa, ae, af]
        refine ao rfl (au Tryz.call59 rfl (evc (ev rfl) evn)) ?_
        refine HCH.out.mono ?_
        rintro e w10 ⟨E, rfl, hE, hj10, hk10⟩
        have HY10 : Hid (bT w10 nb y) := Lib.hid ((hk10 nb ⟨HBN.out, HZ9.out⟩).trans HY9.out)
        have HJ10 := Lib.hid (hj10.less (K' := fun _ => False) fun _ e => e.elim)
        have HNF : Hid (¬ cM p (.slice Ar x.nts.length cr) nb) := Lib.hid (fun e => by have := HJ1.out.log.lt nb e; have := HBN.out; omega)
        clear hj10 hk10 HCH
        refine ⟨_, rfl, ?_⟩
        simp only [Act.put, aa, ae, af]
        refine ag rfl (aq rfl (ev rfl)) ?_
        simp only [Act.put, aa, ae, af]
        refine wpList_nil ?_
        by_cases h0 : E = 0
        · have HFIN := Lib.hid (app_fin (M := M) (x := x) (cs := cs) HQ.out ⟨hE.symm.trans h0, rfl⟩)
          subst h0
          have HL10 := Lib.hid HJ10.out.log
          obtain ⟨An, cn, w12, hrun, hp12, hn12, hpl, hon, hn13, hown⟩ := app_row HL10.out HY10.out HNF.out HK.out.eig
          have HRUN := Lib.hid hrun
          have HP12 := Lib.hid hp12
          have HN12 := Lib.hid hn12
          have HPL := Lib.hid hpl
          have HON := Lib.hid hon
          have HN13 := Lib.hid hn13
          have HOWN := Lib.hid hown
          have HMK : Hid ((nte y).cells = (aW.cel y).toArray) := Lib.hid (by show Value.cells (.agg _) = _; simp [Value.cells]; rfl)
          have hS : w10.drew.heap[p]? = some (.cells (plgC q (.slice Ar x.nts.length cr) x).toArray 88 (0, 0)) ∧ bT w10.drew nb y := ⟨HL10.out.at_, HY10.out⟩
          have hS5 : (w10.drew.alloc (.cells (aW.cel y).toArray aW.t)).heap[p]? = some (.cells (plgC q (.slice Ar x.nts.length cr) x).toArray 88 (0, 0)) ∧ bT (w10.drew.alloc (.cells (aW.cel y).toArray aW.t)) nb y := ⟨bM hS.1 _, hS.2.past _⟩
          clear hE hrun hp12 hn12 hpl hon hn13 hown
          go_upto_region 14 with fail
          refine bx (fun w' => w'.heap[p]? = some (.cells (plgC q (.slice Ar x.nts.length cr) x).toArray 88 (0, 0)) ∧ bT w' nb y) 10 (by kernel_rfl) ?_
          change cm _ _ _ _ _ _ 11 _ _ w10.drew
          refine ap 0 rfl (by kernel_rfl) (by kernel_rfl) (by kernel_rfl) (by decide) (by kernel_rfl) rfl (fun w' hw => ah rfl (ev rfl)) (fun _ _ _ h => h) hS ?_
          simp only [Act.put, aa, ae, af]
          refine ap 1 rfl (by kernel_rfl) (by kernel_rfl) (by kernel_rfl) (by decide) (by kernel_rfl) rfl (fun w' hw => ah rfl (ev rfl)) (fun _ _ _ h => h) hS ?_
          simp only [Act.put, aa, ae, af]
          refine ap 2 rfl (by kernel_rfl) (by kernel_rfl) (by kernel_rfl) (by decide) (by kernel_rfl) rfl (fun w' hw => az rfl (ev rfl)) (fun _ _ _ h => h) hS ?_
          simp only [Act.put, aa, ae, af]
          refine ap 3 rfl (by kernel_rfl) (by kernel_rfl) (by kernel_rfl) (by decide) (by kernel_rfl) rfl (fun w' hw => ak rfl (ev rfl) faQl4) (fun _ _ _ h => h) hS ?_
          simp only [Act.put, aa, ae, af]
          refine ap 4 rfl (by kernel_rfl) (by kernel_rfl) (by kernel_rfl) (by decide) (by kernel_rfl) rfl (fun w' hw => av rfl (ev rfl) (ldNts (cell_row (j := 7) hw.1 rfl))) (fun _ _ _ h => h) hS ?_
          simp only [Act.put, aa, ae, af]
          refine ap 5 rfl (by kernel_rfl) (by kernel_rfl) (by kernel_rfl) (by decide) (by kernel_rfl) rfl (fun w' hw => aZ (c := y) rfl (ev rfl) hw.2.range) (fun _ _ _ h => h) hS ?_
          simp only [Act.put, aa, ae, af]
          refine bl 6 rfl (by kernel_rfl) rfl (dc (E := aW) (a := y) rfl (ev rfl) HMK.out (by show 4 ≤ _; omega)) (fun _ => hS5) ?_
          simp only [Act.put, aa, ae, af]
          refine bl 7 rfl (by kernel_rfl) rfl (fB (E := aW) rfl (ev rfl) (ev rfl) HRUN.out) (fun _ => ⟨HP12.out, HN12.out⟩) ?_
          simp only [Act.put, aa, ae, af]
          refine bl 8 rfl (by kernel_rfl) rfl (az rfl (ev rfl)) (fun _ => ⟨HP12.out, HN12.out⟩) ?_
          simp only [Act.put, aa, ae, af]
          refine bl 9 rfl (by kernel_rfl) rfl (ak rfl (ev rfl) faQl4) (fun _ => ⟨HP12.out, HN12.out⟩) ?_
          simp only [Act.put, aa, ae, af]
          refine ey 10 rfl (by kernel_rfl) rfl (exec_stN rfl (ev rfl) (ev rfl) (cell_row (j := 7) HP12.out rfl) (frozen_of_row w12 p 7 _ _ HP12.out)) (fun e => absurd rfl e) ?_
          simp only [Act.put]
          refine b8 (by kernel_rfl) ?_ _
          have HJE := Lib.hid (HJ10.out.grow HON.out HPL.out HOWN.out)
          have cseq := HN13.out.cells.1
          rw [HYP.out.2] at cseq
          rw [HYD.out] at HFIN
          generalize w12.setCell ⟨p, 7, none⟩ (.slice An (x.nts.length + 1) cn) = w13 at *
          clear hS hS5
          go_wp2_with (first | (refine ag rfl (ak rfl rfl faNt0) ?_) | fail)
          go_ret2
          exact PApp.fin (by rw [HYD.out]; exact HFIN.out) (by rw [HYD.out]; exact HJE.out) rfl
        · have hne : (E != 0) = true := by simpa using h0
          have HER := Lib.hid (app_err (M := M) (x := x) (cs := cs) HQ.out ⟨hE.symm, rfl⟩ h0)
          clear hE h0
          go_wp2_with fail
          go_ret2
          exact PApp.err HER.out HJ10.out rfl
  · have HNO := Lib.hid (app_no (M := M) (x := x) (cs := cs) (by rw [appQ_rec hE]; omega))
    have HQ := Lib.hid (appQ_rec (x := x) hE)
    have HJ1 := Lib.hid (HJ.out.below hb)
    obtain ⟨E, hEE⟩ : ∃ E, recE cs = E := ⟨_, rfl⟩
    rw [hEE] at hE HQ ⊢
    have hne : ((E : Int) != 0) = true := by simp; omega
    clear hE hEE hm hb HJ
    go_wp2_with fail
    go_ret2
    refine PApp.err HNO.out HJ1.out ?_
    rw [HQ.out]
    rfl
def pJ (w : World) (G : Nat → Prop) (q p : Nat) (M : BenS) (x : LgS) : Prop := ∃ v Gb, bi.Bn w Gb q M ∧ PLg w p q v x ∧ (∀ b, cM p v b → ¬ Gb b) ∧ (G = fun b => Gb b ∨ cM p v b) ∧ x.own ≠ 0 ∧ 1 ≤ x.fst
theorem pJ.start {w : World} {G : Nat → Prop} {q p : Nat} {M : BenS} {x : LgS} (h : pJ w G q p M x) (hT : TbG w G) : ∃ v, PJ w G (fun _ => False) w p q v M x ∧ x.own ≠ 0 ∧ 1 ≤ x.fst := by
  obtain ⟨v, Gb, h1, h2, h3, rfl, h4⟩ := h
  exact ⟨v, PJ.start h1 h2 h3 hT, h4⟩
theorem PJ.end_ {w0 w : World} {H : Nat → Prop} {p q : Nat} {v : Value} {M : BenS} {x : LgS} (h : PJ w0 H (fun _ => False) w p q v M x) (ho : x.own ≠ 0) (hf : 1 ≤ x.fst) : ∃ G, pJ w G q p M x ∧ Only H w0 w ∧ Grow w0 H G := by
  obtain ⟨G, h1, h2, h3, h4, h5, _⟩ := h
  exact ⟨_, ⟨v, G, h1, h2, h3, rfl, ho, hf⟩, h4, h5⟩
theorem PJ.first {w w1 : World} {G : Nat → Prop} {q : Nat} {M : BenS} {x : LgS} (hb : bi.Bn w G q M) (hT : TbG w G) (hw : Below w.heap.size w w1) (hx : x.nts = []) :
    PJ (w1.alloc (.cells (plgC q (.slice none 0 0) x).toArray 88)) (fun b => G b ∨ cM w1.heap.size (.slice none 0 0) b) (fun _ => False) (w1.alloc (.cells (plgC q (.slice none 0 0) x).toArray 88)) w1.heap.size q (.slice none 0 0) M x := by
  have hlt := bi.lt hb
  have hs := hw.size
  have hw2 : Below w.heap.size w (w1.alloc (.cells (plgC q (.slice none 0 0) x).toArray 88)) := hw.alloc hs _
  refine PJ.start (bi.below hb hw2) ⟨heap_alloc_new w1 _, by rw [hx]; exact aA.nil _ _⟩ (fun b hb' hg => ?_) ⟨hT.t.below hw2, fun b h1 h2 => ?_⟩
  · have := hlt b hg
    rcases hb' with rfl | e
    · omega
    · simp [Value.ownBlock] at e
  · have := hT.t.lt h1
    rcases h2 with h2 | rfl | e
    · exact hT.off b h1 h2
    · omega
    · simp [Value.ownBlock] at e
theorem PNew.of {w w1 w' : World} {G H : Nat → Prop} {p q : Nat} {v v0 : Value} {M' : BenS} {x : LgS} {E : Int} {e : Ending} (hb : Below w.heap.size w w1) (hH : ∀ b, H b → G b ∨ cM p v0 b) (hp : ∀ b, cM p v0 b → w.heap.size ≤ b) (h : PJ w1 H (fun _ => False) w' p q v M' x)
    (hE : (E = 0 ∧ e = .returned (.tuple #[.pointer (some ⟨p, 0, none⟩), .int .i64 0]) ∧ x.own ≠ 0 ∧ 1 ≤ x.fst) ∨ (E ≠ 0 ∧ e = .returned (.tuple #[.pointer none, .int .i64 E]))) {x' : LgS} (hx : E = 0 → x = x') : PNew bi.Bn pJ w G q E M' x' e w' := by
  obtain ⟨G', h1, h2, h3, h4, h5, _⟩ := h
  have hs := hb.size
  have ho : Only G w w' := (Only.of_below G hb).trans h4 fun b hb' => (hH b hb').imp id (hp b)
  have hg : ∀ b, (G' b ∨ cM p v b) → G b ∨ w.heap.size ≤ b := fun b hb' => by
    rcases h5 b hb' with e | e
    · exact (hH b e).imp id (hp b)
    · exact .inr (by omega)
  rcases hE with ⟨e1, e2, e3, e4⟩ | ⟨e1, e2⟩
  · rw [← hx e1]
    exact ⟨_, ho, hg, .inl ⟨e1, p, e2, ⟨v, G', h1, h2, h3, rfl, e3, e4⟩⟩⟩
  · exact ⟨G', ho, fun b hb' => hg b (.inl hb'), .inr ⟨e1, e2, h1⟩⟩
theorem PNew.same {w w' : World} {G : Nat → Prop} {q : Nat} {E : Int} {M : BenS} {x : LgS} {e : Ending} (hb : bi.Bn w G q M) (hw : Below w.heap.size w w') (hE : E ≠ 0) (he : e = .returned (.tuple #[.pointer none, .int .i64 E])) : PNew bi.Bn pJ w G q E M x e w' :=
  ⟨G, Only.of_below _ hw, Grow.same _ _, .inr ⟨hE, he, bi.below hb hw⟩⟩
theorem run_bldMk3 {w : World} (id : Nat) (r : Int) : (Instr.build 67 #[(0, .int .u64 (id : Int)), (1, .int .i64 r), (2, .int .u64 1)]).run Tryz.prog w = .ok (mrk ⟨id, r, 1, 0⟩) w := by kernel_rfl
theorem run_bldLgP {w : World} {q : Nat} {d r : Int} {id : Nat} : (Instr.build 88 #[(0, .pointer (some ⟨q, 0, none⟩)), (1, .int .i64 d), (2, .int .u64 1), (3, mrk ⟨id, r, 1, 0⟩)]).run Tryz.prog w = .ok (.agg #[.pointer (some ⟨q, 0, none⟩), .int .i64 d, .int .u64 1, .int .u64 (id : Int), .int .i64 r, .int .u64 1, .int .u64 0, .slice none 0 0]) w := by kernel_rfl
section
variable {ρ : Operand → Value} {o : Oper} {x1 x2 x3 x4 : Operand} {w : World} {q : Nat} {d r : Int} {id : Nat}
theorem exec_bldMk3 (id : Nat) (r : Int) (ho : o.op = .build 67 #[(0, x1), (1, x2), (2, x3)]) (h1 : ρ x1 = .int .u64 (id : Int)) (h2 : ρ x2 = .int .i64 r) (h3 : ρ x3 = .int .u64 1) : (execOp ρ o).run Tryz.prog w = .ok (.value (mrk ⟨id, r, 1, 0⟩)) w := by
  unfold execOp
  simp only [ho, h1, h2, h3, List.map_toArray, List.map_cons, List.map_nil, Sem.run_bind, run_bldMk3, Result.andThen_ok, Sem.run_pure]
theorem exec_bldLgP (ho : o.op = .build 88 #[(0, x1), (1, x2), (2, x3), (3, x4)]) (h1 : ρ x1 = .pointer (some ⟨q, 0, none⟩)) (h2 : ρ x2 = .int .i64 d) (h3 : ρ x3 = .int .u64 1) (h4 : ρ x4 = mrk ⟨id, r, 1, 0⟩) :
    (execOp ρ o).run Tryz.prog w = .ok (.value (.agg #[.pointer (some ⟨q, 0, none⟩), .int .i64 d, .int .u64 1, .int .u64 (id : Int), .int .i64 r, .int .u64 1, .int .u64 0, .slice none 0 0])) w := by
  unfold execOp
  simp only [ho, h1, h2, h3, h4, List.map_toArray, List.map_cons, List.map_nil, Sem.run_bind, run_bldLgP, Result.andThen_ok, Sem.run_pure]
theorem exec_boxLgP {v : Value} {x : LgS} {y : Operand} (ho : o.op = .box 88 y) (hx : ρ y = .agg (plgC q v x).toArray) : (execOp ρ o).run Tryz.prog w = .ok (.value (.pointer (some ⟨w.heap.size, 0, none⟩))) (w.alloc (.cells (plgC q v x).toArray 88)) := exec_boxT ho hx
end
theorem lay_no {M : BenS} {d : Int} {id : Nat} {r : Int} (h : ¬ (mrkB ⟨id, r, 1, 0⟩ = true ∧ r ≤ ca M d - 10)) : layE M d id r = 2 ∧ layB M d id r = M := by
  have e : ¬ layQ M d id r = true := fun e => by
    obtain ⟨a1, a2, a3, a4, a5⟩ := of_decide_eq_true e
    exact h ⟨decide_eq_true ⟨a2, a3, a4, Nat.le_refl _, by show 1 ≤ 4611686018427387904; omega, by show 0 ≤ 4611686018427387904; omega⟩, by omega⟩
  exact ⟨if_neg e, if_neg e⟩
theorem lay_yes {M : BenS} {d : Int} {id : Nat} {r : Int} (h : mrkB ⟨id, r, 1, 0⟩ = true) (h2 : r ≤ ca M d - 10) : layE M d id r = goE d M (layT id r) ∧ layB M d id r = goB d M (layT id r) ∧ id ≠ 0 ∧ 40 ≤ r ∧ r ≤ 256 ∧ 0 ≤ d := by
  obtain ⟨a1, a2, a3, _⟩ := of_mrkB h
  have a1' : id ≠ 0 := a1
  have a2' : 40 ≤ r := a2
  have hh : dx M d = 0 := by
    by_cases e : dx M d = 0
    · exact e
    · have : ca M d = 0 := by unfold ca; rw [if_neg e]
      omega
  have hd : 0 ≤ d := by
    rcases dF M d with ⟨e, _⟩ | ⟨_, k, rfl, _⟩
    · omega
    · omega
  have e : layQ M d id r = true := decide_eq_true ⟨hh, a1, a2, a3, by omega⟩
  exact ⟨if_pos e, if_pos e, a1, a2, a3, hd⟩
theorem pllay_no {w : World} {G : Nat → Prop} {q : Nat} {M : BenS} (d : Int) (id : Nat) (r : Int) (hb : bi.Bn w G q M) (hT : TbG w G) (hr : Room M 13) (hid : id < 18446744073709551616) (hno : ¬ (mrkB ⟨id, r, 1, 0⟩ = true ∧ r ≤ ca M d - 10)) : Calls Tryz.prog 35 #[.pointer (some ⟨q, 0, none⟩), .int .i64 d, .int .u64 (id : Nat), .int .i64 r] w (PNew bi.Bn pJ w G q (layE M d id r) (layB M d id r) (layX d id r)) := by
  obtain ⟨g1, g2⟩ := lay_no hno
  rw [g1, g2]
  have HB := Lib.hid hb
  by_cases hm : mrkB ⟨id, r, 1, 0⟩ = true
  · have H1 := Lib.hid hm
    have H2 : Hid (decide (ca M d - 10 < r) = true) := Lib.hid (decide_eq_true (by
      rcases Int.lt_or_le (ca M d - 10) r with h | h
      · exact h
      · exact absurd ⟨hm, h⟩ hno))
    clear hb hT hr hid hno hm g1 g2
    go_enter Tryz.func35, Tryz.ntmps35
    go_upto_region 1 with fail
    refine wp_region_lit ?_
    refine ag rfl (ah rfl (ev rfl)) ?_
    simp only [Act.put, aa, ae, af]
    refine ao rfl (au Tryz.call70 rfl (evc (ev rfl) evn)) ?_
    refine (pbmade HB.out).mono ?_
    rintro e w1 ⟨rfl, hb1⟩
    refine ⟨_, rfl, ?_⟩
    simp only [Act.put, aa, ae, af]
    refine ag (v := .bool false) rfl (aX true rfl (ev rfl)) ?_
    simp only [Act.put, aa, ae, af]
    refine wpList_nil ?_
    have HB1 := Lib.hid hb1
    clear hb1
    go_upto_region 3 with fail
    refine wp_region_lit ?_
    refine ag rfl (ah rfl (ev rfl)) ?_
    simp only [Act.put, aa, ae, af]
    refine ag rfl (ah rfl (ev rfl)) ?_
    simp only [Act.put, aa, ae, af]
    refine ag rfl (exec_bldMk3 id r rfl (ev rfl) (ev rfl) evk) ?_
    simp only [Act.put, aa, ae, af]
    refine ag rfl (bJ rfl) ?_
    simp only [Act.put, aa, ae, af]
    refine aB rfl (dj (c := ⟨id, r, 1, 0⟩) rfl (ev rfl) (ev rfl)) ?_
    simp only [Act.put, aa, ae, af]
    refine wpList_nil ?_
    obtain ⟨k1, k2, k3⟩ := boxM_new w1 ⟨id, r, 1, 0⟩
    have HM := Lib.hid k1
    have HB2 := Lib.hid (HB1.out.trans (k2.mono HB1.out.size))
    have HLE := Lib.hid k3
    have HW1 : Hid (w.heap.size ≤ w1.heap.size) := Lib.hid HB1.out.size
    clear k1 k2 k3
    generalize w1.alloc (.cells (bk ⟨id, r, 1, 0⟩).toArray 67) = w2 at *
    generalize w1.heap.size = mb at *
    have HB22 := Lib.hid (bi.below HB.out HB2.out)
    go_upto_region 4 with fail
    refine aE (B := w2.heap.size) (by kernel_rfl) ?_
    refine am rfl (fun w' hw => bC rfl (ev rfl) (HM.out.below HLE.out hw).range) ?_
    simp only [Act.put, aa, ae, af]
    refine a9 rfl (fun _ => au Tryz.call101 rfl (evc (ev rfl) evn)) (aU (Nat.le_refl _) fun w' hw => (pmmay_b ⟨id, r, 1, 0⟩ w' H1.out)) ?_
    simp only [Act.put, aa, ae, af]
    refine am (v := .bool false) rfl (fun w' hw => aX true rfl (ev rfl)) ?_
    simp only [Act.put, aa, ae, af]
    refine am (v := .bool false) rfl (fun w' hw => ah rfl (ev rfl)) ?_
    simp only [Act.put, aa, ae, af]
    refine am (aj rfl rfl rfl rfl) (fun w' hw => ak rfl (ev rfl) faM1) ?_
    simp only [Act.put, aa, ae, af]
    refine am (aj rfl rfl rfl rfl) (fun w' hw => av rfl (ev rfl) (bW (HM.out.below HLE.out hw).cells.2.1)) ?_
    simp only [Act.put, aa, ae, af]
    refine am (aj rfl rfl rfl rfl) (fun w' hw => ah rfl (ev rfl)) ?_
    simp only [Act.put, aa, ae, af]
    refine am (aj rfl rfl rfl rfl) (fun w' hw => ah rfl (ev rfl)) ?_
    simp only [Act.put, aa, ae, af]
    refine a9 (aj rfl rfl rfl rfl) (fun _ => au Tryz.call71 rfl (evc (ev rfl) (evc (ev rfl) evn))) (aU (Nat.le_refl _) fun w' hw => (proom d (bi.below HB22.out hw))) ?_
    simp only [Act.put, aa, ae, af]
    refine am (v := .bool true) (aj rfl rfl rfl rfl) (fun w' hw => cY true rfl (ev rfl) (ev rfl) H2.out) ?_
    simp only [Act.put, aa, ae, af]
    refine am (v := .bool true) rfl (fun w' hw => aN rfl (ev rfl) (ev rfl)) ?_
    simp only [Act.put, aa, ae, af]
    refine wpQuiet_nil ?_
    intro w3 hw
    have HB3 := Lib.hid (HB2.out.trans (hw.mono HB2.out.size))
    go_wp2_with fail
    go_ret2
    exact PNew.same HB.out HB3.out (by decide) rfl
  · have H1 : Hid (mrkB ⟨id, r, 1, 0⟩ = false) := Lib.hid (by simpa using hm)
    clear hb hT hr hid hno hm g1 g2
    go_enter Tryz.func35, Tryz.ntmps35
    go_upto_region 1 with fail
    refine wp_region_lit ?_
    refine ag rfl (ah rfl (ev rfl)) ?_
    simp only [Act.put, aa, ae, af]
    refine ao rfl (au Tryz.call70 rfl (evc (ev rfl) evn)) ?_
    refine (pbmade HB.out).mono ?_
    rintro e w1 ⟨rfl, hb1⟩
    refine ⟨_, rfl, ?_⟩
    simp only [Act.put, aa, ae, af]
    refine ag (v := .bool false) rfl (aX true rfl (ev rfl)) ?_
    simp only [Act.put, aa, ae, af]
    refine wpList_nil ?_
    have HB1 := Lib.hid hb1
    clear hb1
    go_upto_region 3 with fail
    refine wp_region_lit ?_
    refine ag rfl (ah rfl (ev rfl)) ?_
    simp only [Act.put, aa, ae, af]
    refine ag rfl (ah rfl (ev rfl)) ?_
    simp only [Act.put, aa, ae, af]
    refine ag rfl (exec_bldMk3 id r rfl (ev rfl) (ev rfl) evk) ?_
    simp only [Act.put, aa, ae, af]
    refine ag rfl (bJ rfl) ?_
    simp only [Act.put, aa, ae, af]
    refine aB rfl (dj (c := ⟨id, r, 1, 0⟩) rfl (ev rfl) (ev rfl)) ?_
    simp only [Act.put, aa, ae, af]
    refine wpList_nil ?_
    obtain ⟨k1, k2, k3⟩ := boxM_new w1 ⟨id, r, 1, 0⟩
    have HM := Lib.hid k1
    have HB2 := Lib.hid (HB1.out.trans (k2.mono HB1.out.size))
    have HLE := Lib.hid k3
    have HW1 : Hid (w.heap.size ≤ w1.heap.size) := Lib.hid HB1.out.size
    clear k1 k2 k3
    generalize w1.alloc (.cells (bk ⟨id, r, 1, 0⟩).toArray 67) = w2 at *
    generalize w1.heap.size = mb at *
    have HB22 := Lib.hid (bi.below HB.out HB2.out)
    go_upto_region 4 with fail
    refine aE (B := w2.heap.size) (by kernel_rfl) ?_
    refine am rfl (fun w' hw => bC rfl (ev rfl) (HM.out.below HLE.out hw).range) ?_
    simp only [Act.put, aa, ae, af]
    refine a9 rfl (fun _ => au Tryz.call101 rfl (evc (ev rfl) evn)) (aU (Nat.le_refl _) fun w' hw => (pmmay_b ⟨id, r, 1, 0⟩ w' H1.out)) ?_
    simp only [Act.put, aa, ae, af]
    refine am (v := .bool true) rfl (fun w' hw => aX false rfl (ev rfl)) ?_
    simp only [Act.put, aa, ae, af]
    refine fp 6 (v := .bool true) rfl (fun w' hw => ah rfl (ev rfl)) (by kernel_rfl) ?_
    simp only [bc, List.take_succ_cons, List.take_zero, List.drop_succ_cons, List.drop_zero, Act.put, List.setIfInBounds_toArray, List.set_cons_succ, List.set_cons_zero]
    refine am (v := .bool true) rfl (fun w' hw => aM rfl (ev rfl) evk) ?_
    simp only [Act.put, aa, ae, af]
    refine wpQuiet_nil ?_
    intro w3 hw
    have HB3 := Lib.hid (HB2.out.trans (hw.mono HB2.out.size))
    go_wp2_with fail
    go_ret2
    exact PNew.same HB.out HB3.out (by decide) rfl
set_option maxHeartbeats 2000000 in
theorem pllay_go {w : World} {G : Nat → Prop} {q : Nat} {M : BenS} (d : Int) (id : Nat) (r : Int) (hb : bi.Bn w G q M) (hT : TbG w G) (hr : Room M 13) (hid : id < 18446744073709551616) (hm : mrkB ⟨id, r, 1, 0⟩ = true) (h2 : r ≤ ca M d - 10) : Calls Tryz.prog 35 #[.pointer (some ⟨q, 0, none⟩), .int .i64 d, .int .u64 (id : Nat), .int .i64 r] w (PNew bi.Bn pJ w G q (layE M d id r) (layB M d id r) (layX d id r)) := by
  obtain ⟨g1, g2, g3, g4, g5, g6⟩ := lay_yes hm h2
  rw [g1, g2]
  obtain ⟨dn, rfl⟩ : ∃ dn : Nat, d = (dn : Int) := ⟨d.toNat, by omega⟩
  obtain ⟨rn, rfl⟩ : ∃ rn : Nat, r = (rn : Int) := ⟨r.toNat, by omega⟩
  have HX : Hid (layX (dn : Int) id (rn : Int) = ⟨dn, id, rn, 1, 1, 0, []⟩) := Lib.hid (by unfold layX; rw [Int.toNat_natCast, Int.toNat_natCast])
  rw [HX.out]
  have HLT : Hid (layT id (rn : Int) = zerT ++ [.fl, .wr (ef 1) (aR.pB ⟨1, ⟨id, (rn : Int), 1, 0⟩⟩), .fl]) := Lib.hid (by unfold layT mkT; rw [Int.toNat_natCast])
  have HPE : Hid (aR.pE ⟨1, ⟨id, (rn : Int), 1, 0⟩⟩ = 0) := Lib.hid (aR.pE_ok (by rw [eB, Bool.and_eq_true]; exact ⟨decide_eq_true ⟨by show 1 ≤ 1; omega, by show 1 ≤ 4611686018427387904; omega⟩, hm⟩))
  have HFT : Hid ((⟨id, (rn : Int), 1, 0⟩ : Mrk).fit) := Lib.hid ⟨hid, by show 1 < 18446744073709551616; omega, by show 0 < 18446744073709551616; omega⟩
  have H1 := Lib.hid hm
  have H2 : Hid (decide (ca M (dn : Int) - 10 < (rn : Int)) = false) := Lib.hid (decide_eq_false (by omega))
  have HB := Lib.hid hb
  have HT := Lib.hid hT
  have HR := Lib.hid hr
  have HID := Lib.hid g3
  obtain ⟨m, hmd⟩ : ∃ m : Mrk, (⟨id, (rn : Int), 1, 0⟩ : Mrk) = m := ⟨_, rfl⟩
  have HMD := Lib.hid hmd
  clear hb hT hr hid hm h2 g1 g2 g3 g4 g5 g6 HX hmd
  go_enter Tryz.func35, Tryz.ntmps35
  go_upto_region 1 with fail
  refine wp_region_lit ?_
  refine ag rfl (ah rfl (ev rfl)) ?_
  simp only [Act.put, aa, ae, af]
  refine ao rfl (au Tryz.call70 rfl (evc (ev rfl) evn)) ?_
  refine (pbmade HB.out).mono ?_
  rintro e w1 ⟨rfl, hb1⟩
  refine ⟨_, rfl, ?_⟩
  simp only [Act.put, aa, ae, af]
  refine ag (v := .bool false) rfl (aX true rfl (ev rfl)) ?_
  simp only [Act.put, aa, ae, af]
  refine wpList_nil ?_
  have HB1 := Lib.hid hb1
  clear hb1
  go_upto_region 3 with fail
  refine wp_region_lit ?_
  refine ag rfl (ah rfl (ev rfl)) ?_
  simp only [Act.put, aa, ae, af]
  refine ag rfl (ah rfl (ev rfl)) ?_
  simp only [Act.put, aa, ae, af]
  refine ag rfl (exec_bldMk3 id (rn : Int) rfl (ev rfl) (ev rfl) evk) ?_
  simp only [Act.put, aa, ae, af]
  refine ag rfl (bJ rfl) ?_
  simp only [Act.put, aa, ae, af]
  refine aB rfl (dj (c := ⟨id, (rn : Int), 1, 0⟩) rfl (ev rfl) (ev rfl)) ?_
  simp only [Act.put, aa, ae, af]
  refine wpList_nil ?_
  obtain ⟨k1, k2, k3⟩ := boxM_new w1 ⟨id, (rn : Int), 1, 0⟩
  have HM := Lib.hid k1
  have HB2 := Lib.hid (HB1.out.trans (k2.mono HB1.out.size))
  have HLE := Lib.hid k3
  have HW1 : Hid (w.heap.size ≤ w1.heap.size) := Lib.hid HB1.out.size
  clear k1 k2 k3
  generalize w1.alloc (.cells (bk ⟨id, (rn : Int), 1, 0⟩).toArray 67) = w2 at *
  generalize w1.heap.size = mb at *
  have HB22 := Lib.hid (bi.below HB.out HB2.out)
  go_upto_region 4 with fail
  refine aE (B := w2.heap.size) (by kernel_rfl) ?_
  refine am rfl (fun w' hw => bC rfl (ev rfl) (HM.out.below HLE.out hw).range) ?_
  simp only [Act.put, aa, ae, af]
  refine a9 rfl (fun _ => au Tryz.call101 rfl (evc (ev rfl) evn)) (aU (Nat.le_refl _) fun w' hw => (pmmay_b ⟨id, (rn : Int), 1, 0⟩ w' H1.out)) ?_
  simp only [Act.put, aa, ae, af]
  refine am (v := .bool false) rfl (fun w' hw => aX true rfl (ev rfl)) ?_
  simp only [Act.put, aa, ae, af]
  refine am (v := .bool false) rfl (fun w' hw => ah rfl (ev rfl)) ?_
  simp only [Act.put, aa, ae, af]
  refine am (aj rfl rfl rfl rfl) (fun w' hw => ak rfl (ev rfl) faM1) ?_
  simp only [Act.put, aa, ae, af]
  refine am (aj rfl rfl rfl rfl) (fun w' hw => av rfl (ev rfl) (bW (HM.out.below HLE.out hw).cells.2.1)) ?_
  simp only [Act.put, aa, ae, af]
  refine am (aj rfl rfl rfl rfl) (fun w' hw => ah rfl (ev rfl)) ?_
  simp only [Act.put, aa, ae, af]
  refine am (aj rfl rfl rfl rfl) (fun w' hw => ah rfl (ev rfl)) ?_
  simp only [Act.put, aa, ae, af]
  refine a9 (aj rfl rfl rfl rfl) (fun _ => au Tryz.call71 rfl (evc (ev rfl) (evc (ev rfl) evn))) (aU (Nat.le_refl _) fun w' hw => (proom (dn : Int) (bi.below HB22.out hw))) ?_
  simp only [Act.put, aa, ae, af]
  refine am (v := .bool false) (aj rfl rfl rfl rfl) (fun w' hw => cY false rfl (ev rfl) (ev rfl) H2.out) ?_
  simp only [Act.put, aa, ae, af]
  refine am (v := .bool false) rfl (fun w' hw => aN rfl (ev rfl) (ev rfl)) ?_
  simp only [Act.put, aa, ae, af]
  refine wpQuiet_nil ?_
  intro w3 hw
  have HB3 := Lib.hid (HB2.out.trans (hw.mono HB2.out.size))
  have HM3 := Lib.hid (HM.out.below HLE.out hw)
  have HLE3 : Hid (mb < w3.heap.size) := Lib.hid (Nat.lt_of_lt_of_le HLE.out hw.size)
  clear hw HM HLE HB22 HB2
  go_upto_region 6 with fail
  refine wp_region_lit ?_
  refine ag rfl (ah rfl (ev rfl)) ?_
  simp only [Act.put, aa, ae, af]
  refine ag rfl (ah rfl (ev rfl)) ?_
  simp only [Act.put, aa, ae, af]
  refine ag rfl (bC (c := ⟨id, (rn : Int), 1, 0⟩) rfl (ev rfl) HM3.out.range) ?_
  simp only [Act.put, aa, ae, af]
  refine ag rfl (exec_bldLgP rfl (ev rfl) (ev rfl) evk (ev rfl)) ?_
  simp only [Act.put, aa, ae, af]
  refine ag rfl (exec_boxLgP (q := q) (v := .slice none 0 0) (x := ⟨dn, id, rn, 1, 1, 0, []⟩) rfl (ev rfl)) ?_
  simp only [Act.put, aa, ae, af]
  refine ag rfl (aq rfl (ev rfl)) ?_
  simp only [Act.put, aa, ae, af]
  refine wpList_nil ?_
  have HJ4 := Lib.hid (PJ.first (x := ⟨dn, id, rn, 1, 1, 0, []⟩) HB.out HT.out HB3.out rfl)
  have HB4 := Lib.hid (HB3.out.alloc HB3.out.size (.cells (plgC q (.slice none 0 0) ⟨dn, id, rn, 1, 1, 0, []⟩).toArray 88))
  have HM4 := Lib.hid (HM3.out.past (.cells (plgC q (.slice none 0 0) ⟨dn, id, rn, 1, 1, 0, []⟩).toArray 88))
  have HZ4 : Hid (w3.heap.size < (w3.alloc (.cells (plgC q (.slice none 0 0) ⟨dn, id, rn, 1, 1, 0, []⟩).toArray 88)).heap.size) := Lib.hid (by rw [World.size_alloc]; omega)
  have HPW : Hid (w.heap.size ≤ w3.heap.size) := Lib.hid HB3.out.size
  generalize w3.alloc (.cells (plgC q (.slice none 0 0) ⟨dn, id, rn, 1, 1, 0, []⟩).toArray 88) = w4 at *
  have HML : Hid (mb < w4.heap.size) := Lib.hid (Nat.lt_trans HLE3.out HZ4.out)
  clear HM3 HB3 HLE3
  generalize w3.heap.size = p at *
  obtain ⟨x, hx⟩ : ∃ x : LgS, (⟨dn, id, rn, 1, 1, 0, []⟩ : LgS) = x := ⟨_, rfl⟩
  have HXD := Lib.hid (show x.d = dn ∧ x.own = id ∧ x.fst = 1 from by rw [← hx]; exact ⟨rfl, rfl, rfl⟩)
  rw [hx] at HJ4 ⊢
  have HXE := Lib.hid hx
  rw [HMD.out] at HM4 HPE HFT HLT
  clear hx
  go_upto_region 7 with fail
  refine wp_region_lit ?_
  refine ag rfl (ah rfl (ev rfl)) ?_
  simp only [Act.put, aa, ae, af]
  refine ao rfl (au Tryz.call102 rfl (evc (ev rfl) evn)) ?_
  refine (plblanking w4 p).mono ?_
  rintro e w6 ⟨r0, rfl, hla⟩
  have HLY := Lib.hid hla
  have HM6 := Lib.hid (HM4.out.below HML.out hla.bel)
  clear hla
  refine ⟨_, rfl, ?_⟩
  simp only [Act.put, aa, ae, af]
  refine ag rfl (aq rfl (ev rfl)) ?_
  simp only [Act.put, aa, ae, af]
  refine wpList_nil ?_
  go_upto_region 8 with fail
  refine wp_region_lit ?_
  refine ag rfl (ah rfl (ev rfl)) ?_
  simp only [Act.put, aa, ae, af]
  refine ag rfl (ah rfl (ev rfl)) ?_
  simp only [Act.put, aa, ae, af]
  refine ag rfl (eM rfl (ev rfl)) ?_
  simp only [Act.put, aa, ae, af]
  refine ag rfl (ah rfl (ev rfl)) ?_
  simp only [Act.put, aa, ae, af]
  refine ag rfl (bC (c := m) rfl (ev rfl) HM6.out.range) ?_
  simp only [Act.put, aa, ae, af]
  refine ao rfl (au Tryz.call60 rfl (evc (ev rfl) (evc evk (evc (ev rfl) evn)))) ?_
  refine (pmarking (p := p) (w := w6) 1 m (by omega) HFT.out HPE.out).mono ?_
  rintro e w7 ⟨s, rfl, hs, hb7⟩
  have HLY7 := Lib.hid (HLY.out.below hb7)
  have HS7 := Lib.hid (hs.below (B' := w4.heap.size) (C' := w7.heap.size) (Nat.le_refl _) (Below.refl _ _) HLY.out.bel.size (Nat.le_refl _))
  clear hs hb7
  refine ⟨_, rfl, ?_⟩
  simp only [Act.put, aa, ae, af]
  refine ag rfl (ah rfl (ev rfl)) ?_
  simp only [Act.put, aa, ae, af]
  refine ag rfl (eM rfl (ev rfl)) ?_
  simp only [Act.put, aa, ae, af]
  refine ag rfl (exec_mk3F (s1 := flF p) (s2 := s) (s3 := flF p) rfl (ev rfl) (ev rfl) (ev rfl)) ?_
  simp only [Act.put, aa, ae, af]
  have HAL := Lib.hid ((Below.refl w7.heap.size w7).alloc (Nat.le_refl _) (.cells #[(flF p).val, s.val, (flF p).val] 108))
  have HLY8 := Lib.hid (HLY7.out.below HAL.out)
  have HST8 : Hid (Stps (Btw w4.heap.size (w7.alloc (.cells #[(flF p).val, s.val, (flF p).val] 108)).heap.size) (w7.alloc (.cells #[(flF p).val, s.val, (flF p).val] 108)) p [flF p, s, flF p] [.fl, .wr (ef 1) (aR.pB ⟨1, m⟩), .fl]) := Lib.hid ⟨.fl, HS7.out.below (Nat.le_refl _) HAL.out (Nat.le_refl _) HAL.out.size, .fl, trivial⟩
  refine fJ (ts' := [.fl, .wr (ef 1) (aR.pB ⟨1, m⟩), .fl]) rfl _ _ rfl (w7.heap.size + 1) 3 3 (some ⟨w7.heap.size, 0, none⟩) rfl rfl HLY8.out HST8.out (rdF_new3 w7 (flF p) s (flF p)) (by show 10 + 3 ≤ 1000000; omega) ?_
  intro v9 w9 hl9 hg9
  simp only [Act.put, aa, ae, af]
  refine ag rfl (aq rfl (ev rfl)) ?_
  simp only [Act.put, aa, ae, af]
  refine wpList_nil ?_
  rw [← HLT.out] at hl9
  obtain ⟨l9, hm9, hst9, hll⟩ := hl9.len
  have hlt9 : l9.length = 13 := by rw [hll, HLT.out]; rfl
  obtain ⟨g9, c9, rfl, hb9, hg9', _, _⟩ := hm9.slice_ (by omega)
  have hrd9 := hm9.rd
  rw [hlt9] at hm9 hrd9 ⊢
  have HJ9 := Lib.hid (HJ4.out.guard (K' := Btw w4.heap.size w9.heap.size) hl9.bel (fun b e => .inr e))
  have HCH := Lib.hid (ptaken (some ⟨g9, 0, none⟩) 13 c9 w9.heap.size l9 w9 (Btw w4.heap.size w9.heap.size) _ hrd9 (Nat.le_refl _) (by omega) (fun b off e => by injection e with e; injection e with e1 e2; subst e1; exact ⟨hb9, hg9'⟩) (chn_go (wK := w9) (fun _ e => e) _ _ hst9 HJ9.out (fun _ _ => rfl) (room_more HR.out (by rw [← hll, hlt9]; exact Nat.le_refl _))))
  rw [HXD.out.1] at HCH
  clear hl9 hg9 hm9 hst9 hll hlt9 hb9 hg9' hrd9 HM4 HM6 HLY HLY7 HLY8 HST8 HS7 HAL HJ9 HZ4 HML
  go_upto_region 9 with fail
  refine wp_region_lit ?_
  refine ag rfl (ah rfl (ev rfl)) ?_
  simp only [Act.put, aa, ae, af]
  refine ao rfl (au Tryz.call59 rfl (evc (ev rfl) evn)) ?_
  refine HCH.out.mono ?_
  rintro e w10 ⟨E, rfl, hE, hj10, _⟩
  have HJ10 := Lib.hid (hj10.less (K' := fun _ => False) fun _ e => e.elim)
  clear hj10 HCH
  refine ⟨_, rfl, ?_⟩
  simp only [Act.put, aa, ae, af]
  refine ag rfl (aq rfl (ev rfl)) ?_
  simp only [Act.put, aa, ae, af]
  refine wpList_nil ?_
  have HPF : Hid (∀ b, cM p (.slice none 0 0) b → w.heap.size ≤ b) := Lib.hid fun b e => by
    rcases e with rfl | e
    · exact HPW.out
    · simp [Value.ownBlock] at e
  by_cases h0 : E = 0
  · subst h0
    have HEE := Lib.hid hE
    clear hE
    go_wp2_with fail
    go_ret2
    rw [← HEE.out]
    (try rw [HXE.out])
    exact PNew.of HB4.out (fun b e => e) HPF.out HJ10.out (.inl ⟨rfl, rfl, by rw [HXD.out.2.1]; exact HID.out, by rw [HXD.out.2.2]; exact Nat.le_refl _⟩) fun _ => rfl
  · have hne : (E != 0) = true := by simpa using h0
    have HEE := Lib.hid hE
    clear hE
    go_wp2_with fail
    go_ret2
    rw [← HEE.out]
    (try rw [HXE.out])
    exact PNew.of HB4.out (fun b e => e) HPF.out HJ10.out (.inr ⟨h0, rfl⟩) fun _ => rfl
theorem pllay {w : World} {G : Nat → Prop} {q : Nat} {M : BenS} (d : Int) (id : Nat) (r : Int) (hb : bi.Bn w G q M) (hT : TbG w G) (hr : Room M 13) (hid : id < 18446744073709551616) : Calls Tryz.prog 35 #[.pointer (some ⟨q, 0, none⟩), .int .i64 d, .int .u64 (id : Nat), .int .i64 r] w (PNew bi.Bn pJ w G q (layE M d id r) (layB M d id r) (layX d id r)) := by
  by_cases h : mrkB ⟨id, r, 1, 0⟩ = true ∧ r ≤ ca M d - 10
  · exact pllay_go d id r hb hT hr hid h.1 h.2
  · exact pllay_no d id r hb hT hr hid h
end Go.Proofs.YtcafafdimcecpaaGreatDoor
