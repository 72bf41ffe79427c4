import Derived.Test.YtbbcdhkinbmdnaaGreatDoorLoba
import Derived.Test.YtbbcdhkinbmdnaaGreatDoorLobc
import Derived.Test.YtbbcdhkinbmdnaaGreatDoorLoZ
namespace Go.Proofs.YtbbcdhkinbmdnaaGreatDoor
open Go.RowKit
set_option linter.unusedVariables false
set_option linter.unusedSimpArgs false
set_option maxRecDepth 100000
theorem app_row {wa : World} {p q nb cr : Nat} {Ar : Option Addr} {x : LgS} {y : Nte} (hL : PLg wa p q (.slice Ar x.nts.length cr) x) (hN : bI wa nb y) (hnf : ¬ ch p (.slice Ar x.nts.length cr) nb) (h8 : x.nts.length ≤ 8) :
  ∃ An cn w12, (Builtin.append_ #[aY.s, aY.s] 78 #[.slice Ar x.nts.length cr, .slice (some ⟨wa.heap.size, 0, none⟩) 1 1]).run Tryz.prog (wa.drew.alloc (.cells (aY.cel y).toArray aY.t)) = .ok (.slice An (x.nts.length + 1) cn) w12 ∧
   w12.heap[p]? = some (.cells (plgC q (.slice Ar x.nts.length cr) x).toArray 80 (0, 0)) ∧ bI w12 nb y ∧
   PLg (w12.setCell ⟨p, 7, none⟩ (.slice An (x.nts.length + 1) cn)) p q (.slice An (x.nts.length + 1) cn) (x.with_ y) ∧ Only (ch p (.slice Ar x.nts.length cr)) wa (w12.setCell ⟨p, 7, none⟩ (.slice An (x.nts.length + 1) cn)) ∧
   bI (w12.setCell ⟨p, 7, none⟩ (.slice An (x.nts.length + 1) cn)) nb y ∧ ∀ b, (Value.slice An (x.nts.length + 1) cn).ownBlock = some b → (Value.slice Ar x.nts.length cr).ownBlock = some b ∨ wa.heap.size ≤ b := by
 have hb : Below wa.heap.size wa (wa.drew.alloc (.cells (aY.cel y).toArray aY.t)) := (bd (Below.refl _ _)).alloc (Nat.le_refl _) _
 have hrd : RdE aY (wa.drew.alloc (.cells (aY.cel y).toArray aY.t)) (wa.heap.size + 1) (some ⟨wa.heap.size, 0, none⟩) 1 [y] := eF (l := [y]) wa.drew _ aY.t (by simp [bC])
 obtain ⟨vn, w12, hrun, hmn, hgr, hown⟩ := eW aY (wa.drew.alloc (.cells (aY.cel y).toArray aY.t)) 78 0 (wa.heap.size + 1) 1 1 (.slice Ar x.nts.length cr) x.nts [y] (some ⟨wa.heap.size, 0, none⟩) (hL.row.below hb) hrd (Nat.zero_le _) (by omega)
 have ho : Only (ch p (.slice Ar x.nts.length cr)) wa w12 := (Only.of_below _ hb).grown hgr (fun k e => .inl (.inr e))
 have hp : w12.heap[p]? = some (.cells (plgC q (.slice Ar x.nts.length cr) x).toArray 80 (0, 0)) := (hgr.block p (aK (cj hL.at_ hb)) (fun e => hL.rowp e.symm)).trans (cj hL.at_ hb)
 have hn : bI w12 nb y := ho.keep hN hnf
 obtain ⟨An, cn, hvn, _, _⟩ := hmn.form
 subst hvn
 have hlen : (x.nts ++ [y]).length = x.nts.length + 1 := by rw [List.length_append, List.length_singleton]
 rw [hlen] at hrun hmn hown
 have hpo := PLo.setn (q := q) (v := .slice Ar x.nts.length cr) (d := x.d) (c := x.cnt) (m := x.mark) hp hmn
 have hso := eu w12 p 7 (.slice An (x.nts.length + 1) cn)
 exact ⟨An, cn, w12, hrun, hp, hn, PLo.to (x := x.with_ y) hpo, ho.trans (hso.wide (G := ch p (.slice Ar x.nts.length cr)) fun b e => .inl e) fun b e => .inl e, hso.keep hn fun e => hnf (.inl e), fun b e => (hown b e).imp id fun e => Nat.le_trans hb.size e⟩
def PApp (w0 : World) (H : Nat → Prop) (p q : Nat) (M : BenS) (x : LgS) (cs : List Cl) (e : Ending) (w' : World) : Prop :=
 e = .returned (.tuple #[.int .u64 ((appN M x cs : Nat) : Int), .int .i64 (appE M x cs)]) ∧ ∃ v', PJ w0 H (fun _ => False) w' p q v' (appB M x cs) (appX M x cs)
theorem PApp.err {w0 w' : World} {H K : Nat → Prop} {p q : Nat} {v : Value} {M M' : BenS} {x : LgS} {cs : List Cl} {e : Ending} {E : Int} (h : appE M x cs = E ∧ appB M x cs = M' ∧ appX M x cs = x ∧ appN M x cs = 0) (hj : PJ w0 H K w' p q v M' x) (he : e = .returned (.tuple #[.int .u64 0, .int .i64 E])) : PApp w0 H p q M x cs e w' := by
 obtain ⟨h1, h2, h3, h4⟩ := h
 unfold PApp
 rw [h1, h2, h3, h4]
 exact ⟨he, v, hj.less fun _ e => e.elim⟩
theorem PApp.fin {w0 w' : World} {H : Nat → Prop} {p q : Nat} {v : Value} {M M' : BenS} {x : LgS} {cs : List Cl} {e : Ending} (h : appE M x cs = 0 ∧ appB M x cs = M' ∧ appX M x cs = x.with_ (dh x cs) ∧ appN M x cs = x.next) (hj : PJ w0 H (fun _ => False) w' p q v M' (x.with_ (dh x cs))) (he : e = .returned (.tuple #[.int .u64 ((x.next : Nat) : Int), .int .i64 0])) : PApp w0 H p q M x cs e w' := by
 obtain ⟨h1, h2, h3, h4⟩ := h
 unfold PApp
 rw [h1, h2, h3, h4]
 exact ⟨he, v, hj⟩
theorem app_note {M : BenS} {x : LgS} {N : Nat} {cs : List Cl} (hk : LgOk M x N) (hq : recE cs = 0) (h1 : 1 ≤ x.fst) : aL.pE (dh x cs) = 0 ∧ (dh x cs).fit ∧ 1 ≤ (dh x cs).cells ∧ (dh x cs).cells ≤ 32 := by
 obtain ⟨r1, r2, _⟩ := of_recE hq
 have hn := hk.nxt
 have hd := hk.hed
 have hl := hk.lim
 have hs := sumB_lt (bS cs)
 have hx : x.next = x.fst + x.nts.length := rfl
 exact ⟨aL.pE_ok (decide_eq_true ⟨by show 1 ≤ x.next; omega, by show x.next ≤ _; omega, by show x.head ≤ _; omega, by show (1 : Int) ≤ (cs.length : Int); omega, by show (cs.length : Int) ≤ 32; omega⟩), ⟨by show x.next < _; omega, by show x.head < _; omega, hs⟩, by show (1 : Int) ≤ (cs.length : Int); omega, by show (cs.length : Int) ≤ 32; omega⟩
set_option maxHeartbeats 3000000 in
theorem plappend {w0 w : World} {H : Nat → Prop} {p q N : Nat} {v : Value} {M : BenS} {x : LgS} (A : Option Addr) (n0 c0 N0 : Nat) (cs : List Cl) (h : PJ w0 H (fun _ => False) w p q v M x) (hk : LgOk M x N) (hr : Room M 40) (hc : RdE bY w N0 A n0 cs) (hN0 : N0 ≤ w.heap.size) (hn0 : n0 ≤ maxLen) (h1 : 1 ≤ x.fst) :
  Calls Tryz.prog 47 #[.pointer (some ⟨p, 0, none⟩), .slice A n0 c0] w (PApp w0 H p q M x cs) := by
 have HJ := af h
 have HL := af h.log
 have HK := af hk
 have HR := af hr
 have HCS := af hc
 have HN0 := af hN0
 have HNX : Hid (n0 ≤ maxLen) := af hn0
 have HF1 := af h1
 have HLC : Hid (cs.length = n0) := af hc.1
 clear h hk hr hc hN0 hn0 h1
 go_enter Tryz.func47, Tryz.ntmps47
 go_upto_region 1 with fail
 refine ag ?_
 refine ai rfl (aj rfl (ev rfl)) ?_;simp only [aa]
 refine ar rfl (av Tryz.call79 rfl (evc (ev rfl) evn)) ?_
 refine (plmade _ HL.out).mono ?_
 rintro e w1 ⟨rfl, rfl⟩
 refine ⟨_, rfl, ?_⟩
 simp only [aa]
 refine ai (v := .bool false) rfl (bf true rfl (ev rfl)) ?_;simp only [aa]
 refine ah ?_
 go_upto_region 3 with fail
 refine ag ?_
 refine ai rfl (aj rfl (ev rfl)) ?_;simp only [aa]
 refine ar rfl (av Tryz.call82 rfl (evc (ev rfl) evn)) ?_
 refine (pcput A n0 c0 N0 w.heap.size cs w (af rfl) HCS.out HN0.out HNX.out).mono ?_
 rintro e w1 ⟨v1, rfl, hm, hb⟩
 refine ⟨_, rfl, ?_⟩
 simp only [aa]
 refine ai rfl (aj rfl (ev rfl)) ?_;simp only [aa]
 refine ai rfl (aD rfl (ev rfl) rfl) ?_;simp only [aa]
 refine ai rfl (aD rfl (ev rfl) rfl) ?_;simp only [aa]
 refine ai rfl (aq rfl (ev rfl)) ?_;simp only [aa]
 refine ai rfl (aq rfl (ev rfl)) ?_;simp only [aa]
 refine ah ?_
 by_cases hE : recE cs = 0
 ·rw [recP_ok hE] at hm
  rw [hE]
  obtain ⟨y1, y2, y3, y4⟩ := app_note HK.out hE HF1.out
  have hrl := ca cs
  obtain ⟨R, hRd⟩ : ∃ R, bS cs = R := ⟨_, rfl⟩
  have hlt : bc (dh x cs) = R.length := by rw [← hRd]; exact fB
  rw [hRd] at hm hrl
  obtain ⟨n, hn⟩ : ∃ n, R.length = n := ⟨_, rfl⟩
  have hhd : hd cs.length ≤ 2 := by have : (cs.length : Int) ≤ 32 := y4; unfold hd; omega
  have hn2 : 2 ≤ n ∧ n ≤ 34 := by
   have e1 : (1 : Int) ≤ (cs.length : Int) := y3
   have e2 : (cs.length : Int) ≤ 32 := y4
   rw [← hn, hrl]; unfold hd; omega
  obtain ⟨A1, c1, rfl, hrd, hc1, hc2⟩ := hm.open_ hn
  have HRD := af hrd
  have HN2 := af hn2
  have HTK := af (hlt.trans hn)
  have HRR := af hRd
  have HQ0 := af hE
  have HPE := af y1
  have HFT := af y2
  have HCL := af (show 1 ≤ (dh x cs).cells ∧ (dh x cs).cells ≤ 32 from ⟨y3, y4⟩)
  have HB1 := af hb
  have HJ1 := af (HJ.out.below hb)
  have HL1 := af HJ1.out.log
  clear hm hb hE y1 y2 y3 y4 hrl hRd hlt hn hhd hn2 hrd hc1 hc2 HL HCS HN0 HNX
  go_upto_region 6 with fail
  refine ag ?_
  refine ai rfl (aj rfl (ev rfl)) ?_;simp only [aa]
  refine ar rfl (av Tryz.call71 rfl (evc (ev rfl) evn)) ?_
  refine (plnext w1 HL1.out HK.out).mono ?_
  rintro e w2 ⟨rfl, hb2⟩
  have HL2 := af (HL1.out.below hb2)
  have HB2 := af hb2
  clear hb2
  refine ⟨_, rfl, ?_⟩
  simp only [aa]
  refine ai rfl (aj rfl (ev rfl)) ?_;simp only [aa]
  refine ar rfl (av Tryz.call81 rfl (evc (ev rfl) evn)) ?_
  refine (plhead w2 HL2.out HK.out).mono ?_
  rintro e w3 ⟨rfl, hb3⟩
  have HB3 := af (HB2.out.trans (hb3.mono HB2.out.size))
  have HJ3 := af (HJ1.out.below HB3.out)
  have HRD3 := af (HRD.out.below HB3.out)
  clear hb3 HL2 HB2
  refine ⟨_, rfl, ?_⟩
  simp only [aa]
  refine ai rfl (aj rfl (ev rfl)) ?_;simp only [aa]
  refine ai rfl (exec_lenC rfl (ev rfl)) ?_;simp only [aa]
  refine ai rfl (aj rfl (ev rfl)) ?_;simp only [aa]
  refine ar rfl (av Tryz.call83 rfl (evc (ev rfl) evn)) ?_
  refine (psum A1 n c1 w1.heap.size R w3 HJ3.out.tab.m.tab HRD3.out (by have := HN2.out.2; omega)).mono ?_
  rintro e w4 ⟨rfl, rfl⟩
  refine ⟨_, rfl, ?_⟩
  simp only [aa]
  refine ai rfl (exec_bldNt4 x.next x.head (n0 : Int) (sumB R) rfl (ev rfl) (ev rfl) (ev rfl) (ev rfl)) ?_;simp only [aa]
  refine ai rfl (bW rfl) ?_;simp only [aa]
  refine az rfl (dk (c := ⟨x.next, x.head, (n0 : Int), sumB R⟩) rfl (ev rfl) (ev rfl)) ?_;simp only [aa]
  refine ah ?_
  have hY : (⟨x.next, x.head, (n0 : Int), sumB R⟩ : Nte) = dh x cs := by unfold dh; rw [HRR.out, HLC.out]
  rw [hY]
  clear hY
  obtain ⟨y, hy⟩ : ∃ y, dh x cs = y := ⟨_, rfl⟩
  have HYP : Hid (y.pos = x.head ∧ y.seq = x.next) := af (by rw [← hy]; exact ⟨rfl, rfl⟩)
  have HYD := af hy
  rw [hy] at HTK HPE HFT HCL ⊢
  have HY := af (bI.new w3 y)
  have HB4 := af (HB3.out.trans (((Below.refl w3.heap.size w3).alloc (Nat.le_refl _) (.cells (aQ y).toArray 35)).mono HB3.out.size))
  have HLE : Hid (w3.heap.size < (w3.alloc (.cells (aQ y).toArray 35)).heap.size) := af (by rw [World.size_alloc]; omega)
  have HNB : Hid (w1.heap.size ≤ w3.heap.size) := af HB3.out.size
  have HW1 : Hid (w.heap.size ≤ w1.heap.size) := af HB1.out.size
  generalize w3.alloc (.cells (aQ y).toArray 35) = w4 at *
  have HJ4 := af (HJ1.out.below HB4.out)
  have HL4 := af HJ4.out.log
  have HRD4 := af (HRD.out.below HB4.out)
  clear HRD3 HJ3 HB3 HRD HL1 hy
  generalize w3.heap.size = nb at *
  obtain ⟨Ar, cr, rfl, hcr1, hcr2⟩ := HL4.out.slice
  clear hcr1 hcr2
  have HFR : Hid (Calls Tryz.prog 84 #[.pointer (some ⟨p, 0, none⟩), nte y] w4 fun e w' => e = .returned (.bool (decide (n ≤ x.free))) ∧ Below w4.heap.size w4 w') := af (by
   have := plfits w4 y HL4.out HK.out HCL.out
   rwa [HTK.out] at this)
  go_upto_region 7 with fail
  refine ag ?_
  refine ai rfl (aj rfl (ev rfl)) ?_;simp only [aa]
  refine ai rfl (aB rfl (ev rfl)) ?_;simp only [aa]
  refine ai rfl (am rfl (ev rfl) faQl4) ?_;simp only [aa]
  refine ai rfl (au rfl (ev rfl) (ldNts (PLg.c7 HL4.out))) ?_;simp only [aa]
  refine ai rfl (cD Tryz.underlying78 rfl (ev rfl)) ?_;simp only [aa]
  by_cases k1 : x.nts.length = 8
  ·have HQ : Hid (appQ x cs = 10) := af (appQ_full HQ0.out (.inl (by omega)))
   have H1 : Hid (((x.nts.length : Int) == (8 : Int)) = true) := af (by simp [k1])
   clear k1
   refine ai (v := .bool true) rfl (aP true rfl (ev rfl) evk H1.out) ?_;simp only [aa]
   refine aC 4 (v := .bool true) rfl (aj rfl (ev rfl)) (by kernel_rfl) ?_
   simp only [aJ, ae, aa]
   refine ai (v := .bool true) rfl (aG rfl (ev rfl) evk) ?_;simp only [aa]
   refine ah ?_
   go_wp2_with fail
   go_ret2
   exact PApp.err (by have h0 := app_no (M := M) (x := x) (cs := cs) (by rw [HQ.out]; decide); rw [HQ.out] at h0; exact h0) HJ4.out rfl
  ·have H1 : Hid (((x.nts.length : Int) == (8 : Int)) = false) := af (by simp; omega)
   refine ai (v := .bool false) rfl (aP false rfl (ev rfl) evk H1.out) ?_;simp only [aa]
   refine ai (v := .bool false) rfl (aj rfl (ev rfl)) ?_;simp only [aa]
   refine al gr (aj rfl (ev rfl)) ?_;simp only [aa]
   refine al gr (bh rfl (ev rfl) HY.out.range) ?_;simp only [aa]
   refine ar gr (av Tryz.call84 rfl (evc (ev rfl) (evc (ev rfl) evn))) ?_
   refine HFR.out.mono ?_
   rintro e w5 ⟨rfl, hb5⟩
   by_cases k2 : n ≤ x.free
   rotate_left 1
   ·have HQ : Hid (appQ x cs = 10) := af (appQ_full HQ0.out (.inr (by rw [← fB (x := x), HYD.out, HTK.out]; omega)))
    have H2 : Hid (decide (n ≤ x.free) = false) := af (decide_eq_false k2)
    clear k1 k2
    rw [H2.out]
    have HB5 := af hb5
    clear hb5
    refine ⟨_, rfl, ?_⟩
    simp only [aa]
    refine al (v := .bool true) gr (bf false rfl (ev rfl)) ?_;simp only [aa]
    refine ai (v := .bool true) rfl (aE rfl (ev rfl) (ev rfl)) ?_;simp only [aa]
    refine ah ?_
    go_wp2_with fail
    go_ret2
    exact PApp.err (by have h0 := app_no (M := M) (x := x) (cs := cs) (by rw [HQ.out]; decide); rw [HQ.out] at h0; exact h0) (HJ4.out.below HB5.out) rfl
   ·have heig := HK.out.eig
    have HQ : Hid (appQ x cs = 0) := af (appQ_ok HQ0.out (by rw [← fB (x := x), HYD.out, HTK.out]; omega))
    have H2 : Hid (decide (n ≤ x.free) = true) := af (decide_eq_true k2)
    clear k1 k2 heig
    rw [H2.out]
    have HB5 := af hb5
    clear hb5
    refine ⟨_, rfl, ?_⟩
    simp only [aa]
    refine al (v := .bool false) gr (bf true rfl (ev rfl)) ?_;simp only [aa]
    refine ai (v := .bool false) rfl (aE rfl (ev rfl) (ev rfl)) ?_;simp only [aa]
    refine ah ?_
    have HJ5 := af (HJ4.out.below HB5.out)
    have HL5 := af HJ5.out.log
    have HRD5 := af (HRD4.out.below (HB5.out.mono (Nat.le_of_lt (Nat.lt_of_le_of_lt HNB.out HLE.out))))
    have HY5 := af (HY.out.below HLE.out HB5.out)
    have HB15 := af (HB4.out.trans (HB5.out.mono (Nat.le_of_lt (Nat.lt_of_le_of_lt HNB.out HLE.out))))
    have HS5 : Hid (nb < w5.heap.size ∧ w1.heap.size ≤ w5.heap.size) := af ⟨Nat.lt_of_lt_of_le HLE.out HB5.out.size, HB15.out.size⟩
    have HSZ := af HK.out.siz
    have HLA := af (pllaying w5 y A1 n c1 w1.heap.size R HL5.out HCL.out HK.out.siz (by have := HK.out.hed; have := HK.out.lim; have := HN2.out; rw [HYP.out.1, HTK.out]; omega) HRD5.out HS5.out.2 HTK.out)
    clear HJ4 HL4 HRD4 HY HB4 HB5 HFR H1 H2 HRD5
    go_upto_region 9 with fail
    refine ag ?_
    refine ai rfl (aj rfl (ev rfl)) ?_;simp only [aa]
    refine ai rfl (bh (c := y) rfl (ev rfl) HY5.out.range) ?_;simp only [aa]
    refine ai rfl (aj rfl (ev rfl)) ?_;simp only [aa]
    refine ar rfl (av Tryz.call85 rfl (evc (ev rfl) (evc (ev rfl) (evc (ev rfl) evn)))) ?_
    refine HLA.out.mono ?_
    rintro e w6 ⟨r, rfl, hla⟩
    rw [HYP.out.1] at hla
    have HLY := af hla
    have HY6 := af (HY5.out.below HS5.out.1 hla.bel)
    clear hla HLA
    refine ⟨_, rfl, ?_⟩
    simp only [aa]
    refine ai rfl (aq rfl (ev rfl)) ?_;simp only [aa]
    refine ah ?_
    go_upto_region 10 with fail
    refine ag ?_
    refine ai rfl (aj rfl (ev rfl)) ?_;simp only [aa]
    refine ai rfl (aj rfl (ev rfl)) ?_;simp only [aa]
    refine ai rfl (fd rfl (ev rfl)) ?_;simp only [aa]
    refine ai rfl (aj rfl (ev rfl)) ?_;simp only [aa]
    refine ai rfl (bh (c := y) rfl (ev rfl) HY6.out.range) ?_;simp only [aa]
    refine ar rfl (av Tryz.call87 rfl (evc (ev rfl) (evc (ev rfl) evn))) ?_
    refine (pnoting (p := p) (w := w6) y HFT.out HPE.out).mono ?_
    rintro e w7 ⟨s, rfl, hs, hb7⟩
    have HLY7 := af (HLY.out.below hb7)
    have HS7 := af (hs.below (B' := w5.heap.size) (C' := w7.heap.size) (Nat.le_refl _) (Below.refl _ _) HLY.out.bel.size (Nat.le_refl _))
    have HY7 := af (HY6.out.below (Nat.lt_of_lt_of_le HS5.out.1 HLY.out.bel.size) hb7)
    have HZ7 : Hid (nb < w7.heap.size) := af (Nat.lt_of_lt_of_le (Nat.lt_of_lt_of_le HS5.out.1 HLY.out.bel.size) hb7.size)
    clear hs hb7
    refine ⟨_, rfl, ?_⟩
    simp only [aa]
    refine ai rfl (aj rfl (ev rfl)) ?_;simp only [aa]
    refine ai rfl (fd rfl (ev rfl)) ?_;simp only [aa]
    refine ai rfl (exec_mk3F (s1 := flF p) (s2 := s) (s3 := flF p) rfl (ev rfl) (ev rfl) (ev rfl)) ?_;simp only [aa]
    have HAL := af ((Below.refl w7.heap.size w7).alloc (Nat.le_refl _) (.cells #[(flF p).val, s.val, (flF p).val] 134))
    have HLY8 := af (HLY7.out.below HAL.out)
    have HST8 : Hid (Stps (Btw w5.heap.size (w7.alloc (.cells #[(flF p).val, s.val, (flF p).val] 134)).heap.size) (w7.alloc (.cells #[(flF p).val, s.val, (flF p).val] 134)) p [flF p, s, flF p] [.fl, .wr (cp y.seq) (aL.pB y), .fl]) := af ⟨.fl, HS7.out.below (Nat.le_refl _) HAL.out (Nat.le_refl _) HAL.out.size, .fl, trivial⟩
    have HY8 := af (HY7.out.past (.cells #[(flF p).val, s.val, (flF p).val] 134))
    refine gd (ts' := [.fl, .wr (cp y.seq) (aL.pB y), .fl]) rfl _ _ rfl (w7.heap.size + 1) 3 3 (some ⟨w7.heap.size, 0, none⟩) rfl rfl HLY8.out HST8.out (rdF_new3 w7 (flF p) s (flF p)) (by rw [recT_len, ← HRR.out, ← fB (x := x), HYD.out, HTK.out]; have := HN2.out.2; omega) ?_
    intro v9 w9 hl9 hg9
    simp only [aa]
    refine ai rfl (aq rfl (ev rfl)) ?_;simp only [aa]
    refine ah ?_
    have HAPT : Hid (recT x.size x.head R ++ [.fl, .wr (cp y.seq) (aL.pB y), .fl] = appT x cs) := af (by unfold appT; rw [HRR.out, HYD.out, HYP.out.2])
    rw [HAPT.out] at hl9
    have hlen9 := hl9.len
    obtain ⟨l9, hm9, hst9, hll⟩ := hlen9
    have hlt9 : l9.length = n + 3 := by rw [hll, appT_len, HRR.out, ← HTK.out, ← HYD.out, fB, HRR.out]
    obtain ⟨g9, c9, rfl, hb9, hg9', _, _⟩ := hm9.slice_ (by omega)
    have hrd9 := hm9.rd
    rw [hlt9] at hm9 hrd9 ⊢
    have HB19 := af (HB15.out.trans (hl9.bel.mono HS5.out.2))
    have HJ9 := af (HJ1.out.guard (K' := Btw w1.heap.size w9.heap.size) HB19.out (fun b e => .inr e))
    have HY9 : Hid (bI w9 nb y) := af (hl9.bel.block nb HS5.out.1 |>.trans HY5.out)
    have HZ9 : Hid (nb < w9.heap.size) := af (Nat.lt_of_lt_of_le HS5.out.1 hl9.bel.size)
    have HCH := af (ptaken (some ⟨g9, 0, none⟩) (n + 3) c9 w9.heap.size l9 w9 (Btw w1.heap.size w9.heap.size) _ hrd9 (Nat.le_refl _) (by have := HN2.out.2; omega) (fun b off e => by injection e with e; injection e with e1 e2; subst e1; exact ⟨by have := HS5.out.2; omega, hg9'⟩) (chn_go (wK := w9) (fun _ e => e) _ _ (hst9.keep_ (fun _ _ => rfl) fun b e => ⟨Nat.le_trans HS5.out.2 e.1, e.2⟩) HJ9.out (fun _ _ => rfl) (room_more HR.out (by rw [← hll, hlt9]; have := HN2.out.2; omega))))
    have HBN : Hid (w1.heap.size ≤ nb) := af HNB.out
    clear hl9 hg9 hm9 hst9 hll hlt9 hb9 hg9' hrd9 HJ5 HL5 HY5 HY6 HY7 HY8 HLY HLY7 HLY8 HST8 HS7 HAL HB15 HNB HLE HZ7
    go_upto_region 11 with fail
    refine ag ?_
    refine ai rfl (aj rfl (ev rfl)) ?_;simp only [aa]
    refine ar rfl (av Tryz.call28 rfl (evc (ev rfl) evn)) ?_
    refine HCH.out.mono ?_
    rintro e w10 ⟨E, rfl, hE, hj10, hk10⟩
    have HY10 : Hid (bI w10 nb y) := af ((hk10 nb ⟨HBN.out, HZ9.out⟩).trans HY9.out)
    have HJ10 := af (hj10.less (K' := fun _ => False) fun _ e => e.elim)
    have HNF : Hid (¬ ch p (.slice Ar x.nts.length cr) nb) := af (fun e => by have := HJ1.out.log.lt nb e; have := HBN.out; omega)
    clear hj10 hk10 HCH
    refine ⟨_, rfl, ?_⟩
    simp only [aa]
    refine ai rfl (aq rfl (ev rfl)) ?_;simp only [aa]
    refine ah ?_
    by_cases h0 : E = 0
    ·have HFIN := af (app_fin (M := M) (x := x) (cs := cs) HQ.out ⟨hE.symm.trans h0, rfl⟩)
     subst h0
     have HL10 := af HJ10.out.log
     obtain ⟨An, cn, w12, hrun, hp12, hn12, hpl, hon, hn13, hown⟩ := app_row HL10.out HY10.out HNF.out HK.out.eig
     have HRUN := af hrun
     have HP12 := af hp12
     have HN12 := af hn12
     have HPL := af hpl
     have HON := af hon
     have HN13 := af hn13
     have HOWN := af hown
     have HMK : Hid ((nte y).cells = (aY.cel y).toArray) := af (by show Value.cells (.agg _) = _; simp [Value.cells]; rfl)
     have hS : w10.drew.heap[p]? = some (.cells (plgC q (.slice Ar x.nts.length cr) x).toArray 80 (0, 0)) ∧ bI w10.drew nb y := ⟨HL10.out.at_, HY10.out⟩
     have hS5 : (w10.drew.alloc (.cells (aY.cel y).toArray aY.t)).heap[p]? = some (.cells (plgC q (.slice Ar x.nts.length cr) x).toArray 80 (0, 0)) ∧ bI (w10.drew.alloc (.cells (aY.cel y).toArray aY.t)) nb y := ⟨bU hS.1 _, hS.2.past _⟩
     clear hE hrun hp12 hn12 hpl hon hn13 hown
     go_upto_region 14 with fail
     refine bH (fun w' => w'.heap[p]? = some (.cells (plgC q (.slice Ar x.nts.length cr) x).toArray 80 (0, 0)) ∧ bI w' nb y) 10 (by kernel_rfl) ?_
     change cF _ _ _ _ _ _ 11 _ _ w10.drew
     refine gu 0 rfl (fun w' hw => aj rfl (ev rfl)) hS ?_;simp only [aa]
     refine gu 1 rfl (fun w' hw => aj rfl (ev rfl)) hS ?_;simp only [aa]
     refine gu 2 rfl (fun w' hw => aB rfl (ev rfl)) hS ?_;simp only [aa]
     refine gu 3 rfl (fun w' hw => am rfl (ev rfl) faQl4) hS ?_;simp only [aa]
     refine gu 4 rfl (fun w' hw => au rfl (ev rfl) (ldNts (cell_row (j := 7) hw.1 rfl))) hS ?_;simp only [aa]
     refine gu 5 rfl (fun w' hw => bh (c := y) rfl (ev rfl) hw.2.range) hS ?_;simp only [aa]
     refine bl 6 rfl (by kernel_rfl) rfl (du (E := aY) (a := y) rfl (ev rfl) HMK.out (by show 4 ≤ _; omega)) (fun _ => hS5) ?_;simp only [aa]
     refine bl 7 rfl (by kernel_rfl) rfl (fP (E := aY) rfl (ev rfl) (ev rfl) HRUN.out) (fun _ => ⟨HP12.out, HN12.out⟩) ?_;simp only [aa]
     refine bl 8 rfl (by kernel_rfl) rfl (aB rfl (ev rfl)) (fun _ => ⟨HP12.out, HN12.out⟩) ?_;simp only [aa]
     refine bl 9 rfl (by kernel_rfl) rfl (am rfl (ev rfl) faQl4) (fun _ => ⟨HP12.out, HN12.out⟩) ?_;simp only [aa]
     refine fy 10 rfl (by kernel_rfl) rfl (exec_stN rfl (ev rfl) (ev rfl) (cell_row (j := 7) HP12.out rfl) (frozen_of_row w12 p 7 _ _ HP12.out)) (fun e => absurd rfl e) ?_
     simp only [Act.put]
     refine cm (by kernel_rfl) ?_ _
     have HJE := af (HJ10.out.grow HON.out HPL.out HOWN.out)
     have cseq := HN13.out.cells.1
     rw [HYP.out.2] at cseq
     rw [HYD.out] at HFIN
     generalize w12.setCell ⟨p, 7, none⟩ (.slice An (x.nts.length + 1) cn) = w13 at *
     clear hS hS5
     go_wp2_with (first | (refine ai rfl (am rfl rfl faNt0) ?_) | fail)
     go_ret2
     exact PApp.fin (by rw [HYD.out]; exact HFIN.out) (by rw [HYD.out]; exact HJE.out) rfl
    ·have hne : (E != 0) = true := by simpa using h0
     have HER := af (app_err (M := M) (x := x) (cs := cs) HQ.out ⟨hE.symm, rfl⟩ h0)
     clear hE h0
     go_wp2_with fail
     go_ret2
     exact PApp.err HER.out HJ10.out rfl
 ·have HNO := af (app_no (M := M) (x := x) (cs := cs) (by rw [appQ_rec hE]; omega))
  have HQ := af (appQ_rec (x := x) hE)
  have HJ1 := af (HJ.out.below hb)
  obtain ⟨E, hEE⟩ : ∃ E, recE cs = E := ⟨_, rfl⟩
  rw [hEE] at hE HQ ⊢
  have hne : ((E : Int) != 0) = true := by simp; omega
  clear hE hEE hm hb HJ
  go_wp2_with fail
  go_ret2
  refine PApp.err HNO.out HJ1.out ?_
  rw [HQ.out]
  rfl
end Go.Proofs.YtbbcdhkinbmdnaaGreatDoor
