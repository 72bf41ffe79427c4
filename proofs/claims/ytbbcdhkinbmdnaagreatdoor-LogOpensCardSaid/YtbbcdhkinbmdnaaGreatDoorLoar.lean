import Derived.Test.YtbbcdhkinbmdnaaGreatDoorLoaq
import Derived.Test.YtbbcdhkinbmdnaaGreatDoorLoaj
import Derived.Test.YtbbcdhkinbmdnaaGreatDoorLoak
import Derived.Test.YtbbcdhkinbmdnaaGreatDoorLoai
import Derived.Test.YtbbcdhkinbmdnaaGreatDoorLoab
import Derived.Test.YtbbcdhkinbmdnaaGreatDoorLoaa
import Derived.Test.YtbbcdhkinbmdnaaGreatDoorLoao
import Derived.Test.YtbbcdhkinbmdnaaGreatDoorLoad
import Derived.Test.YtbbcdhkinbmdnaaGreatDoorLoZ
namespace Go.Proofs.YtbbcdhkinbmdnaaGreatDoor
open Go.RowKit
set_option linter.unusedVariables false
set_option maxRecDepth 100000
section
variable {D : Dev} {w w' : World} {p : Nat} {v : Value} {Fs : Nat → Nat → Prop} {ps : List Nat} {M : BenS}
set_option maxHeartbeats 2000000 in
theorem b_write_ask (n : Int) (x : Blk) (h : BenAt (co D) w p v Fs ps M) {k : Nat} (hdk : M.dark = false) (hk : k < M.ds.length) (he : cR (M.ds.getD k cJ).S (M.ds.getD k cJ).g n ≠ 0) :
  Calls Tryz.prog 6 #[.pointer (some ⟨p, 0, none⟩), .int .i64 k, .int .i64 n, blk x] w fun e w' => e = .returned (.int .i64 (cR (M.ds.getD k cJ).S (M.ds.getD k cJ).g n)) ∧ Below w.heap.size w w' := by
 obtain ⟨y, hy⟩ : ∃ y, M.ds.getD k cJ = y := ⟨_, rfl⟩
 obtain ⟨q, hq⟩ : ∃ q, ps.getD k 0 = q := ⟨_, rfl⟩
 have hA : Below w.heap.size w ((w.alloc (.cells #[.int .i64 n] 3)).alloc (.cells (cel x).toArray 29)) := ((Below.refl _ w).alloc (Nat.le_refl _) _).alloc (by rw [World.size_alloc]; omega) _
 have HO := af (b_lit_ok (h.below hA) hdk hk)
 obtain ⟨hB, k0, k1, k2, hsz⟩ := wr3_facts w n x (some ⟨q, 0, none⟩)
 have hat := (h.below hB).devs.at_ k hk
 rw [hy, hq] at hat
 rw [hy] at he ⊢
 rw [hq] at HO
 have HD := af (D.sure n hat)
 have HB := af hB
 obtain ⟨c0, f0⟩ := one_cell k0
 obtain ⟨c2, f2⟩ := one_cell k2
 rcases eD (S := y.S) (g := y.g) (n := n) with e | e | ⟨e, _⟩
 rotate_right 1
 ·exact absurd e he
 all_goals
  rw [e] at HD ⊢
  clear e he h hA hB k0 k1 k2 hat hy hq hdk
  go_enter Tryz.func6, Tryz.ntmps6
  unfold wr3 at *
  go_wp2_with (first | (refine al rfl (bE rfl rfl) ?_) | fail)
  refine HO.out.mono ?_
  rintro e w1 ⟨rfl, rfl⟩
  go_wp2_with fail
  refine HD.out.mono ?_
  rintro e w2 ⟨rfl, hb⟩
  have HBB := af (HB.out.trans (hb.mono (by rw [hsz]; omega)))
  clear hb
  go_wp2_with (first | (refine al rfl (aT rfl) ?_) | (refine aV rfl (exec_fill rfl rfl rfl) ?_) | fail)
  go_ret
  exact ⟨rfl, HBB.out.alloc HBB.out.size _⟩
set_option maxHeartbeats 2000000 in
theorem b_write_do (n : Int) (x : Blk) (h : BenAt (co D) w p v Fs ps M) {k : Nat} (hdk : M.dark = false) (hk : k < M.ds.length) (he : cR (M.ds.getD k cJ).S (M.ds.getD k cJ).g n = 0) (hs : M.steps < 1000000) (hll : M.left < 9223372036854775808) (hL : (M.ds.getD k cJ).L.length < 1000000) :
  Calls Tryz.prog 6 #[.pointer (some ⟨p, 0, none⟩), .int .i64 k, .int .i64 n, blk x] w fun e w' => e = .returned (.int .i64 M.d6) ∧ Left (co D) w p v Fs ps M.ds.length (dK M (k : Int) n x) w' := by
 obtain ⟨y, hy⟩ : ∃ y, M.ds.getD k cJ = y := ⟨_, rfl⟩
 obtain ⟨q, hq⟩ : ∃ q, ps.getD k 0 = q := ⟨_, rfl⟩
 have hA : Below w.heap.size w ((w.alloc (.cells #[.int .i64 n] 3)).alloc (.cells (cel x).toArray 29)) := ((Below.refl _ w).alloc (Nat.le_refl _) _).alloc (by rw [World.size_alloc]; omega) _
 have HO := af (b_lit_ok (h.below hA) hdk hk)
 obtain ⟨hB, k0, k1, k2, hsz⟩ := wr3_facts w n x (some ⟨q, 0, none⟩)
 have hat := (h.below hB).devs.at_ k hk
 have hr0 : bT M (k : Int) n = 0 := by unfold bT; rw [if_pos (litE_ok hdk hk), M.dev_nat]; exact he
 rw [hy, hq] at hat
 rw [hy] at he hL
 rw [hq] at HO
 have HD := af (D.sure n hat)
 have HB := af hB
 have HH := af h
 have HK0 := af k0
 have HK1 := af k1
 have HK2 := af k2
 have HE := af he
 have HSS := af hs
 have HLL := af hll
 have HL := af hL
 have HY := af hy
 have HQ := af hq
 have HR := af hr0
 obtain ⟨c0, f0⟩ := one_cell k0
 obtain ⟨c2, f2⟩ := one_cell k2
 rw [he] at HD
 by_cases h1 : M.left = 1
 all_goals
  have H1 := af h1
  clear h1 he h hA hB k0 k1 k2 hat hy hq hdk hs hll hL hr0
  go_enter Tryz.func6, Tryz.ntmps6
  unfold wr3 at *
  go_wp2_with (first | (refine al rfl (bE rfl rfl) ?_) | fail)
  refine HO.out.mono ?_
  rintro e w1 ⟨rfl, rfl⟩
  go_wp2_with fail
  refine HD.out.mono ?_
  rintro e w2 ⟨rfl, hb⟩
  have hb2 := HB.out.trans (hb.mono (by rw [hsz]; omega))
  have HBB := af (hb2.alloc hb2.size (.cells (cel (sureB y.S y.g n)).toArray 29))
  have HA0 := af (bU (cj HK0.out hb) (.cells (cel (sureB y.S y.g n)).toArray 29))
  have HA1 := af (bU (cj HK1.out hb) (.cells (cel (sureB y.S y.g n)).toArray 29))
  have HA2 := af (bU (cj HK2.out hb) (.cells (cel (sureB y.S y.g n)).toArray 29))
  clear hb hb2 c0 c2 f0 f2 hsz
  generalize sureB y.S y.g n = z at *
  go_wp2_with (first | (refine al rfl (aT rfl) ?_) | (refine aV rfl (exec_fill rfl rfl rfl) ?_) | fail)
  generalize w2.alloc (.cells (cel z).toArray 29) = w3 at *
 ·refine (b_step_cut _ (HH.out.below HBB.out) H1.out).mono ?_
  rintro e w4 ⟨rfl, h4, ho4⟩
  go_wp2_with fail
  go_ret
  refine ⟨bD (by unfold BenS.d6; rw [if_pos H1.out]), ?_⟩
  rw [show dK M (k : Int) n x = M.night from by unfold dK; rw [if_pos HR.out, if_pos H1.out]]
  exact Left.above HBB.out (Left.obj h4 ho4 rfl)
 ·refine (b_step_do 20 #[] _ (HH.out.below HBB.out) H1.out HSS.out HLL.out Tryz.call20 (fun z w4 => z = 0 ∧ Left (co D) w3 p v Fs ps M.ds.length (dK M (k : Int) n x) w4) ?_).mono ?_
  ·intro w4 h4 ho4
   have hat4 := h4.devs.at_ k hk
   rw [show M.done.ds.getD k cJ = y from HY.out, HQ.out] at hat4
   have hne : ∀ j, j < 3 → w.heap.size + j ≠ p := fun j _ e => by have := aK HH.out.at_; omega
   refine (b_clo hat4 HL.out (ho4.keep HA2.out (hne 2 (by omega))) (ho4.keep HA0.out (hne 0 (by omega))) (ho4.keep HA1.out (hne 1 (by omega)))).mono ?_
   rintro e w5 ⟨he5, F', g1, g2, g3⟩
   refine ⟨_, he5, HE.out, Left.behind ho4 (Left.turn h4 hk g2 g3 (d := ⟨y.S, wrL y.S y.L y.g n x, y.g⟩) (show D.Dv _ _ _ _ _ _ by rw [HQ.out]; exact g1) ?_)⟩
   unfold dK
   rw [if_pos HR.out, if_neg H1.out, show M.dev (k : Int) = y from HY.out]
   rfl
  ·rintro e w5 ⟨z, rfl, rfl, hl5⟩
   have HL5 := af (Left.above HBB.out hl5)
   clear hl5
   go_wp2_with fail
   go_ret
   exact ⟨bD (by unfold BenS.d6; rw [if_neg H1.out]), HL5.out⟩
theorem b_write (d n : Int) (x : Blk) (h : BenAt (co D) w p v Fs ps M) (hr : ∀ i, i < M.ds.length → (M.ds.getD i cJ).L.length < 1000000) (hs : M.steps < 1000000) (hll : M.left < 9223372036854775808) :
  Calls Tryz.prog 6 #[.pointer (some ⟨p, 0, none⟩), .int .i64 d, .int .i64 n, blk x] w fun e w' => e = .returned (.int .i64 (wrE6 M d n)) ∧ Left (co D) w p v Fs ps M.ds.length (dK M d n x) w' := by
 by_cases h0 : dF M d = 0
 ·rcases dB M d with ⟨e, _⟩ | ⟨e, _⟩ | ⟨e, hdk, k, rfl, hk⟩
  ·omega
  ·omega
  have hr0 : bT M (k : Int) n = cR (M.ds.getD k cJ).S (M.ds.getD k cJ).g n := by unfold bT; rw [if_pos e, M.dev_nat]
  by_cases he : cR (M.ds.getD k cJ).S (M.ds.getD k cJ).g n = 0
  ·refine (b_write_do n x h hdk hk he hs hll (hr k hk)).mono ?_
   rintro e w' ⟨rfl, hl⟩
   exact ⟨by unfold wrE6; rw [hr0, if_pos he], hl⟩
  ·refine (b_write_ask n x h hdk hk he).mono ?_
   rintro e w' ⟨rfl, hb⟩
   exact ⟨by unfold wrE6; rw [hr0, if_neg he], Left.below_ h hb (by unfold dK; rw [hr0, if_neg he])⟩
 ·refine (b_write_lit d n x h h0).mono ?_
  rintro e w' ⟨rfl, hb⟩
  have hr0 : bT M d n = dF M d := by unfold bT; rw [if_neg h0]
  exact ⟨by unfold wrE6; rw [hr0, if_neg h0], Left.below_ h hb (by unfold dK; rw [hr0, if_neg h0])⟩
end
section
variable {D : Dev} {w w' : World}
set_option maxHeartbeats 2000000 in
theorem b_new {A : Option Addr} {n c : Nat} {ks : List Int} (hl : RdE IntE w w.heap.size A n ks) (hnc : n ≤ c) (hc : c ≤ maxLen) :
  Calls Tryz.prog 13 #[.slice A n c] w (eE (co D) w ks) := by
 have hlen : ks.length = n := hl.1
 unfold maxLen at hc
 by_cases h1 : n < 1
 ·have HN := af (show ¬ newOk ks from fun h => by have := h.1; omega)
  have h0 : n = 0 := by omega
  subst h0
  clear hl hlen h1
  go_enter Tryz.func13, Tryz.ntmps13
  go_wp2
  go_ret2
  exact eE.no (Below.refl _ _) HN.out rfl
 by_cases h2 : 17 < n
 ·have HN := af (show ¬ newOk ks from fun h => by have := h.2.1; omega)
  have h1' : ¬((n : Int) < 1) := by omega
  have h2' : ((n : Int) > 17) := by omega
  clear hl hlen h1 h2
  go_enter Tryz.func13, Tryz.ntmps13
  go_wp2
  go_ret2
  exact eE.no (Below.refl _ _) HN.out rfl
 have h1' : ¬((n : Int) < 1) := by omega
 have h2' : ¬((n : Int) > 17) := by omega
 have h3' : ¬(17 < (n : Int)) := by omega
 have HL := af hl
 have HLEN := af hlen
 have HMK := af (show Making (co D) w (w.alloc (.cells #[.slice none 0 0, .int .i64 0, .int .i64 0, .bool false] 113)) (.slice none 0 0) (fun _ _ => False) [] [] 0 false 0 from
  ⟨heap_alloc_new w _, aH.nil _ _, ⟨rfl, fun i hi => absurd hi (Nat.not_lt_zero i), fun i j hi => absurd hi (Nat.not_lt_zero i)⟩, fun i hi => absurd hi (Nat.not_lt_zero i), (Below.refl _ w).alloc (Nat.le_refl _) _⟩)
 clear hl hlen
 go_enter Tryz.func13, Tryz.ntmps13
 go_wp2_with fail
 generalize w.alloc (.cells #[.slice none 0 0, .int .i64 0, .int .i64 0, .bool false] 113) = w0 at *
 clear h1' h2' h3'
 go_loopw [21] (fun i wr => ∃ (j : Nat) (v : Value) (Fs : Nat → Nat → Prop) (ps : List Nat), j ≤ n ∧ i = .int .i64 j ∧ Making (co D) w wr v Fs ps ((ks.take j).map newD) 0 false 0 ∧ ∀ q, q < j → 1 ≤ ks.getD q 0 ∧ ks.getD q 0 ≤ 512) (fun i _ => n - (intOf i).toNat)
 case atStart => exact ⟨0, _, _, _, Nat.zero_le _, rfl, HMK.out, fun q hq => absurd hq (Nat.not_lt_zero q)⟩
 case round =>
  obtain ⟨j, v, Fs, ps, hj, rfl, hmk, hall⟩ := hrel
  have HALL := af hall
  clear hall HMK
  by_cases hlt : j < n
  ·have hlj : (j : Int) < (n : Int) := by omega
   obtain ⟨bA, oA, rfl, hbA, hcA⟩ := (HL.out.below hmk.below).int hlt
   have HM := af hmk
   obtain ⟨AS, cS, rfl, hs1, hs2⟩ := hmk.row.form
   unfold maxLen at hs2
   have hpl : ps.length = j := by have := hmk.devs.len; rw [List.length_map, List.length_take] at this; have := HLEN.out; omega
   have HPL := af hpl
   obtain ⟨z, hz⟩ : ∃ z, ks.getD j 0 = z := ⟨_, rfl⟩
   rw [hz] at hcA
   have HZ := af hz
   clear hmk hz hpl
   by_cases hok : 1 ≤ z ∧ z ≤ 512
   ·obtain ⟨k, rfl⟩ : ∃ k : Nat, z = k := ⟨z.toNat, by omega⟩
    have hk1 : 1 ≤ k := by omega
    have hk2 : k ≤ 512 := by omega
    clear hok
    go_wp2_with fail
    refine (D.new_ok k wr hk1 hk2).mono ?_
    rintro e w1 ⟨p', F', rfl, hd1, hb1, hF1⟩
    have hat1 := cj HM.out.at_ hb1
    obtain ⟨c0, c1, c2, c3⟩ := d9 hat1
    have hrow1 := HM.out.row.below hb1
    have hrow2 := hrow1.below ((Below.refl _ w1).alloc (Nat.le_refl _) (.cells ((co D).E.cel p').toArray (co D).E.t))
    have HR := af hrow2
    have HNEW := af (eF (E := (co D).E) (l := [p']) w1 ((co D).E.cel p').toArray (co D).E.t (by rw [d5]; simp [bC]))
    have HSZ := af (show w.heap.size ≤ (w1.alloc (.cells ((co D).E.cel p').toArray (co D).E.t)).heap.size by rw [World.size_alloc]; have := HM.out.below.size; have := hb1.size; omega)
    have HD1 := af hd1
    have HB1 := af hb1
    have HF1 := af hF1
    have HAT := af hat1
    have HPS := af (show ps.length + 1 ≤ 34359738368 by have := HPL.out; omega)
    clear hd1 hb1 hF1 hat1 hrow1 hrow2
    have hal : w.heap.size < w1.heap.size := aK HAT.out
    go_wp2_with (first | (refine al rfl (du (E := (co D).E) (a := p') rfl rfl rfl (by decide)) ?_) | (at_builtin; refine wpList_appE_own (co D).E rfl _ _ rfl w.heap.size _ _ _ _ ps [p'] _ rfl rfl HR.out HNEW.out HSZ.out HPS.out ?_) | fail)
    intro v' w3 hm3 hg3 ho3
    have hxv : v'.ownBlock ≠ some w.heap.size := fun e => by
     rcases ho3 _ e with e' | e'
     ·exact HM.out.row.dc HM.out.at_ (co D).ne e'
     ·omega
    have HNX := af (HM.out.next (fun _ _ => rfl) HB1.out HF1.out (d := newD k) HD1.out hm3 hg3 ho3)
    have hvx : (Value.slice AS ps.length cS).ownBlock ≠ some w.heap.size := HM.out.row.dc HM.out.at_ (co D).ne
    have hat3 : w3.heap[w.heap.size]? = some _ := (hg3.block w.heap.size (by rw [World.size_alloc]; omega) (fun e => hvx e.symm)).trans (bU HAT.out _)
    obtain ⟨AV, cV, rfl, _, _⟩ := hm3.form
    obtain ⟨d0, d1, d2, d3⟩ := d9 hat3
    have f0 := frozen_of_row w3 w.heap.size 0 _ _ hat3
    clear hm3 hg3 ho3 hat3 c0 c1 c2 c3
    go_wp2_with fail
    go_roundw
    case rel =>
     refine ⟨j + 1, .slice AV (ps.length + 1) cV, upF Fs (List.map newD (List.take j ks)).length F', ps ++ [p'], by omega, by go_num, ?_, fun q hq => ?_⟩
     ·rw [take_map_succ (by have := HLEN.out; omega), HZ.out]
      have h6 := HNX.out
      rw [show (ps ++ [p']).length = ps.length + 1 from by simp] at h6
      exact h6
     ·by_cases e : q = j
      ·subst e; rw [HZ.out]; omega
      ·exact HALL.out q (by omega)
    case measure => simp [intOf]; omega
   ·have HB := af HM.out.below
    have HN := af (show ¬ newOk ks from fun h => hok (by have := h.2.2 z (by rw [← HZ.out]; exact getD_mem (by have := HLEN.out; omega)); exact this))
    go_wp2_with fail
    refine (D.new_no z wr hok).mono ?_
    rintro e w1 ⟨rfl, hb1⟩
    have HB1 := af (HB.out.trans (hb1.mono HB.out.size))
    clear hb1 hok
    go_wp2_with fail
    go_ret2
    exact eE.no HB1.out HN.out rfl
  ·have hjn : j = n := by omega
   subst hjn
   have hlj : ¬((j : Int) < (j : Int)) := by omega
   have HM := af hmk
   clear hmk
   go_wp2_with fail
   go_ret2
   have h5 := HM.out
   have hLL := HLEN.out
   rw [← hLL, List.take_length] at h5
   obtain ⟨g1, g2, g3⟩ := h5.done (by rw [List.length_map]; omega) (by rw [List.length_map]; omega)
   refine ⟨g3, .inl ⟨⟨by omega, by omega, fun k hk => ?_⟩, _, _, _, _, rfl, g1, g2⟩⟩
   obtain ⟨i, hi, rfl⟩ := List.getElem_of_mem hk
   have := HALL.out i (by omega)
   rwa [List.getD_eq_getElem?_getD, List.getElem?_eq_getElem hi] at this
end
def pIds : BIds where
 read := 68
 write := 6
 flush := 124
 fp := 67
theorem Dev.wf_of {D : Dev} {w : World} {p : Nat} {v : Value} {Fs : Nat → Nat → Prop} {ps : List Nat} {M : BenS} (h : BenAt (co D) w p v Fs ps M) : M.Wf :=
 ⟨h.one, h.cap, fun i hi => ⟨(D.fit (h.devs.at_ i hi)).2, D.cap (h.devs.at_ i hi)⟩⟩
def pBen (D : Dev) : Ben pIds where
 Bn := InB (co D)
 lt := InB.lt
 only := InB.only
 wf := fun ⟨_, _, _, _, h⟩ => D.wf_of h
 read := fun d n ⟨_, _, _, _, h⟩ => b_read d n h
 write := fun d n b hr ⟨_, _, _, e, h⟩ => by
  subst e
  exact (b_write d n b h (fun i hi => hr.at_ hi) (by have := hr.1; omega) hr.2.1).mono fun e w' ⟨h1, h2⟩ => ⟨h1, h2.out⟩
 flush := fun d hr ⟨_, _, _, e, h⟩ => by
  subst e
  exact (b_flush d h (by have := hr.1; omega) hr.2.1).mono fun e w' ⟨h1, h2⟩ => ⟨h1, h2.out⟩
 fp := fun d ⟨_, _, _, _, h⟩ => b_sectors d h
theorem eE.hid {k : BKind} {w w' : World} {ks : List Int} {e : Ending} (h : eE k w ks e w') : NewB (InB k) w ks e w' := by
 obtain ⟨h1, h | h⟩ := h
 ·obtain ⟨h0, p, v, Fs, ps, h2, h3, h4⟩ := h
  exact ⟨h1, .inl ⟨h0, p, _, h2, ⟨v, Fs, ps, rfl, h3⟩, h4⟩⟩
 ·exact ⟨h1, .inr h⟩
structure BenP extends Ben pIds where
 new : ∀ {w A n c ks}, RdE IntE w w.heap.size A n ks → n ≤ c → c ≤ maxLen → Calls Tryz.prog 13 #[.slice A n c] w (NewB Bn w ks)
def bw : BenP where
 toBen := pBen theDev
 new := fun h1 h2 h3 => (b_new h1 h2 h3).mono fun _ _ h => h.hid
set_option linter.unusedSimpArgs false
def sizLn : List Value := [.int .i64 8, .int .i64 2, .int .i64 4]
def sizVn : Value := .agg sizLn.toArray
def SizNt (w : World) : Prop := w.rangeAt 0 0 sizLn
theorem SizNt.below {w w' : World} (h : SizNt w) (hb : Below w.heap.size w w') : SizNt w' :=
 dR h (World.block_lt_of_cell? w _ (h 0 _ rfl)) hb
structure TabNt (w : World) : Prop where
 tab : Tab w
 siz : SizNt w
theorem TabNt.below {w w' : World} (h : TabNt w) (hb : Below w.heap.size w w') : TabNt w' := ⟨h.tab.below hb, h.siz.below hb⟩
theorem size3i : (Tryz.prog.info? 188).map (·.size) = some 3 := by kernel_rfl
section
variable {ρ : Operand → Value} {o : Oper} {x y : Operand} {w : World} {t : TypeId} {p q u : Value}
theorem exec_loadZn (ho : o.op = .load 188 x) (hx : ρ x = .pointer (some ⟨0, 0, none⟩)) (h : SizNt w) : (execOp ρ o).run Tryz.prog w = .ok (.value sizVn) w :=
 dJ Tryz.underlying188 rfl size3i ho hx h
theorem exec_idxn (ho : o.op = .index t x y) (hx : ρ x = p) (hy : ρ y = q) (h : (Instr.index t p q).run Tryz.prog w = .ok u w) : (execOp ρ o).run Tryz.prog w = .ok (.value u) w := by
 unfold execOp
 simp only [ho, hx, hy, Sem.run_bind, h, Result.andThen_ok, Sem.run_pure]
theorem ixZn0 : (Instr.index 188 sizVn (.int .i64 0)).run Tryz.prog w = .ok (.int .i64 8) w := by kernel_rfl
theorem ixZn1 : (Instr.index 188 sizVn (.int .i64 1)).run Tryz.prog w = .ok (.int .i64 2) w := by kernel_rfl
theorem ixZn2 : (Instr.index 188 sizVn (.int .i64 2)).run Tryz.prog w = .ok (.int .i64 4) w := by kernel_rfl
theorem exec_ixZn0 (ho : o.op = .index 188 x y) (hy : ρ y = .int .i64 0) (hx : ρ x = sizVn) : (execOp ρ o).run Tryz.prog w = .ok (.value (.int .i64 8)) w := exec_idxn ho hx hy ixZn0
theorem exec_ixZn1 (ho : o.op = .index 188 x y) (hy : ρ y = .int .i64 1) (hx : ρ x = sizVn) : (execOp ρ o).run Tryz.prog w = .ok (.value (.int .i64 2)) w := exec_idxn ho hx hy ixZn1
theorem exec_ixZn2 (ho : o.op = .index 188 x y) (hy : ρ y = .int .i64 2) (hx : ρ x = sizVn) : (execOp ρ o).run Tryz.prog w = .ok (.value (.int .i64 4)) w := exec_idxn ho hx hy ixZn2
end
def ew (a b c : Nat) : List Value := [.int .u64 a, .int .u64 b, .int .u64 c]
def numVn (a b c : Nat) : Value := .agg (ew a b c).toArray
theorem celNn_one (a b c : Nat) : ∀ v ∈ ew a b c, v.oneCell' = true := by
 intro v hv
 simp only [ew, List.mem_cons, List.not_mem_nil, or_false] at hv
 rcases hv with rfl | rfl | rfl <;> rfl
theorem sizeNn : (Tryz.prog.info? 187).map (·.size) = some 3 := by kernel_rfl
theorem zeroNn_info : (Tryz.prog.info? 187).map (fun i => i.zero) = some (some (numVn 0 0 0)) := by kernel_rfl
def NumAtn (w : World) (g a b c : Nat) : Prop := w.heap[g]? = some (.cells (ew a b c).toArray 187 (0, 0))
section
variable {w w' : World} {g a b c : Nat}
theorem NumAtn.cells (h : NumAtn w g a b c) : w.cell? ⟨g, 0, none⟩ = some (.int .u64 a) ∧ w.cell? ⟨g, 1, none⟩ = some (.int .u64 b) ∧ w.cell? ⟨g, 2, none⟩ = some (.int .u64 c) := by
 have hr := dt h
 exact ⟨hr 0 _ rfl, hr 1 _ rfl, hr 2 _ rfl⟩
theorem NumAtn.free (h : NumAtn w g a b c) (j : Nat) : w.frozen? ⟨g, j, none⟩ = false := frozen_of_row w g j _ _ h
theorem NumAtn.set {a' b' c' j n : Nat} (h : NumAtn w g a b c) (e : (ew a b c).set j (.int .u64 n) = ew a' b' c') : NumAtn (w.setCell ⟨g, j, none⟩ (.int .u64 n)) g a' b' c' := by
 have := heap_setCell_same w g j (ew a b c).toArray 187 (.int .u64 n) h
 rw [List.setIfInBounds_toArray, e] at this
 exact this
end
section
variable {ρ : Operand → Value} {o : Oper} {x y z u v : Operand} {w : World} {g a b c : Nat}
theorem exec_allocNn (ho : o.op = .alloc 187) : (execOp ρ o).run Tryz.prog w = .ok (.value (.pointer (some ⟨w.heap.size, 0, none⟩))) (w.alloc (.cells (ew 0 0 0).toArray 187)) := dQ zeroNn_info ho
theorem exec_fillNn (ho : o.op = .store 187 x y) (hx : ρ x = .pointer (some ⟨w.heap.size, 0, none⟩)) (hy : ρ y = numVn a b c) : (execOp ρ o).run Tryz.prog (w.alloc (.cells (ew 0 0 0).toArray 187)) = .ok .skip (w.alloc (.cells (ew a b c).toArray 187)) :=
 eO sizeNn rfl (celNn_one a b c) ho hx hy
theorem exec_bld3n {t : TypeId} {y0 y1 y2 q : Value} (ho : o.op = .build t #[(0, x), (1, y), (2, z)]) (h0 : ρ x = y0) (h1 : ρ y = y1) (h2 : ρ z = y2)
  (h : (Instr.build t #[(0, y0), (1, y1), (2, y2)]).run Tryz.prog w = .ok q w) : (execOp ρ o).run Tryz.prog w = .ok (.value q) w := by
 subst h0 h1 h2
 unfold execOp
 simp only [ho, List.map_toArray, List.map_cons, List.map_nil, Sem.run_bind, h, Result.andThen_ok, Sem.run_pure]
theorem run_bldNn (a b c : Nat) : (Instr.build 187 #[(0, .int .u64 a), (1, .int .u64 b), (2, .int .u64 c)]).run Tryz.prog w = .ok (numVn a b c) w := by kernel_rfl
theorem exec_bldNn3 (a b c : Nat) (ho : o.op = .build 187 #[(0, x), (1, y), (2, z)]) (h0 : ρ x = .int .u64 a) (h1 : ρ y = .int .u64 b) (h2 : ρ z = .int .u64 c) : (execOp ρ o).run Tryz.prog w = .ok (.value (numVn a b c)) w :=
 exec_bld3n ho h0 h1 h2 (run_bldNn a b c)
theorem ixNn {j : Nat} (hj : j < 3) : (Instr.indexAt 187 (.pointer (some ⟨g, 0, none⟩)) (.int .i64 (j : Int))).run Tryz.prog w = .ok (.pointer (some ⟨g, j, none⟩)) w := by
 have e : (0 ≤ (j : Int) ∧ (j : Int) < 3) := by omega
 simp [Instr.indexAt, Instr.sureAddr, asIntOf, run_underlying Tryz.underlying187, Tryz.sizeOf30, Addr.add_mid, e, hj]
theorem ixNn0 : (Instr.indexAt 187 (.pointer (some ⟨g, 0, none⟩)) (.int .i64 0)).run Tryz.prog w = .ok (.pointer (some ⟨g, 0, none⟩)) w := ixNn (j := 0) (by omega)
theorem ixNn1 : (Instr.indexAt 187 (.pointer (some ⟨g, 0, none⟩)) (.int .i64 1)).run Tryz.prog w = .ok (.pointer (some ⟨g, 1, none⟩)) w := ixNn (j := 1) (by omega)
theorem ixNn2 : (Instr.indexAt 187 (.pointer (some ⟨g, 0, none⟩)) (.int .i64 2)).run Tryz.prog w = .ok (.pointer (some ⟨g, 2, none⟩)) w := ixNn (j := 2) (by omega)
theorem exec_ixNn0 (ho : o.op = .indexAddr 187 x y) (hy : ρ y = .int .i64 0) (hx : ρ x = .pointer (some ⟨g, 0, none⟩)) : (execOp ρ o).run Tryz.prog w = .ok (.value (.pointer (some ⟨g, 0, none⟩))) w := dS ho hx hy ixNn0
theorem exec_ixNn1 (ho : o.op = .indexAddr 187 x y) (hy : ρ y = .int .i64 1) (hx : ρ x = .pointer (some ⟨g, 0, none⟩)) : (execOp ρ o).run Tryz.prog w = .ok (.value (.pointer (some ⟨g, 1, none⟩))) w := dS ho hx hy ixNn1
theorem exec_ixNn2 (ho : o.op = .indexAddr 187 x y) (hy : ρ y = .int .i64 2) (hx : ρ x = .pointer (some ⟨g, 0, none⟩)) : (execOp ρ o).run Tryz.prog w = .ok (.value (.pointer (some ⟨g, 2, none⟩))) w := dS ho hx hy ixNn2
theorem exec_faNt1 {b : Nat} (ho : o.op = .fieldAddr 35 x 1) (hx : ρ x = .pointer (some ⟨b, 0, none⟩)) : (execOp ρ o).run Tryz.prog w = .ok (.value (.pointer (some ⟨b, 1, none⟩))) w := am ho hx faNt1
theorem exec_faNt2 {b : Nat} (ho : o.op = .fieldAddr 35 x 2) (hx : ρ x = .pointer (some ⟨b, 0, none⟩)) : (execOp ρ o).run Tryz.prog w = .ok (.value (.pointer (some ⟨b, 2, none⟩))) w := am ho hx faNt2
theorem exec_faNt3 {b : Nat} (ho : o.op = .fieldAddr 35 x 3) (hx : ρ x = .pointer (some ⟨b, 0, none⟩)) : (execOp ρ o).run Tryz.prog w = .ok (.value (.pointer (some ⟨b, 3, none⟩))) w := am ho hx faNt3
end
theorem size44n : (Tryz.prog.info? 159).map (·.size) = some 44 := by kernel_rfl
theorem zero44n_info : (Tryz.prog.info? 159).map (fun i => i.zero) = some (some (arr z44)) := by kernel_rfl
theorem guard44n : Tryz.prog.eqGuardType Tryz.prog.depth 159 = false := by kernel_rfl
section
variable {ρ : Operand → Value} {o : Oper} {x y : Operand} {w : World} {b off g c : Nat} {t : TypeId} {l : List UInt8}
theorem exec_load44n (hl : l.length = 44) (ho : o.op = .load 159 x) (hx : ρ x = .pointer (some ⟨b, off, none⟩)) (hc : w.rangeAt b off (vals l)) : (execOp ρ o).run Tryz.prog w = .ok (.value (arr l)) w :=
 dJ Tryz.underlying159 rfl (by rw [bu, hl]; exact size44n) ho hx hc
theorem gm (ho : o.op = .alloc 159) : (execOp ρ o).run Tryz.prog w = .ok (.value (.pointer (some ⟨w.heap.size, 0, none⟩))) (w.alloc (.cells (vals z44).toArray 159)) := dQ zero44n_info ho
theorem exec_fill44n (hl : l.length = 44) (ho : o.op = .store 159 x y) (hx : ρ x = .pointer (some ⟨w.heap.size, 0, none⟩)) (hy : ρ y = arr l) :
  (execOp ρ o).run Tryz.prog (w.alloc (.cells (vals z44).toArray 159)) = .ok .skip (w.alloc (.cells (vals l).toArray 159)) :=
 eO (by rw [bu, hl]; exact size44n) (by rw [bu, bu, hl, z44_length]) (vals_one l) ho hx hy
theorem exec_put44n (hl : l.length = 44) (ho : o.op = .store 159 x y) (hx : ρ x = .pointer (some ⟨b, off, none⟩)) (hy : ρ y = arr l) (ht : w.there b off 44) : (execOp ρ o).run Tryz.prog w = .ok .skip (w.setCells b off (vals l)) :=
 exec_putT (by rw [bu, hl]; exact size44n) (vals_one l) ho hx hy (by rw [bu, hl]; exact ht)
theorem exec_ne44n {l' : List UInt8} (c : Bool) (ha : l.length = 44) (hb : l'.length = 44) (ho : o.op = .binOp .neq 159 x y t) (hx : ρ x = arr l) (hy : ρ y = arr l') (h : decide (l = l') = c) : (execOp ρ o).run Tryz.prog w = .ok (.value (.bool (!c))) w := by
 subst h; exact exec_neT guard44n (run_eqArr Tryz.underlying159 w l l' ha hb 9998) ho hx hy
theorem exec_all44n (ho : o.op = .slice 159 x none none none) (hx : ρ x = .pointer (some ⟨g, off, none⟩)) : (execOp ρ o).run Tryz.prog w = .ok (.value (.slice (some ⟨g, off, none⟩) 44 44)) w := by
 have h : (Instr.sliceAt 159 (.pointer (some ⟨g, off, none⟩)) none none none).run Tryz.prog w = .ok (.slice (some ⟨g, off, none⟩) 44 44) w := by
  simp [Instr.sliceAt, Instr.sliceBounds, Instr.sliceBound, Instr.sureAddr, asIntOf, run_underlying Tryz.underlying159, Tryz.sizeOf5, Addr.add_mid]
 unfold execOp
 simp only [ho, hx, Option.map_none, Sem.run_bind, h, Result.andThen_ok, Sem.run_pure]
theorem exec_from44n (p n : Nat) (hn : p + n = 44) (h0 : 0 < n) (ho : o.op = .slice 159 x (some y) none none) (hx : ρ x = .pointer (some ⟨g, 0, none⟩)) (hy : ρ y = .int .i64 (p : Int)) : (execOp ρ o).run Tryz.prog w = .ok (.value (.slice (some ⟨g, p, none⟩) n n)) w := by
 have e1 : (0 ≤ (p : Int) ∧ (p : Int) ≤ 44) := by omega
 have e2 : p ≤ 44 := by omega
 have e3 : 44 - p = n := by omega
 have e4 : n ≠ 0 := by omega
 have e5 : ¬ 44 = p := by omega
 have h : (Instr.sliceAt 159 (.pointer (some ⟨g, 0, none⟩)) (some (.int .i64 (p : Int))) none none).run Tryz.prog w = .ok (.slice (some ⟨g, p, none⟩) n n) w := by
  simp [Instr.sliceAt, Instr.sliceBounds, Instr.sliceBound, Instr.sureAddr, asIntOf, run_underlying Tryz.underlying159, Tryz.sizeOf5, Addr.add_mid, e1, e2, e3, e4, e5]
 unfold execOp
 simp only [ho, hx, hy, Option.map_none, Option.map_some, Sem.run_bind, h, Result.andThen_ok, Sem.run_pure]
theorem exec_s2an (ho : o.op = .sliceToArrayPointer 159 x) (hx : ρ x = .slice (some ⟨g, 0, none⟩) 44 c) : (execOp ρ o).run Tryz.prog w = .ok (.value (.pointer (some ⟨g, 0, none⟩))) w := by
 unfold execOp
 simp [ho, hx, Instr.arrayAt, run_underlying Tryz.underlying159]
end
def tblk (b : Nat) : Prop := b = 2 ∨ b = 1 ∨ b = 0
structure Tbs (w : World) : Prop where
 m : TabM w
 n : TabNt w
theorem lt_of_cell {w : World} {b j : Nat} {v : Value} (h : w.cell? ⟨b, j, none⟩ = some v) : b < w.heap.size := by
 rcases Nat.lt_or_ge b w.heap.size with h' | h'
 ·exact h'
 ·have : w.heap[b]? = none := Array.getElem?_eq_none h'
  simp [World.cell?, this] at h
theorem Tbs.lt {w : World} (h : Tbs w) {b : Nat} (hb : tblk b) : b < w.heap.size := by
 rcases hb with rfl | rfl | rfl
 ·exact lt_of_cell (h.m.tab 0 (by omega))
 ·exact lt_of_cell (h.m.siz 0 _ rfl)
 ·exact lt_of_cell (h.n.siz 0 _ rfl)
theorem Tbs.keep {w w' : World} (h : Tbs w) (hk : ∀ b, tblk b → w'.heap[b]? = w.heap[b]?) : Tbs w' := by
 have h1 := hk _ (.inl rfl)
 have h2 := hk _ (.inr (.inl rfl))
 have h3 := hk _ (.inr (.inr rfl))
 have ht : Tab w' := fun i hi => (World.cell?_of_block (w := w) h1).trans (h.m.tab i hi)
 exact ⟨⟨ht, fun j v hj => (World.cell?_of_block (w := w) h2).trans (h.m.siz j v hj)⟩, ⟨ht, fun j v hj => (World.cell?_of_block (w := w) h3).trans (h.n.siz j v hj)⟩⟩
theorem Tbs.only {w w' : World} {G : Nat → Prop} (h : Tbs w) (ho : Only G w w') (hn : ∀ b, tblk b → ¬ G b) : Tbs w' := h.keep fun b hb => ho.block b (h.lt hb) (hn b hb)
theorem Tbs.below {w w' : World} (h : Tbs w) (hb : Below w.heap.size w w') : Tbs w' := h.keep fun b hb' => hb.block b (h.lt hb')
structure TbG (w : World) (G : Nat → Prop) : Prop where
 t : Tbs w
 off : ∀ b, tblk b → ¬ G b
structure Bas (w0 : World) (B : Nat) : Prop where
 le : B ≤ w0.heap.size
 t : Tbs w0
 lo : ∀ b, tblk b → b < B
theorem Bas.start {w : World} (h : Tbs w) : Bas w w.heap.size := ⟨Nat.le_refl _, h, fun b hb => h.lt hb⟩
theorem Bas.tab {w0 w : World} {B : Nat} (h : Bas w0 B) (hb : Below B w0 w) : Tbs w := h.t.keep fun b hb' => hb.block b (h.lo b hb')
theorem Bas.tabG {w0 w : World} {B : Nat} {G : Nat → Prop} (h : Bas w0 B) (hb : Below B w0 w) (hG : ∀ b, G b → B ≤ b) : TbG w G := ⟨h.tab hb, fun b h1 h2 => by have := h.lo b h1; have := hG b h2; omega⟩
def PNew (Bn : World → (Nat → Prop) → Nat → BenS → Prop) (J : World → (Nat → Prop) → Nat → Nat → BenS → LgS → Prop) (w : World) (G : Nat → Prop) (q : Nat) (E : Int) (M' : BenS) (x : LgS) (e : Ending) (w' : World) : Prop :=
 ∃ G', Only G w w' ∧ Grow w G G' ∧ ((E = 0 ∧ ∃ p, e = .returned (.tuple #[.pointer (some ⟨p, 0, none⟩), .int .i64 0]) ∧ J w' G' q p M' x) ∨ (E ≠ 0 ∧ e = .returned (.tuple #[.pointer none, .int .i64 E]) ∧ Bn w' G' q M'))
def PTurn (J : World → (Nat → Prop) → Nat → Nat → BenS → LgS → Prop) (w : World) (G : Nat → Prop) (q p : Nat) (v : Value) (M' : BenS) (x' : LgS) (e : Ending) (w' : World) : Prop :=
 e = .returned v ∧ ∃ G', J w' G' q p M' x' ∧ Only G w w' ∧ Grow w G G'
def PRec (M : BenS) (x : LgS) (s : Nat) (w : World) (e : Ending) (w' : World) : Prop := ∃ v', e = .returned (.tuple #[v', .int .i64 (rcdE M x s)]) ∧ aH bY w' w.heap.size v' (rcdC M x s) ∧ Below w.heap.size w w'
structure LogI where
 R : BenP
 J : World → (Nat → Prop) → Nat → Nat → BenS → LgS → Prop
 lt : ∀ {w G q p M x}, J w G q p M x → ∀ b, G b → b < w.heap.size
 only : ∀ {w w' G F q p M x}, J w G q p M x → Only F w w' → (∀ b, G b → ¬ F b) → J w' G q p M x
 ben : ∀ {w G q p M x}, J w G q p M x → ∃ Gb, R.Bn w Gb q M ∧ (∀ b, Gb b → G b) ∧ ∀ w' Gb' M', R.Bn w' Gb' q M' → Only Gb w w' → Grow w Gb Gb' → ∃ G', J w' G' q p M' x ∧ Only G w w' ∧ Grow w G G' ∧ ∀ b, Gb' b → G' b
 open_ : ∀ {w G q M} (d : Int), R.Bn w G q M → TbG w G → Calls Tryz.prog 8 #[.pointer (some ⟨q, 0, none⟩), .int .i64 d] w (PNew R.Bn J w G q (dI M d) M (opnL M d))
 lay : ∀ {w G q M} (d : Int) (id : Nat) (r : Int), R.Bn w G q M → TbG w G → Room M 13 → id < 18446744073709551616 → Calls Tryz.prog 55 #[.pointer (some ⟨q, 0, none⟩), .int .i64 d, .int .u64 (id : Nat), .int .i64 r] w (PNew R.Bn J w G q (layE M d id r) (layB M d id r) (layX d id r))
 app : ∀ {w G q p M x N} (A : Option Addr) (n c N0 : Nat) (cs : List Cl), J w G q p M x → TbG w G → LgOk M x N → Room M 40 → RdE bY w N0 A n cs → N0 ≤ w.heap.size → n ≤ maxLen → Calls Tryz.prog 47 #[.pointer (some ⟨p, 0, none⟩), .slice A n c] w (PTurn J w G q p (.tuple #[.int .u64 ((appN M x cs : Nat) : Int), .int .i64 (appE M x cs)]) (appB M x cs) (appX M x cs))
 rec_ : ∀ {w G q p M x N} (s : Nat), J w G q p M x → TbG w G → LgOk M x N → s < 18446744073709551616 → Calls Tryz.prog 50 #[.pointer (some ⟨p, 0, none⟩), .int .u64 (s : Nat)] w (PRec M x s w)
 clr : ∀ {w G q p M x N} (f : Nat), J w G q p M x → TbG w G → LgOk M x N → Room M 2 → f < 18446744073709551616 → Calls Tryz.prog 53 #[.pointer (some ⟨p, 0, none⟩), .int .u64 (f : Nat)] w (PTurn J w G q p (.int .i64 (clrE M x f)) (clrB M x f) (clrX M x f))
 live : ∀ {w G q p M x N}, J w G q p M x → LgOk M x N → Calls Tryz.prog 41 #[.pointer (some ⟨p, 0, none⟩)] w fun e w' => e = .returned (.tuple #[.int .u64 ((x.fst : Nat) : Int), .int .u64 ((x.next : Nat) : Int)]) ∧ Below w.heap.size w w'
 free : ∀ {w G q p M x N}, J w G q p M x → LgOk M x N → Calls Tryz.prog 42 #[.pointer (some ⟨p, 0, none⟩)] w fun e w' => e = .returned (.int .i64 ((x.free : Nat) : Int)) ∧ Below w.heap.size w w'
 id : ∀ {w G q p M x N}, J w G q p M x → LgOk M x N → Calls Tryz.prog 43 #[.pointer (some ⟨p, 0, none⟩)] w fun e w' => e = .returned (.int .u64 ((x.own : Nat) : Int)) ∧ Below w.heap.size w w'
 ring : ∀ {w G q p M x N}, J w G q p M x → LgOk M x N → Calls Tryz.prog 44 #[.pointer (some ⟨p, 0, none⟩)] w fun e w' => e = .returned (.int .i64 ((x.size : Nat) : Int)) ∧ Below w.heap.size w w'
theorem LogI.below (C : LogI) {w w' : World} {G : Nat → Prop} {q p : Nat} {M : BenS} {x : LgS} (h : C.J w G q p M x) (k : Below w.heap.size w w') : C.J w' G q p M x := C.only h (Only.of_below (fun _ => False) k) fun _ _ e => e
def AtK (P : World → (Nat → Prop) → Prop) (w0 : World) (B : Nat) (K : Nat → Prop) (w : World) : Prop := ∃ G, P w G ∧ (∀ b, G b → B ≤ b) ∧ Below B w0 w ∧ Bas w0 B ∧ ∀ b, K b → ¬ G b ∧ b < w.heap.size
def keptK (K : Nat → Prop) (w w' : World) : Prop := ∀ b, K b → w'.heap[b]? = w.heap[b]?
section
variable {P P' : World → (Nat → Prop) → Prop} {w0 w w' : World} {B : Nat} {K K' : Nat → Prop}
theorem AtK.bel (h : AtK P w0 B K w) : Below B w0 w := by obtain ⟨G, h1, h2, h3, h4⟩ := h; exact h3
theorem AtK.guard (hP : ∀ {w w' G}, P w G → Below w.heap.size w w' → P w' G) (hl : ∀ {w G}, P w G → ∀ b, G b → b < w.heap.size) (h : AtK P w0 B K w) (k : Below w.heap.size w w') (hK : ∀ b, K' b → K b ∨ (w.heap.size ≤ b ∧ b < w'.heap.size)) : AtK P w0 B K' w' := by
 obtain ⟨G, h1, h2, h3, h4, h5⟩ := h
 have hs := k.size
 refine ⟨G, hP h1 k, h2, h3.trans (k.mono (Nat.le_trans h4.le h3.size)), h4, fun b hb => ?_⟩
 rcases hK b hb with e | ⟨e1, e2⟩
 ·obtain ⟨g1, g2⟩ := h5 b e
  exact ⟨g1, by omega⟩
 ·exact ⟨fun hg => by have := hl h1 b hg; omega, e2⟩
theorem AtK.turn {G G' : Nat → Prop} (h2 : ∀ b, G b → B ≤ b) (h3 : Below B w0 w) (h4 : Bas w0 B) (h5 : ∀ b, K b → ¬ G b ∧ b < w.heap.size) (k1 : P' w' G') (k2 : Only G w w') (k3 : Grow w G G') : AtK P' w0 B K w' ∧ keptK K w w' := by
 have hs := Nat.le_trans h4.le h3.size
 have hs2 := k2.size
 refine ⟨⟨G', k1, k3.above h2 hs, h3.trans (k2.below h2 hs), h4, fun b hb => ?_⟩, fun b hb => k2.block b (h5 b hb).2 (h5 b hb).1⟩
 obtain ⟨g1, g2⟩ := h5 b hb
 refine ⟨fun hg => ?_, by omega⟩
 rcases k3 b hg with e | e
 ·exact g1 e
 ·omega
end
def LAt (C : LogI) (w0 : World) (B : Nat) (K : Nat → Prop) (w : World) (q p : Nat) (M : BenS) (x : LgS) : Prop := AtK (fun w G => C.J w G q p M x) w0 B K w
def BAt (C : LogI) (w0 : World) (B : Nat) (K : Nat → Prop) (w : World) (q : Nat) (M : BenS) : Prop := AtK (fun w G => C.R.Bn w G q M) w0 B K w
section
variable {C : LogI} {w0 w w' : World} {B q p N : Nat} {K K' : Nat → Prop} {M M' : BenS} {x x' : LgS}
theorem LAt.guard (h : LAt C w0 B K w q p M x) (k : Below w.heap.size w w') (hK : ∀ b, K' b → K b ∨ (w.heap.size ≤ b ∧ b < w'.heap.size)) : LAt C w0 B K' w' q p M x := AtK.guard (fun h k => C.below h k) (fun h => C.lt h) h k hK
theorem LAt.below (h : LAt C w0 B K w q p M x) (k : Below w.heap.size w w') : LAt C w0 B K w' q p M x := h.guard k fun b e => .inl e
theorem LAt.app (A : Option Addr) (n c N0 : Nat) (cs : List Cl) (h : LAt C w0 B K w q p M x) (hk : LgOk M x N) (hr : Room M 40) (hc : RdE bY w N0 A n cs) (hN0 : N0 ≤ w.heap.size) (hn : n ≤ maxLen) :
  Calls Tryz.prog 47 #[.pointer (some ⟨p, 0, none⟩), .slice A n c] w fun e w' => e = .returned (.tuple #[.int .u64 ((appN M x cs : Nat) : Int), .int .i64 (appE M x cs)]) ∧ LAt C w0 B K w' q p (appB M x cs) (appX M x cs) ∧ keptK K w w' := by
 obtain ⟨G, h1, h2, h3, h4, h5⟩ := h
 exact (C.app A n c N0 cs h1 (h4.tabG h3 h2) hk hr hc hN0 hn).mono fun e w' ⟨he, G', k1, k2, k3⟩ => ⟨he, AtK.turn h2 h3 h4 h5 k1 k2 k3⟩
theorem LAt.clr (f : Nat) (h : LAt C w0 B K w q p M x) (hk : LgOk M x N) (hr : Room M 2) (hf : f < 18446744073709551616) :
  Calls Tryz.prog 53 #[.pointer (some ⟨p, 0, none⟩), .int .u64 (f : Nat)] w fun e w' => e = .returned (.int .i64 (clrE M x f)) ∧ LAt C w0 B K w' q p (clrB M x f) (clrX M x f) ∧ keptK K w w' := by
 obtain ⟨G, h1, h2, h3, h4, h5⟩ := h
 exact (C.clr f h1 (h4.tabG h3 h2) hk hr hf).mono fun e w' ⟨he, G', k1, k2, k3⟩ => ⟨he, AtK.turn h2 h3 h4 h5 k1 k2 k3⟩
theorem LAt.rec_ (s : Nat) (h : LAt C w0 B K w q p M x) (hk : LgOk M x N) (hs : s < 18446744073709551616) : Calls Tryz.prog 50 #[.pointer (some ⟨p, 0, none⟩), .int .u64 (s : Nat)] w (PRec M x s w) := by
 obtain ⟨G, h1, h2, h3, h4, _⟩ := h
 exact C.rec_ s h1 (h4.tabG h3 h2) hk hs
theorem LAt.live (h : LAt C w0 B K w q p M x) (hk : LgOk M x N) : Calls Tryz.prog 41 #[.pointer (some ⟨p, 0, none⟩)] w fun e w' => e = .returned (.tuple #[.int .u64 ((x.fst : Nat) : Int), .int .u64 ((x.next : Nat) : Int)]) ∧ Below w.heap.size w w' := by
 obtain ⟨G, h1, _⟩ := h
 exact C.live h1 hk
theorem LAt.free (h : LAt C w0 B K w q p M x) (hk : LgOk M x N) : Calls Tryz.prog 42 #[.pointer (some ⟨p, 0, none⟩)] w fun e w' => e = .returned (.int .i64 ((x.free : Nat) : Int)) ∧ Below w.heap.size w w' := by
 obtain ⟨G, h1, _⟩ := h
 exact C.free h1 hk
theorem LAt.ring (h : LAt C w0 B K w q p M x) (hk : LgOk M x N) : Calls Tryz.prog 44 #[.pointer (some ⟨p, 0, none⟩)] w fun e w' => e = .returned (.int .i64 ((x.size : Nat) : Int)) ∧ Below w.heap.size w w' := by
 obtain ⟨G, h1, _⟩ := h
 exact C.ring h1 hk
def QNew (C : LogI) (w0 : World) (B : Nat) (K : Nat → Prop) (w : World) (q : Nat) (E : Int) (M' : BenS) (x : LgS) (e : Ending) (w' : World) : Prop :=
 keptK K w w' ∧ ((E = 0 ∧ ∃ p, e = .returned (.tuple #[.pointer (some ⟨p, 0, none⟩), .int .i64 0]) ∧ LAt C w0 B K w' q p M' x) ∨ (E ≠ 0 ∧ e = .returned (.tuple #[.pointer none, .int .i64 E]) ∧ BAt C w0 B K w' q M'))
theorem PNew.at_ {G : Nat → Prop} {E : Int} {e : Ending} (h2 : ∀ b, G b → B ≤ b) (h3 : Below B w0 w) (h4 : Bas w0 B) (h5 : ∀ b, K b → ¬ G b ∧ b < w.heap.size) (h : PNew C.R.Bn C.J w G q E M' x e w') : QNew C w0 B K w q E M' x e w' := by
 obtain ⟨G', k2, k3, h | h⟩ := h
 ·obtain ⟨e0, p, he, hj⟩ := h
  obtain ⟨g1, g2⟩ := AtK.turn (P' := fun w G => C.J w G q p M' x) h2 h3 h4 h5 hj k2 k3
  exact ⟨g2, .inl ⟨e0, p, he, g1⟩⟩
 ·obtain ⟨e0, he, hb⟩ := h
  obtain ⟨g1, g2⟩ := AtK.turn (P' := fun w G => C.R.Bn w G q M') h2 h3 h4 h5 hb k2 k3
  exact ⟨g2, .inr ⟨e0, he, g1⟩⟩
theorem BAt.open_ (d : Int) (h : BAt C w0 B K w q M) : Calls Tryz.prog 8 #[.pointer (some ⟨q, 0, none⟩), .int .i64 d] w (QNew C w0 B K w q (dI M d) M (opnL M d)) := by
 obtain ⟨F, h1, h2, h3, h4, h5⟩ := h
 exact (C.open_ d h1 (h4.tabG h3 h2)).mono fun e w' k => k.at_ h2 h3 h4 h5
theorem BAt.lay (d : Int) (id : Nat) (r : Int) (h : BAt C w0 B K w q M) (hr : Room M 13) (hid : id < 18446744073709551616) : Calls Tryz.prog 55 #[.pointer (some ⟨q, 0, none⟩), .int .i64 d, .int .u64 (id : Nat), .int .i64 r] w (QNew C w0 B K w q (layE M d id r) (layB M d id r) (layX d id r)) := by
 obtain ⟨F, h1, h2, h3, h4, h5⟩ := h
 exact (C.lay d id r h1 (h4.tabG h3 h2) hr hid).mono fun e w' k => k.at_ h2 h3 h4 h5
theorem LAt.lay (d : Int) (id : Nat) (r : Int) (h : LAt C w0 B K w q p M x) (hr : Room M 13) (hid : id < 18446744073709551616) : Calls Tryz.prog 55 #[.pointer (some ⟨q, 0, none⟩), .int .i64 d, .int .u64 (id : Nat), .int .i64 r] w fun e w' => keptK K w w' ∧
  ((layE M d id r = 0 ∧ ∃ p', e = .returned (.tuple #[.pointer (some ⟨p', 0, none⟩), .int .i64 0]) ∧ LAt C w0 B K w' q p' (layB M d id r) (layX d id r)) ∨ (layE M d id r ≠ 0 ∧ e = .returned (.tuple #[.pointer none, .int .i64 (layE M d id r)]) ∧ LAt C w0 B K w' q p (layB M d id r) x)) := by
 obtain ⟨G, h1, h2, h3, h4, h5⟩ := h
 obtain ⟨Gb, b1, b2, b3⟩ := C.ben h1
 refine (C.lay d id r b1 (h4.tabG h3 fun b e => h2 b (b2 b e)) hr hid).mono fun e w' k => ?_
 obtain ⟨G', k2, k3, k | k⟩ := k
 ·obtain ⟨e0, p', he, hj⟩ := k
  obtain ⟨g1, g2⟩ := AtK.turn (P' := fun w G => C.J w G q p' (layB M d id r) (layX d id r)) (K := K) (fun b e => h2 b (b2 b e)) h3 h4 (fun b e => ⟨fun g => (h5 b e).1 (b2 b g), (h5 b e).2⟩) hj k2 k3
  exact ⟨g2, .inl ⟨e0, p', he, g1⟩⟩
 ·obtain ⟨e0, he, hb⟩ := k
  obtain ⟨G2, g1, g2, g3, _⟩ := b3 w' G' _ hb k2 k3
  obtain ⟨y1, y2⟩ := AtK.turn (P' := fun w G => C.J w G q p (layB M d id r) x) (K := K) h2 h3 h4 h5 g1 g2 g3
  exact ⟨y2, .inr ⟨e0, he, y1⟩⟩
theorem QNew.yes {E : Int} {e : Ending} (h : QNew C w0 B K w q E M' x e w') (hE : E = 0) : ∃ p, e = .returned (.tuple #[.pointer (some ⟨p, 0, none⟩), .int .i64 0]) ∧ LAt C w0 B K w' q p M' x ∧ keptK K w w' := by
 rcases h with ⟨hk, ⟨_, p, h1, h2⟩ | ⟨h, _⟩⟩
 ·exact ⟨p, h1, h2, hk⟩
 ·exact absurd hE h
theorem QNew.no {E : Int} {e : Ending} (h : QNew C w0 B K w q E M' x e w') (hE : E ≠ 0) : e = .returned (.tuple #[.pointer none, .int .i64 E]) ∧ BAt C w0 B K w' q M' ∧ keptK K w w' := by
 rcases h with ⟨hk, ⟨h, _⟩ | ⟨_, h1, h2⟩⟩
 ·exact absurd h hE
 ·exact ⟨h1, h2, hk⟩
end
end Go.Proofs.YtbbcdhkinbmdnaaGreatDoor
