import Derived.Test.YtcafafdimcecpaaGreatDoorLcam
import Derived.Test.YtcafafdimcecpaaGreatDoorLcaj
import Derived.Test.YtcafafdimcecpaaGreatDoorLcak
import Derived.Test.YtcafafdimcecpaaGreatDoorLcaa
import Derived.Test.YtcafafdimcecpaaGreatDoorLcab
import Derived.Test.YtcafafdimcecpaaGreatDoorLcac
import Derived.Test.YtcafafdimcecpaaGreatDoorLcah
import Derived.Deep.DeepCutAuto
import Derived.Test.YtcafafdimcecpaaGreatDoorLcag
import Derived.Test.YtcafafdimcecpaaGreatDoorLcZ
namespace Go.Proofs.YtcafafdimcecpaaGreatDoor
open Go.RowKit
set_option linter.unusedVariables false
set_option maxRecDepth 100000
section
variable {w w' : World}
set_option maxHeartbeats 2000000 in
theorem c_new {A : Option Addr} {n c : Nat} {ks : List Int} (hl : RdE dq w w.heap.size A n ks) (hnc : n ≤ c) (hc : c ≤ maxLen) :
    Calls Tryz.prog 38 #[.slice A n c] w (d5 bH w ks) := by
  have hlen : ks.length = n := hl.1
  unfold maxLen at hc
  by_cases h1 : n < 1
  · have HN := Lib.hid (show ¬ newOk ks from fun h => by have := h.1; omega)
    have h0 : n = 0 := by omega
    subst h0
    clear hl hlen h1
    go_enter Tryz.func38, Tryz.ntmps38
    go_wp2
    go_ret2
    exact d5.no (Below.refl _ _) HN.out rfl
  by_cases h2 : 17 < n
  · have HN := Lib.hid (show ¬ newOk ks from fun h => by have := h.2.1; omega)
    have h1' : ¬((n : Int) < 1) := by omega
    have h2' : ((n : Int) > 17) := by omega
    clear hl hlen h1 h2
    go_enter Tryz.func38, Tryz.ntmps38
    go_wp2
    go_ret2
    exact d5.no (Below.refl _ _) HN.out rfl
  have h1' : ¬((n : Int) < 1) := by omega
  have h2' : ¬((n : Int) > 17) := by omega
  have h3' : ¬(17 < (n : Int)) := by omega
  have HL := Lib.hid hl
  have HLEN := Lib.hid hlen
  have HMK := Lib.hid (show Making bH w (w.alloc (.cells #[.slice none 0 0, .int .i64 0, .bool false, .int .i64 0] 136)) (.slice none 0 0) (fun _ _ => False) [] [] 0 false 0 from
    ⟨heap_alloc_new w _, aA.nil _ _, ⟨rfl, fun i hi => absurd hi (Nat.not_lt_zero i), fun i j hi => absurd hi (Nat.not_lt_zero i)⟩, fun i hi => absurd hi (Nat.not_lt_zero i), (Below.refl _ w).alloc (Nat.le_refl _) _⟩)
  clear hl hlen
  go_enter Tryz.func38, Tryz.ntmps38
  go_wp2_with fail
  generalize w.alloc (.cells #[.slice none 0 0, .int .i64 0, .bool false, .int .i64 0] 136) = w0 at *
  clear h1' h2' h3'
  go_loopw [5] (fun i wr => ∃ (j : Nat) (v : Value) (Fs : Nat → Nat → Prop) (ps : List Nat), j ≤ n ∧ i = .int .i64 j ∧ Making bH w wr v Fs ps ((ks.take j).map newD) 0 false 0 ∧ ∀ q, q < j → 1 ≤ ks.getD q 0 ∧ ks.getD q 0 ≤ 512) (fun i _ => n - (intOf i).toNat)
  case atStart => exact ⟨0, _, _, _, Nat.zero_le _, rfl, HMK.out, fun q hq => absurd hq (Nat.not_lt_zero q)⟩
  case round =>
    obtain ⟨j, v, Fs, ps, hj, rfl, hmk, hall⟩ := hrel
    have HALL := Lib.hid hall
    clear hall HMK
    by_cases hlt : j < n
    · have hlj : (j : Int) < (n : Int) := by omega
      obtain ⟨bA, oA, rfl, hbA, hcA⟩ := (HL.out.below hmk.below).int hlt
      have HM := Lib.hid hmk
      obtain ⟨AS, cS, rfl, hs1, hs2⟩ := hmk.row.form
      unfold maxLen at hs2
      have hpl : ps.length = j := by have := hmk.devs.len; rw [List.length_map, List.length_take] at this; have := HLEN.out; omega
      have HPL := Lib.hid hpl
      obtain ⟨z, hz⟩ : ∃ z, ks.getD j 0 = z := ⟨_, rfl⟩
      rw [hz] at hcA
      have HZ := Lib.hid hz
      clear hmk hz hpl
      by_cases hok : 1 ≤ z ∧ z ≤ 512
      · obtain ⟨k, rfl⟩ : ∃ k : Nat, z = k := ⟨z.toNat, by omega⟩
        have hk1 : 1 ≤ k := by omega
        have hk2 : k ≤ 512 := by omega
        clear hok
        go_wp2_with fail
        refine (rv_new k wr hk1 hk2).mono ?_
        rintro e w1 ⟨p', F', rfl, hd1, hb1, hF1⟩
        have hat1 := bK HM.out.at_ hb1
        obtain ⟨c0, c1, c2, c3⟩ := r4cells hat1
        have hrow1 := HM.out.row.below hb1
        have hrow2 := hrow1.below ((Below.refl _ w1).alloc (Nat.le_refl _) (.cells (bH.E.cel p').toArray bH.E.t))
        have HR := Lib.hid hrow2
        have HNEW := Lib.hid (dZ (E := bH.E) (l := [p']) w1 (bH.E.cel p').toArray bH.E.t (by rw [dA]; simp [bj]))
        have HSZ := Lib.hid (show w.heap.size ≤ (w1.alloc (.cells (bH.E.cel p').toArray bH.E.t)).heap.size by rw [World.size_alloc]; have := HM.out.below.size; have := hb1.size; omega)
        have HD1 := Lib.hid hd1
        have HB1 := Lib.hid hb1
        have HF1 := Lib.hid hF1
        have HAT := Lib.hid hat1
        have HPS := Lib.hid (show ps.length + 1 ≤ 34359738368 by have := HPL.out; omega)
        clear hd1 hb1 hF1 hat1 hrow1 hrow2
        have hal : w.heap.size < w1.heap.size := aV HAT.out
        go_wp2_with (first | (refine ai rfl (dc (E := bH.E) (a := p') rfl rfl rfl (by decide)) ?_) | (at_builtin; refine wpList_appE_own bH.E rfl _ _ rfl w.heap.size _ _ _ _ ps [p'] _ rfl rfl HR.out HNEW.out HSZ.out HPS.out ?_) | fail)
        intro v' w3 hm3 hg3 ho3
        have hxv : v'.ownBlock ≠ some w.heap.size := fun e => by
          rcases ho3 _ e with e' | e'
          · exact HM.out.row.cq HM.out.at_ bH.ne e'
          · omega
        have HNX := Lib.hid (HM.out.next (fun _ _ => rfl) HB1.out HF1.out (d := newD k) HD1.out hm3 hg3 ho3)
        have hvx : (Value.slice AS ps.length cS).ownBlock ≠ some w.heap.size := HM.out.row.cq HM.out.at_ bH.ne
        have hat3 : w3.heap[w.heap.size]? = some _ := (hg3.block w.heap.size (by rw [World.size_alloc]; omega) (fun e => hvx e.symm)).trans (bM HAT.out _)
        obtain ⟨AV, cV, rfl, _, _⟩ := hm3.form
        obtain ⟨d0, d1, d2, d3⟩ := r4cells hat3
        have f0 := frozen_of_row w3 w.heap.size 0 _ _ hat3
        clear hm3 hg3 ho3 hat3 c0 c1 c2 c3
        go_wp2_with fail
        go_roundw
        case rel =>
          refine ⟨j + 1, .slice AV (ps.length + 1) cV, upF Fs (List.map newD (List.take j ks)).length F', ps ++ [p'], by omega, by go_num, ?_, fun q hq => ?_⟩
          · rw [take_map_succ (by have := HLEN.out; omega), HZ.out]
            have h6 := HNX.out
            rw [show (ps ++ [p']).length = ps.length + 1 from by simp] at h6
            exact h6
          · by_cases e : q = j
            · subst e; rw [HZ.out]; omega
            · exact HALL.out q (by omega)
        case measure => simp [intOf]; omega
      · have HB := Lib.hid HM.out.below
        have HN := Lib.hid (show ¬ newOk ks from fun h => hok (by have := h.2.2 z (by rw [← HZ.out]; exact getD_mem (by have := HLEN.out; omega)); exact this))
        go_wp2_with fail
        refine (r_new_no z wr hok).mono ?_
        rintro e w1 ⟨rfl, rfl⟩
        have HB1 := Lib.hid HB.out
        clear hok
        go_wp2_with fail
        go_ret2
        exact d5.no HB1.out HN.out rfl
    · have hjn : j = n := by omega
      subst hjn
      have hlj : ¬((j : Int) < (j : Int)) := by omega
      have HM := Lib.hid hmk
      clear hmk
      go_wp2_with fail
      go_ret2
      have h5 := HM.out
      have hLL := HLEN.out
      rw [← hLL, List.take_length] at h5
      obtain ⟨g1, g2, g3⟩ := h5.done (by rw [List.length_map]; omega) (by rw [List.length_map]; omega)
      refine ⟨g3, .inl ⟨⟨by omega, by omega, fun k hk => ?_⟩, _, _, _, _, rfl, g1, g2⟩⟩
      obtain ⟨i, hi, rfl⟩ := List.getElem_of_mem hk
      have := HALL.out i (by omega)
      rwa [List.getD_eq_getElem?_getD, List.getElem?_eq_getElem hi] at this
end
def rIds : BIds where
  read := 88
  write := 28
  flush := 105
  fail := 44
  insert := 46
  arm := 40
  crash := 41
  sure := 51
  rot := 42
  eD := 49
  bY := 54
  steps := 53
def RB (w : World) (F : Nat → Prop) (p : Nat) (M : BenS) : Prop := InB bH w F p M ∧ M.Wf
theorem lens_put {M : BenS} {k : Nat} {d : DevS} (h : M.Wf) (hd : d.S.length = (M.ds.getD k bp).S.length) : (M.put k d).Wf := by
  refine ⟨by rw [M.put_len]; exact h.one, by rw [M.put_len]; exact h.cap, fun i hi => ?_⟩
  rw [M.put_len] at hi
  show 1 ≤ ((M.ds.set k d).getD i bp).S.length ∧ ((M.ds.set k d).getD i bp).S.length ≤ 512
  by_cases e : i = k
  · subst e; rw [cE hi, hd]; exact h.len i hi
  · rw [bu e]; exact h.len i hi
theorem wf_done {M : BenS} (h : M.Wf) : M.done.Wf := ⟨h.one, h.cap, h.len⟩
theorem wf_night {M : BenS} (h : M.Wf) : M.night.Wf := ⟨h.one, h.cap, h.len⟩
theorem wf_wr {M : BenS} (h : M.Wf) (d n : Int) (b : Blk) : (wrS6 M d n b).Wf := by
  unfold wrS6
  split
  · split
    · exact wf_night h
    · exact lens_put (wf_done h) rfl
  · exact h
theorem wf_fl {M : BenS} (h : M.Wf) (d : Int) : (flS6 M d).Wf := by
  unfold flS6
  split
  · split
    · exact wf_night h
    · exact lens_put (wf_done h) (by rw [fu]; rfl)
  · exact h
theorem wf_fa {M : BenS} (h : M.Wf) (d : Int) : (faS6 M d).Wf := by
  unfold faS6
  split
  · exact lens_put h rfl
  · exact h
theorem wf_in {M : BenS} (h : M.Wf) (d : Int) : (inS6 M d).Wf := by
  unfold inS6
  split
  · exact lens_put h (by rw [List.length_replicate]; rfl)
  · exact h
theorem wf_ar {M : BenS} (h : M.Wf) (n : Int) : (arS6 M n).Wf := by
  unfold arS6
  split
  · exact ⟨h.one, h.cap, h.len⟩
  · exact h
theorem wf_ro {M : BenS} (h : M.Wf) (d n i : Int) (u : UInt8) : (roS6 M d n i u).Wf := by
  unfold roS6
  split
  · exact lens_put h (by rw [rotS_len]; rfl)
  · exact h
theorem crAll_at : ∀ (ds : List DevS) (P : List Int) (i : Nat), ((crAll ds P).getD i bp).S.length = (ds.getD i bp).S.length
  | [], P, i => rfl
  | d :: ds, P, 0 => crI_len _ _ _ _
  | d :: ds, P, i + 1 => crAll_at ds _ i
theorem crAll_len (ds : List DevS) (P : List Int) : (crAll ds P).length = ds.length := by rw [← crIn_all, fj]
theorem wf_cr {M : BenS} (h : M.Wf) (P : List Int) : (crS6 M P).Wf := by
  refine ⟨by show 1 ≤ (crAll M.ds P).length; rw [crAll_len]; exact h.one, by show (crAll M.ds P).length ≤ 17; rw [crAll_len]; exact h.cap, fun i hi => ?_⟩
  have hi' : i < M.ds.length := by have : i < (crAll M.ds P).length := hi; rwa [crAll_len] at this
  show 1 ≤ ((crAll M.ds P).getD i bp).S.length ∧ ((crAll M.ds P).getD i bp).S.length ≤ 512
  rw [crAll_at]
  exact h.len i hi'
theorem wf_new {ks : List Int} (h : newOk ks) : (newS6 ks).Wf := by
  refine ⟨by rw [newS6_ds, List.length_map]; exact h.1, by rw [newS6_ds, List.length_map]; exact h.2.1, fun i hi => ?_⟩
  rw [newS6_ds, List.length_map] at hi
  have : ((newS6 ks).ds.getD i bp) = newD (ks.getD i 0) := by
    rw [newS6_ds, List.getD, List.getD, List.getElem?_map, List.getElem?_eq_getElem hi]; rfl
  rw [this]
  have h2 := h.2.2 _ (getD_mem (x := 0) hi)
  show 1 ≤ (List.replicate _ _).length ∧ (List.replicate _ _).length ≤ 512
  rw [List.length_replicate]
  omega
def rBen : Ben rIds where
  Bn := RB
  lt := fun h => h.1.lt
  only := fun h ho hn => ⟨h.1.only ho hn, h.2⟩
  wf := fun h => h.2
  read := fun d n ⟨⟨_, _, _, _, h⟩, _⟩ => c_read d n h
  sure := fun d n ⟨⟨_, _, _, _, h⟩, _⟩ => c_sure d n h
  write := fun d n b hr ⟨⟨_, _, _, e, h⟩, hw⟩ => by
    subst e
    exact (c_write d n b h (fun i hi => hr.at_ hi) (by have := hr.1; omega) hr.2.1).mono fun e w' ⟨h1, h2⟩ => ⟨h1, by obtain ⟨F', g1, g2⟩ := h2.out; exact ⟨F', ⟨g1, wf_wr hw _ _ _⟩, g2⟩⟩
  flush := fun d hr ⟨⟨_, _, _, e, h⟩, hw⟩ => by
    subst e
    exact (c_flush d h (by have := hr.1; omega) hr.2.1).mono fun e w' ⟨h1, h2⟩ => ⟨h1, by obtain ⟨F', g1, g2⟩ := h2.out; exact ⟨F', ⟨g1, wf_fl hw _⟩, g2⟩⟩
  fail := fun d ⟨⟨_, _, _, e, h⟩, hw⟩ => by
    subst e
    exact (c_fail d h).mono fun e w' ⟨h1, h2⟩ => ⟨h1, by obtain ⟨F', g1, g2⟩ := h2.out; exact ⟨F', ⟨g1, wf_fa hw _⟩, g2⟩⟩
  insert := fun d ⟨⟨_, _, _, e, h⟩, hw⟩ => by
    subst e
    exact (c_insert d h hw.len).mono fun e w' ⟨h1, h2⟩ => ⟨h1, by obtain ⟨F', g1, g2⟩ := h2.out; exact ⟨F', ⟨g1, wf_in hw _⟩, g2⟩⟩
  arm := fun {w F p M} n ⟨⟨_, _, _, e, h⟩, hw⟩ => by
    subst e
    exact (c_arm n h).mono fun e w' ⟨h1, h2, h3⟩ => ⟨h1, by obtain ⟨F', g1, g2⟩ := (Left.obj h2 h3 (n := M.ds.length) (by unfold arS6; split <;> rfl)).out; exact ⟨F', ⟨g1, wf_ar hw _⟩, g2⟩⟩
  crash := fun hP ⟨⟨_, _, _, e, h⟩, hw⟩ => by
    subst e
    exact (c_crash h hP).mono fun e w' ⟨h1, h2⟩ => ⟨h1, by obtain ⟨F', g1, g2⟩ := h2.out; exact ⟨F', ⟨g1, wf_cr hw _⟩, g2⟩⟩
  rot := fun d n i u ⟨⟨_, _, _, e, h⟩, hw⟩ => by
    subst e
    exact (c_rot d n i u h).mono fun e w' ⟨h1, h2⟩ => ⟨h1, by obtain ⟨F', g1, g2⟩ := h2.out; exact ⟨F', ⟨g1, wf_ro hw _ _ _ _⟩, g2⟩⟩
  eD := fun d ⟨⟨_, _, _, _, h⟩, _⟩ => (c_sectors d h).mono fun e w' ⟨h1, h2⟩ => ⟨h1, by subst h2; exact Below.refl _ _⟩
  bY := fun ⟨⟨_, _, _, _, h⟩, _⟩ => (c_dark h).mono fun e w' ⟨h1, h2⟩ => ⟨h1, by subst h2; exact Below.refl _ _⟩
  steps := fun ⟨⟨_, _, _, _, h⟩, _⟩ => (c_steps h).mono fun e w' ⟨h1, h2⟩ => ⟨h1, by subst h2; exact Below.refl _ _⟩
structure BenR extends Ben rIds where
  new : ∀ {w A n c ks}, RdE dq w w.heap.size A n ks → n ≤ c → c ≤ maxLen → Calls Tryz.prog 38 #[.slice A n c] w (NewB Bn w ks)
def refBen : BenR where
  toBen := rBen
  new := fun h1 h2 h3 => (c_new h1 h2 h3).mono fun e w' h => by
    obtain ⟨g1, g | g⟩ := h
    · obtain ⟨g0, p, v, Fs, ps, g2, g3, g4⟩ := g
      exact ⟨g1, .inl ⟨g0, p, _, g2, ⟨⟨v, Fs, ps, rfl, g3⟩, wf_new g0⟩, g4⟩⟩
    · exact ⟨g1, .inr g⟩
set_option linter.unusedSimpArgs false
def Tbl (P : BenP) (w : World) (k : Int) (e : Ending) (w' : World) : Prop :=
  ∃ p q F F', e = .returned (.tuple #[.pointer (some ⟨p, 0, none⟩), .pointer (some ⟨q, 0, none⟩), .bool true]) ∧ P.Bn w' F p (newS6 [k, 12]) ∧ refBen.Bn w' F' q (newS6 [k, 12]) ∧ (∀ b, F b → w.heap.size ≤ b) ∧ (∀ b, F' b → w.heap.size ≤ b) ∧ (∀ b, F b → ¬ F' b) ∧ Below w.heap.size w w'
set_option maxHeartbeats 1000000 in
theorem ltable (P : BenP) (k : Int) (w : World) (hk : 1 ≤ k ∧ k ≤ 512) : Calls Tryz.prog 9 #[.int .i64 k] w (Tbl P w k) := by
  have hok : newOk [k, 12] := ⟨by simp, by simp, fun n hn => by
    rcases List.mem_cons.1 hn with rfl | hn
    · exact hk
    · rcases List.mem_cons.1 hn with rfl | hn
      · omega
      · cases hn⟩
  have HOK := Lib.hid hok
  have HRD : ∀ v : World, Hid (RdE dq (v.alloc (.cells #[.int .i64 k, .int .i64 12] 3)) (v.alloc (.cells #[.int .i64 k, .int .i64 12] 3)).heap.size (some ⟨v.heap.size, 0, none⟩) 2 [k, 12]) := fun v => Lib.hid (by
    rw [World.size_alloc]
    exact dZ (E := dq) (l := [k, 12]) v #[.int .i64 k, .int .i64 12] 3 rfl)
  have HBA : ∀ v : World, Hid (Below v.heap.size v (v.alloc (.cells #[.int .i64 k, .int .i64 12] 3)) ∧ v.heap.size ≤ (v.alloc (.cells #[.int .i64 k, .int .i64 12] 3)).heap.size) := fun v => Lib.hid ⟨(Below.refl _ _).alloc (Nat.le_refl _) _, by rw [World.size_alloc]; omega⟩
  have HR0 := HRD w
  have HA0 := HBA w
  clear hok hk
  go_enter Tryz.func9, Tryz.ntmps9
  go_wp2_with fail
  refine (P.new (A := some ⟨w.heap.size, 0, none⟩) (c := 2) HR0.out (by omega) (by unfold maxLen; omega)).mono ?_
  rintro e w1 ⟨hb1, ⟨_, p, F, rfl, hB, hF⟩ | ⟨hno, rfl⟩⟩
  rotate_left 1
  · exact absurd HOK.out hno
  have HB1 := Lib.hid (HA0.out.1.trans (hb1.mono HA0.out.2))
  have HP1 := Lib.hid hB
  have HF1 : Hid (∀ b, F b → w.heap.size ≤ b) := Lib.hid fun b e => Nat.le_trans HA0.out.2 (hF b e)
  clear hb1 hB hF HR0 HA0
  have HR1 := HRD w1
  have HA1 := HBA w1
  clear HRD HBA
  go_wp2_with fail
  refine (refBen.new (A := some ⟨w1.heap.size, 0, none⟩) (c := 2) HR1.out (by omega) (by unfold maxLen; omega)).mono ?_
  rintro e w2 ⟨hb2, ⟨_, q, F', rfl, hB2, hF2⟩ | ⟨hno, rfl⟩⟩
  rotate_left 1
  · exact absurd HOK.out hno
  have HB12 := Lib.hid (HA1.out.1.trans (hb2.mono HA1.out.2))
  have HB2 := Lib.hid (HB1.out.trans (HB12.out.mono HB1.out.size))
  have HP2 := Lib.hid (P.toBen.below HP1.out HB12.out)
  have HQ2 := Lib.hid hB2
  have HF2 : Hid (∀ b, F' b → w1.heap.size ≤ b) := Lib.hid fun b e => Nat.le_trans HA1.out.2 (hF2 b e)
  have HDJ : Hid (∀ b, F b → ¬ F' b) := Lib.hid fun b e e' => by
    have h1 := P.lt HP1.out b e
    have h2 := HF2.out b e'
    omega
  clear hb2 hB2 hF2 HR1 HA1 HB12
  go_wp2_with fail
  (try simp only [Exit.inBlock, Exit.then])
  refine bodyPost_ret (results_tmp3 rfl _ _ _) rfl ⟨p, q, F, F', rfl, HP2.out, HQ2.out, HF1.out, fun b e => Nat.le_trans HB1.out.size (HF2.out b e), HDJ.out, HB2.out⟩
def mayB (r t h : Int) : Bool := decide (1 ≤ r ∧ r ≤ 256 ∧ t ≤ h ∧ h ≤ 4611686018427387904 ∧ h - t ≤ r)
theorem mayB_iff {r t h : Int} : mayB r t h = true ↔ 1 ≤ r ∧ r ≤ 256 ∧ t ≤ h ∧ h ≤ 4611686018427387904 ∧ h - t ≤ r := by unfold mayB; exact decide_eq_true_iff
def freN (r t h : Int) : Int := if mayB r t h then r - (h - t) else 0
def freE (r t h : Int) : Int := if mayB r t h then 0 else 2
def tolB (r t h n : Int) : Bool := decide (mayB r t h = true ∧ 0 ≤ n)
def romB (r t h n : Int) : Bool := decide (n ≤ r - (h - t) ∧ h + n ≤ 4611686018427387904)
def takN (r t h n : Int) : Int := if tolB r t h n && romB r t h n then h + n else 0
def takE (r t h n : Int) : Int := if tolB r t h n then (if romB r t h n then 0 else 10) else 2
def rinB (r : Int) : Bool := decide (1 ≤ r ∧ r ≤ 256)
def posB (t : Int) : Bool := decide (t ≤ 4611686018427387904)
theorem ring_ok (r : Int) (w : World) : Calls Tryz.prog 153 #[.int .i64 r] w fun e w' => e = .returned (.bool (rinB r)) ∧ w = w' := by
  go_enter Tryz.func153, Tryz.ntmps153
  go_wp2
  all_goals
    go_ret
    refine ⟨bO ?_, rfl⟩
    unfold rinB
    first
      | (refine Eq.symm (decide_eq_false ?_); omega)
      | (rw [Bool.eq_iff_iff, decide_eq_true_iff, decide_eq_true_iff]; omega)
theorem pos_ok (t : Int) (w : World) : Calls Tryz.prog 187 #[.int .u64 t] w fun e w' => e = .returned (.bool (posB t)) ∧ w = w' := by
  go_enter Tryz.func187, Tryz.ntmps187
  go_wp2
  go_ret
  exact ⟨rfl, rfl⟩
theorem ahead_ok (t : Int) (w : World) (h0 : 0 ≤ t) (h1 : t ≤ 4611686018427387904) : Calls Tryz.prog 170 #[.int .u64 t] w fun e w' => e = .returned (.int .u64 (4611686018427387904 - t)) ∧ w = w' := by
  go_enter Tryz.func170, Tryz.ntmps170
  go_wp2
  go_ret
  exact ⟨aQ (by omega), rfl⟩
theorem sector_ok (r t : Int) (w : World) (h1 : 1 ≤ r) (h2 : r ≤ 256) (h0 : 0 ≤ t) (h3 : t ≤ 18446744073709551615) : Calls Tryz.prog 192 #[.int .i64 r, .int .u64 t] w fun e w' => e = .returned (.int .i64 (t % r)) ∧ w = w' := by
  have hm0 := Int.emod_nonneg t (show r ≠ 0 by omega)
  have hm1 := Int.emod_lt_of_pos t (show 0 < r by omega)
  go_enter Tryz.func192, Tryz.ntmps192
  go_wp2
  go_ret
  exact ⟨aQ (by omega), rfl⟩
def useB (r t h : Int) : Bool := decide (t ≤ h ∧ h ≤ 4611686018427387904 ∧ h - t ≤ r)
set_option maxHeartbeats 1000000 in
theorem use_ok (r t h : Int) (w : World) (hr1 : 1 ≤ r) (hr2 : r ≤ 256) (ht0 : 0 ≤ t) (ht1 : t ≤ 18446744073709551615) (hh0 : 0 ≤ h) (hh1 : h ≤ 18446744073709551615) : Calls Tryz.prog 154 #[.int .i64 r, .int .u64 t, .int .u64 h] w fun e w' => e = .returned (.bool (useB r t h)) ∧ w = w' := by
  go_enter Tryz.func154, Tryz.ntmps154
  go_wp2_with fail
  refine (pos_ok h w).mono ?_
  rintro e w1 ⟨rfl, rfl⟩
  by_cases h1 : h ≤ 4611686018427387904
  · rw [show posB h = true from decide_eq_true h1]
    go_wp2
    all_goals
      go_ret
      refine ⟨bO ?_, rfl⟩
      unfold useB
      first
        | (refine Eq.symm (decide_eq_false ?_); omega)
        | (rw [Bool.eq_iff_iff, decide_eq_true_iff, decide_eq_true_iff]; omega)
  · rw [show posB h = false from decide_eq_false h1]
    go_wp2
    go_ret
    refine ⟨bO ?_, rfl⟩
    unfold useB
    refine Eq.symm (decide_eq_false ?_); omega
theorem ring_true {r : Int} (h : 1 ≤ r ∧ r ≤ 256) : rinB r = true := decide_eq_true h
theorem ring_false {r : Int} (h : ¬(1 ≤ r ∧ r ≤ 256)) : rinB r = false := decide_eq_false h
theorem pos_true {r : Int} (h : r ≤ 4611686018427387904) : posB r = true := decide_eq_true h
theorem pos_false {r : Int} (h : ¬r ≤ 4611686018427387904) : posB r = false := decide_eq_false h
theorem use_iff {r t h : Int} : useB r t h = true ↔ t ≤ h ∧ h ≤ 4611686018427387904 ∧ h - t ≤ r := by unfold useB; exact decide_eq_true_iff
theorem may_use {r t h : Int} : mayB r t h = (rinB r && useB r t h) := by
  rw [Bool.eq_iff_iff, mayB_iff, Bool.and_eq_true]
  unfold rinB useB
  rw [decide_eq_true_iff, decide_eq_true_iff]
  omega
theorem fre_no {r t h : Int} (hm : mayB r t h = false) : freN r t h = 0 ∧ freE r t h = 2 := by unfold freN freE; rw [hm]; exact ⟨rfl, rfl⟩
theorem fre_in {r t h : Int} (hm : mayB r t h = true) : freN r t h = r - (h - t) ∧ freE r t h = 0 := by unfold freN freE; rw [hm]; exact ⟨rfl, rfl⟩
theorem fm {k k' : IntKind} {a b a' b' : Int} (h : a = b ∧ a' = b') : Ending.returned (.tuple #[.int k b, .int k' b']) = .returned (.tuple #[.int k a, .int k' a']) := by rw [h.1, h.2]
theorem pfre (r t h : Int) (w : World) (ht0 : 0 ≤ t) (ht1 : t ≤ 18446744073709551615) (hh0 : 0 ≤ h) (hh1 : h ≤ 18446744073709551615) : Calls Tryz.prog 97 #[.int .i64 r, .int .u64 t, .int .u64 h] w fun e w' => e = .returned (.tuple #[.int .i64 (freN r t h), .int .i64 (freE r t h)]) ∧ w = w' := by
  go_enter Tryz.func97, Tryz.ntmps97
  go_wp2_with fail
  refine (ring_ok r w).mono ?_
  rintro e w1 ⟨rfl, rfl⟩
  by_cases hr : 1 ≤ r ∧ r ≤ 256
  · rw [ring_true hr]
    go_wp2_with fail
    refine (use_ok r t h w hr.1 hr.2 ht0 ht1 hh0 hh1).mono ?_
    rintro e w1 ⟨rfl, rfl⟩
    cases hu : useB r t h
    · have hs := Lib.hid (fre_no (r := r) (t := t) (h := h) (by rw [may_use, hu, Bool.and_false]))
      clear hu
      go_wp2
      go_ret2
      exact ⟨fm hs.out, rfl⟩
    · have hs := Lib.hid (fre_in (r := r) (t := t) (h := h) (by rw [may_use, hu, ring_true hr]; rfl))
      obtain ⟨g1, g2, g3⟩ := use_iff.1 hu
      clear hu
      go_wp2
      go_ret2
      exact ⟨fm ⟨hs.out.1.trans (by omega), hs.out.2⟩, rfl⟩
  · have hs := Lib.hid (fre_no (r := r) (t := t) (h := h) (by rw [may_use, ring_false hr, Bool.false_and]))
    rw [ring_false hr]
    go_wp2
    go_ret2
    exact ⟨fm hs.out, rfl⟩
def lisB (r t n : Int) : Bool := decide (1 ≤ r ∧ r ≤ 256 ∧ t ≤ 4611686018427387904 ∧ 0 ≤ n ∧ n ≤ r ∧ t + n ≤ 4611686018427387905)
def secL (r t : Int) (n : Nat) : List Int := (List.range n).map fun (i : Nat) => (t + (i : Int)) % r
def lisL (r t n : Int) : List Int := if lisB r t n then secL r t n.toNat else []
def lisE (r t n : Int) : Int := if lisB r t n then 0 else 2
theorem lis_iff {r t n : Int} : lisB r t n = true ↔ 1 ≤ r ∧ r ≤ 256 ∧ t ≤ 4611686018427387904 ∧ 0 ≤ n ∧ n ≤ r ∧ t + n ≤ 4611686018427387905 := by unfold lisB; exact decide_eq_true_iff
theorem lis_not {r t n : Int} : lisB r t n = false ↔ ¬(1 ≤ r ∧ r ≤ 256 ∧ t ≤ 4611686018427387904 ∧ 0 ≤ n ∧ n ≤ r ∧ t + n ≤ 4611686018427387905) := by unfold lisB; rw [decide_eq_false_iff_not]
theorem lis_no {r t n : Int} (h : lisB r t n = false) : lisL r t n = [] ∧ lisE r t n = 2 := by unfold lisL lisE; rw [h]; exact ⟨rfl, rfl⟩
theorem lis_in {r t : Int} {n : Nat} (h : lisB r t n = true) : lisL r t n = secL r t n ∧ lisE r t n = 0 := by unfold lisL lisE; rw [h]; exact ⟨rfl, rfl⟩
theorem secL_len (r t : Int) (n : Nat) : (secL r t n).length = n := by simp [secL]
theorem secL_at {r t : Int} {n k : Nat} (h : k < n) : (secL r t n).getD k 0 = (t + (k : Int)) % r := by
  simp [secL, List.getD, List.getElem?_map, List.getElem?_range h]
set_option maxHeartbeats 1000000 in
theorem plis_in (r t : Int) (N B : Nat) (w : World) (HB0 : Hid (B = w.heap.size)) (h0 : 0 ≤ t) (h : lisB r t N = true) :
    Calls Tryz.prog 171 #[.int .i64 r, .int .u64 t, .int .i64 N] w fun e w' => ∃ v, e = .returned (.tuple #[v, .int .i64 0]) ∧ aA dq w' B v (secL r t N) ∧ Below B w w' := by
  obtain ⟨g1, g2, g3, g4, g5, g6⟩ := lis_iff.1 h
  clear h
  have hmk := run_make_row' (P := Tryz.prog) 36 3 (.int .i64 0) 8 Tryz.underlying36 dq.info rfl .i64 .i64 N (by omega) (by omega)
  have HMK := Lib.hid hmk
  clear hmk
  go_enter Tryz.func171, Tryz.ntmps171
  go_wp2_with fail
  refine (ring_ok r w).mono ?_
  rintro e w1 ⟨rfl, rfl⟩
  rw [ring_true ⟨g1, g2⟩]
  go_wp2_with fail
  refine (pos_ok t w).mono ?_
  rintro e w1 ⟨rfl, rfl⟩
  rw [pos_true g3]
  by_cases hn : 0 < N
  case' pos =>
    go_wp2_with fail
    refine (ahead_ok t w h0 g3).mono ?_
    rintro e w1 ⟨rfl, rfl⟩
  all_goals
    have hmk := HMK.out w
    go_wp2
    clear hmk
    have hr0 := World.rowIs_made w (Value.int .i64 0) N 3
    have hbl0 : Below B w (w.alloc (.cells (madeCells #[Value.int .i64 0] N) 3)) := by rw [HB0.out]; exact (Below.refl _ _).alloc (Nat.le_refl _) _
    have hBg : B ≤ w.heap.size := Nat.le_of_eq HB0.out
    generalize hg : w.heap.size = g at *
    have HG := Lib.hid hg
    clear hg
    go_loopw [9, 40] (fun v i wr => ∃ (k : Nat) (f : Nat → Int), k ≤ N ∧ i = .int .i64 k ∧ wr.rowIs g 3 N (fun j => .int .i64 (f j)) ∧ (∀ j, j < k → f j = (t + (j : Int)) % r) ∧ Below B w wr) (fun _ i _ => N - (intOf i).toNat)
    case atStart => exact ⟨0, fun _ => 0, Nat.zero_le _, rfl, hr0, fun j hj => absurd hj (by omega), hbl0⟩
    case round =>
      clear hr0 hbl0
      obtain ⟨k, f, hk, rfl, hrow, hf, hbl⟩ := hrel
      have HF := Lib.hid hf
      clear hf
      by_cases hlt : k < N
      · clear hn
        go_wp2_with fail
        refine (sector_ok r (t + (k : Int)) _ g1 g2 (by omega) (by omega)).mono ?_
        rintro e w5 ⟨rfl, rfl⟩
        have hc := hrow.cell (i := k) hlt
        have hfr := hrow.frozen k
        generalize hx : (t + (k : Int)) % r = x at *
        have HX := Lib.hid hx
        clear hx
        go_wp2
        go_roundw
        case rel =>
          refine ⟨k + 1, upd f k x, by omega, by go_num, row_puti hrow _, ?_, hbl.setCell hBg _⟩
          intro j hj
          by_cases e : j = k
          · subst e; rw [upd_at]; exact HX.out.symm
          · rw [upd_off _ _ e]; exact HF.out j (by omega)
        case measure => simp [intOf]; omega
      · have hkn : k = N := by omega
        subst hkn
        go_wp2
        go_ret2
        exact ⟨_, rfl, made_ints hrow hBg (secL_len ..) (fun j hj => by rw [HF.out j hj, secL_at hj]) (by unfold maxLen; omega), hbl⟩
theorem plis_no (r t n : Int) (w : World) (h0 : 0 ≤ t) (h1 : t ≤ 18446744073709551615) (hn1 : -9223372036854775808 ≤ n) (hn2 : n ≤ 9223372036854775807) (h : lisB r t n = false) :
    Calls Tryz.prog 171 #[.int .i64 r, .int .u64 t, .int .i64 n] w fun e w' => e = .returned (.tuple #[.slice none 0 0, .int .i64 2]) ∧ w = w' := by
  have hq := lis_not.1 h
  clear h
  go_enter Tryz.func171, Tryz.ntmps171
  go_wp2_with fail
  refine (ring_ok r w).mono ?_
  rintro e w1 ⟨rfl, rfl⟩
  by_cases hr : 1 ≤ r ∧ r ≤ 256
  · rw [ring_true hr]
    go_wp2_with fail
    refine (pos_ok t w).mono ?_
    rintro e w1 ⟨rfl, rfl⟩
    by_cases ht : t ≤ 4611686018427387904
    · rw [pos_true ht]
      by_cases hn : 0 ≤ n ∧ n ≤ r
      · have hp : 0 < n := by omega
        have ha : 4611686018427387904 - t < n - 1 := by omega
        clear hq
        go_wp2_with fail
        refine (ahead_ok t w h0 ht).mono ?_
        rintro e w1 ⟨rfl, rfl⟩
        go_wp2
        go_ret2
        exact ⟨rfl, rfl⟩
      · clear hq
        by_cases h0 : 0 ≤ n
        · go_wp2
          go_ret2
          exact ⟨rfl, rfl⟩
        · go_wp2
          go_ret2
          exact ⟨rfl, rfl⟩
    · rw [pos_false ht]
      go_wp2
      go_ret2
      exact ⟨rfl, rfl⟩
  · rw [ring_false hr]
    go_wp2
    go_ret2
    exact ⟨rfl, rfl⟩
theorem plis (r t n : Int) (B : Nat) (w : World) (HB : Hid (B = w.heap.size)) (h0 : 0 ≤ t) (h1 : t ≤ 18446744073709551615) (hn1 : -9223372036854775808 ≤ n) (hn2 : n ≤ 9223372036854775807) :
    Calls Tryz.prog 171 #[.int .i64 r, .int .u64 t, .int .i64 n] w fun e w' => ∃ v, e = .returned (.tuple #[v, .int .i64 (lisE r t n)]) ∧ aA dq w' B v (lisL r t n) ∧ Below B w w' := by
  cases h : lisB r t n
  · rw [(lis_no h).1, (lis_no h).2]; exact (plis_no r t n w h0 h1 hn1 hn2 h).mono fun e w' ⟨he, hw⟩ => ⟨_, he, aA.nil _ _, hw ▸ Below.refl _ _⟩
  · obtain ⟨N, rfl⟩ : ∃ N : Nat, n = (N : Int) := ⟨n.toNat, by have := lis_iff.1 h; omega⟩
    rw [(lis_in h).1, (lis_in h).2]
    exact plis_in r t N B w HB h0 h
section
variable {d : Int} {M : BenS} {T : List Stp} {k : Nat} {s : Stp}
theorem room_more {m n : Nat} (h : Room M n) (hm : m ≤ n) : Room M m := by
  induction n with
  | zero => rw [show m = 0 from by omega]; exact h
  | succ n ih =>
    rcases Nat.lt_or_ge n m with e | e
    · rw [show m = n + 1 from by omega]; exact h
    · exact ih h.less e
end
section
variable {x : LgS} {cs : List Cl} {j : Nat}
theorem appQ_rec (h : recE cs ≠ 0) : appQ x cs = recE cs := if_pos h
theorem appQ_full (h : recE cs = 0) (h2 : 8 ≤ x.nts.length ∨ x.free < (bE cs).length) : appQ x cs = 10 := by unfold appQ; rw [if_neg (by omega), if_pos h2]
theorem appQ_ok (h : recE cs = 0) (h2 : ¬ (8 ≤ x.nts.length ∨ x.free < (bE cs).length)) : appQ x cs = 0 := by unfold appQ; rw [if_neg (by omega), if_neg h2]
theorem app_no {M : BenS} (h : appQ x cs ≠ 0) : appE M x cs = appQ x cs ∧ appB M x cs = M ∧ appX M x cs = x ∧ appN M x cs = 0 := by
  have e : appE M x cs = appQ x cs := if_neg h
  exact ⟨e, if_neg h, by unfold appX; rw [e, if_neg h], by unfold appN; rw [e, if_neg h]⟩
theorem app_go_ {M : BenS} (h : appQ x cs = 0) : appE M x cs = goE x.d M (appT x cs) ∧ appB M x cs = goB x.d M (appT x cs) := ⟨if_pos h, if_pos h⟩
theorem app_err {M : BenS} {E : Int} {M' : BenS} (h : appQ x cs = 0) (h1 : goE x.d M (appT x cs) = E ∧ goB x.d M (appT x cs) = M') (hE : E ≠ 0) : appE M x cs = E ∧ appB M x cs = M' ∧ appX M x cs = x ∧ appN M x cs = 0 := by
  obtain ⟨e1, e2⟩ := app_go_ (M := M) h
  rw [h1.1] at e1
  rw [h1.2] at e2
  exact ⟨e1, e2, by unfold appX; rw [e1, if_neg hE], by unfold appN; rw [e1, if_neg hE]⟩
theorem app_fin {M : BenS} {M' : BenS} (h : appQ x cs = 0) (h1 : goE x.d M (appT x cs) = 0 ∧ goB x.d M (appT x cs) = M') : appE M x cs = 0 ∧ appB M x cs = M' ∧ appX M x cs = x.with_ (cD x cs) ∧ appN M x cs = x.next := by
  obtain ⟨e1, e2⟩ := app_go_ (M := M) h
  rw [h1.1] at e1
  rw [h1.2] at e2
  exact ⟨e1, e2, by unfold appX; rw [e1]; rfl, by unfold appN; rw [e1]; rfl⟩
end
section
variable {α : Type} {E : Elt α} {w w' : World} {B : Nat} {v : Value} {l : List α}
theorem aA.kept_ (h : aA E w B v l) (hk : ∀ b, v.ownBlock = some b → w'.heap[b]? = w.heap[b]?) : aA E w' B v l := by
  refine ⟨h.1, ?_⟩
  rcases h.2 with hn | ⟨g, cap, cur, rfl, hbg, hg, rest⟩
  · exact .inl hn
  · exact .inr ⟨g, cap, cur, rfl, hbg, (hk g rfl).trans hg, rest⟩
theorem aA.own_both (h : aA E w B v l) : ∀ b, v.ownBlock = some b → B ≤ b ∧ b < w.heap.size := by
  intro b hb
  rcases h.2 with ⟨rfl, _⟩ | ⟨g, cap, cur, rfl, hg, hg2, _⟩
  · simp [Value.ownBlock] at hb
  · simp [Value.ownBlock] at hb; subst hb; exact ⟨hg, aV hg2⟩
end
theorem secL_at_ {r t n j : Nat} (h : j < n) : (secL (r : Int) (t : Int) n).getD j 0 = (((t + j) % r : Nat) : Int) := by
  unfold secL
  rw [List.getD, List.getElem?_map, List.getElem?_range h]
  simp [Int.natCast_emod]
section
variable {ρ : Operand → Value} {o : Oper} {x y : Operand} {w : World} {c d : Blk} {t : TypeId}
theorem exec_neqb (b : Bool) (ho : o.op = .binOp .neq 65 x y t) (hx : ρ x = blk c) (hy : ρ y = blk d) (h : (!decide (c = d)) = b) : (execOp ρ o).run Tryz.prog w = .ok (.value (.bool b)) w := by
  rw [exec_neq ho hx hy, h]
end
theorem eC {id : Nat} {Q : Exit → Act → World → Prop} {a : Act} {w : World} {l : List Oper} (hB : Region.lexB .any l.toArray = true) (h : wpStill Tryz.prog l.toArray w.drew (fun a' => Q .normal a' w.drew) l a) :
    (Code.region id l.toArray true).wp Tryz.prog Q a w := wp_region_still_lit (by kernel_rfl) hB h
theorem getD_ext {a b : List Blk} (hl : a.length = b.length) (h : ∀ k, k < a.length → a.getD k al = b.getD k al) : a = b := by
  apply List.ext_getElem hl
  intro k h1 h2
  have := h k h1
  rw [List.getD, List.getD, List.getElem?_eq_getElem h1, List.getElem?_eq_getElem h2] at this
  simpa using this
theorem getC_ext {a b : List Cl} (hl : a.length = b.length) (h : ∀ k, k < a.length → a.getD k cf = b.getD k cf) : a = b := by
  apply List.ext_getElem hl
  intro k h1 h2
  have := h k h1
  rw [List.getD, List.getD, List.getElem?_eq_getElem h1, List.getElem?_eq_getElem h2] at this
  simpa using this
set_option maxHeartbeats 800000 in
theorem cells_any (A B : Option Addr) (n m c d N : Nat) (a b : List Cl) (w : World) (ha : RdE bn w N A n a) (hb : RdE bn w N B m b) (hN : N ≤ w.heap.size) (hn : n ≤ maxLen) :
    Calls Tryz.prog 25 #[.slice A n c, .slice B m d] w fun e w' => e = .returned (.bool (decide (a = b))) ∧ Below w.heap.size w w' := by
  unfold maxLen at hn
  by_cases hnm : n = m
  · subst hnm
    go_enter Tryz.func25, Tryz.ntmps25
    go_wp2_with fail
    go_loopw [5] (fun i wr => ∃ k : Nat, k ≤ n ∧ i = .int .i64 k ∧ (∀ j, j < k → a.getD j cf = b.getD j cf) ∧ Below w.heap.size w wr) (fun i _ => n - (intOf i).toNat)
    case atStart => exact ⟨0, Nat.zero_le _, rfl, fun j hj => absurd hj (by omega), Below.refl _ _⟩
    case round =>
      obtain ⟨k, hk, rfl, hj, hbl⟩ := hrel
      have HJ := Lib.hid hj
      clear hj
      by_cases hlt : k < n
      · obtain ⟨bA, oA, rfl, hA, cA⟩ := (ha.below (hbl.mono hN)).cl hlt
        obtain ⟨bB, oB, rfl, hB, cB⟩ := (hb.below (hbl.mono hN)).cl hlt
        have HX := Lib.hid (rfl : a.getD k cf = a.getD k cf)
        generalize hx : a.getD k cf = x at *
        generalize hy : b.getD k cf = y at *
        have HA := Lib.hid cA
        have HB := Lib.hid cB
        have HXX := Lib.hid hx
        have HYY := Lib.hid hy
        clear cA cB hx hy HX
        go_wp2_with fail
        by_cases hxy : x = y
        · have hd : (!decide (x = y)) = false := by simpa using hxy
          refine eC (by kernel_rfl) ?_
          refine aw rfl (cj rfl) ?_
          simp only [Act.put, aa, ae, af]
          refine aw rfl (cj rfl) ?_
          simp only [Act.put, aa, ae, af]
          refine aw rfl (a8 (E := bn) rfl rfl rfl hlt) ?_
          simp only [Act.put, aa, ae, af]
          refine aw rfl (eH rfl rfl HA.out) ?_
          simp only [Act.put, aa, ae, af]
          refine aw rfl (cj rfl) ?_
          simp only [Act.put, aa, ae, af]
          refine aw rfl (cj rfl) ?_
          simp only [Act.put, aa, ae, af]
          refine aw rfl (a8 (E := bn) rfl rfl rfl hlt) ?_
          simp only [Act.put, aa, ae, af]
          refine aw rfl (eH rfl rfl HB.out) ?_
          simp only [Act.put, aa, ae, af]
          refine aw rfl (exec_neC false rfl rfl rfl hd) ?_
          simp only [Act.put, aa, ae, af]
          refine wpStill_nil ?_
          clear hd
          go_wp2_with fail
          go_roundw
          case rel =>
            refine ⟨k + 1, by omega, by go_num, ?_, bd hbl⟩
            intro j hj
            by_cases h : j = k
            · subst h; rw [HXX.out, HYY.out]; exact hxy
            · exact HJ.out j (by omega)
          case measure => simp [intOf]; omega
        · have hd : (!decide (x = y)) = true := by simpa using hxy
          refine eC (by kernel_rfl) ?_
          refine aw rfl (cj rfl) ?_
          simp only [Act.put, aa, ae, af]
          refine aw rfl (cj rfl) ?_
          simp only [Act.put, aa, ae, af]
          refine aw rfl (a8 (E := bn) rfl rfl rfl hlt) ?_
          simp only [Act.put, aa, ae, af]
          refine aw rfl (eH rfl rfl HA.out) ?_
          simp only [Act.put, aa, ae, af]
          refine aw rfl (cj rfl) ?_
          simp only [Act.put, aa, ae, af]
          refine aw rfl (cj rfl) ?_
          simp only [Act.put, aa, ae, af]
          refine aw rfl (a8 (E := bn) rfl rfl rfl hlt) ?_
          simp only [Act.put, aa, ae, af]
          refine aw rfl (eH rfl rfl HB.out) ?_
          simp only [Act.put, aa, ae, af]
          refine aw rfl (exec_neC true rfl rfl rfl hd) ?_
          simp only [Act.put, aa, ae, af]
          refine wpStill_nil ?_
          clear hd
          go_wp2_with fail
          go_ret
          refine ⟨?_, bd hbl⟩
          rw [decide_eq_false]
          · rfl
          · rintro rfl
            exact hxy (HXX.out.symm.trans HYY.out)
      · go_wp2_with fail
        go_ret
        refine ⟨?_, hbl⟩
        rw [decide_eq_true]
        · rfl
        · exact getC_ext (by rw [ha.1, hb.1]) fun k h => HJ.out k (by have := ha.1; omega)
  · have hne : ((n : Int) != (m : Int)) = true := by simp; omega
    go_enter Tryz.func25, Tryz.ntmps25
    go_wp2_with fail
    go_ret
    refine ⟨?_, Below.refl _ _⟩
    rw [decide_eq_false]
    · rfl
    · rintro rfl
      exact hnm (ha.1.symm.trans hb.1)
theorem copyC_any (A : Option Addr) (n c N B : Nat) (l : List Cl) (w : World) (HB : Hid (B = w.heap.size)) (hl : RdE bn w N A n l) (hN : N ≤ B) (hn : n ≤ 1759218604390) :
    Calls Tryz.prog 20 #[.slice A n c] w fun e w' => ∃ v, e = .returned v ∧ aA bn w' B v l ∧ Below B w w' := by
  have hBle := Nat.le_of_eq HB.out
  go_enter Tryz.func20, Tryz.ntmps20
  go_wp2_with (at_builtin; refine wpList_appEw bn rfl _ _ rfl B N n c _ [] l A rfl rfl (aA.nil _ _) hl hBle ?c1 ?c2 ?_)
  case c1 => simp; unfold maxLen; omega
  case c2 => show (List.length [] + n) * 80 ≤ _; simp; omega
  intro v1 w1 hm1 hg1
  go_wp2
  go_ret
  exact ⟨_, rfl, hm1, (Below.refl _ _).grown hg1 hBle (by simp [Value.ownBlock])⟩
theorem fill_5 : Instr.fill (fun i => some (i * 1, 1)) (cel al).toArray [(0, .int .u8 5)] = some (cel (al.set 0 5)).toArray := by kernel_rfl
theorem run_bldC1 (w : World) : (Instr.build 104 #[(1, blk (al.set 0 5))]).run Tryz.prog w = .ok (clV lvC) w := by kernel_rfl
theorem exec_bldC1 {ρ : Operand → Value} {o : Oper} {y : Operand} {w : World} (ho : o.op = .build 104 #[(1, y)]) (hy : ρ y = blk (al.set 0 5)) : (execOp ρ o).run Tryz.prog w = .ok (.value (clV lvC)) w := by
  unfold execOp
  simp only [ho, List.map_toArray, List.map_cons, List.map_nil, hy, Sem.run_bind, run_bldC1, Result.andThen_ok, Sem.run_pure]
theorem lv_appN : appN lvM1 lvX1 [lvC] = 1 ∧ appX lvM1 lvX1 [lvC] = lvX2 := by
  obtain ⟨h, _⟩ := lv_app
  exact ⟨by unfold appN; rw [if_pos h]; rfl, by unfold appX; rw [if_pos h]; rfl⟩
theorem lv_clrX : clrX lvM2 lvX2 2 = lvX3 := by
  obtain ⟨h, _⟩ := lv_clr
  unfold clrX
  rw [if_pos h]
  rfl
theorem lv_layB : layB lvM3 1 7 40 = lvM3 := if_neg fun e => by
  have h := lv_small
  obtain ⟨_, S, hw⟩ := lv_clr
  have he := hw.is
  obtain ⟨_, _, _, _, e5⟩ := of_decide_eq_true e
  rw [he] at e5
  have : ca ⟨⟨S, [], false⟩ :: lvR, 0, false, 20⟩ 1 = 12 := by
    unfold ca
    rw [if_pos (by simp [dx, lvR])]
    rfl
  omega
set_option maxHeartbeats 1600000 in
theorem llives (C : LogI) (w : World) (T : Tbs w) : Calls Tryz.prog 13 #[] w fun e w' => e = .returned (.bool true) ∧ Below w.heap.size w w' := by
  have HTB := Lib.hid T
  clear T
  go_enter Tryz.func13, Tryz.ntmps13
  go_upto_region 1 with fail
  refine wp_region_lit ?_
  refine ao rfl (au Tryz.call9 rfl (evc evk evn)) ?_
  refine (ltable C.R 50 w (by omega)).mono ?_
  rintro e w1 ⟨q, q2, F, F2, rfl, hb, hb2, hf, hf2, hd, hw⟩
  have HA := Lib.hid (show BAt C w w.heap.size (fun _ => False) w1 q lvM from ⟨F, hb, hf, hw, Bas.start HTB.out, fun _ e => e.elim⟩)
  clear hb hb2 hf hf2 hd hw
  refine ⟨_, rfl, ?_⟩
  simp only [Act.put, aa, ae, af]
  refine ag rfl (ah rfl (ev rfl)) ?_
  simp only [Act.put, aa, ae, af]
  refine ag rfl (aC rfl (ev rfl) rfl) ?_
  simp only [Act.put, aa, ae, af]
  refine ag rfl (aC rfl (ev rfl) rfl) ?_
  simp only [Act.put, aa, ae, af]
  refine ag rfl (aC rfl (ev rfl) rfl) ?_
  simp only [Act.put, aa, ae, af]
  refine ag rfl (aq rfl (ev rfl)) ?_
  simp only [Act.put, aa, ae, af]
  refine ag rfl (aq rfl (ev rfl)) ?_
  simp only [Act.put, aa, ae, af]
  refine ag rfl (aq rfl (ev rfl)) ?_
  simp only [Act.put, aa, ae, af]
  refine wpList_nil ?_
  go_upto_region 4 with fail
  refine wp_region_lit ?_
  refine ag rfl (ah rfl (ev rfl)) ?_
  simp only [Act.put, aa, ae, af]
  refine ao rfl (au Tryz.call22 rfl (evc (ev rfl) (evc evk evn))) ?_
  refine (BAt.open_ 0 HA.out).mono ?_
  rintro e w2 hq
  obtain ⟨rfl, hq, _⟩ := hq.no (by rw [lv_open]; decide)
  rw [lv_open]
  have HA2 := Lib.hid hq
  clear hq HA
  refine ⟨_, rfl, ?_⟩
  simp only [Act.put, aa, ae, af]
  refine ag rfl (ah rfl (ev rfl)) ?_
  simp only [Act.put, aa, ae, af]
  refine ag rfl (aC rfl (ev rfl) rfl) ?_
  simp only [Act.put, aa, ae, af]
  refine ag rfl (aC rfl (ev rfl) rfl) ?_
  simp only [Act.put, aa, ae, af]
  refine ag rfl (aq rfl (ev rfl)) ?_
  simp only [Act.put, aa, ae, af]
  refine ag rfl (aq rfl (ev rfl)) ?_
  simp only [Act.put, aa, ae, af]
  refine wpList_nil ?_
  go_upto_region 5 with fail
  refine wp_region_lit ?_
  refine ag rfl (ah rfl (ev rfl)) ?_
  simp only [Act.put, aa, ae, af]
  refine ao rfl (au Tryz.call35 rfl (evc (ev rfl) (evc evk (evc evk (evc evk evn))))) ?_
  refine (BAt.lay 0 7 40 HA2.out lv_room.1 (by omega)).mono ?_
  rintro e w3 hq
  obtain ⟨p, rfl, hq, _⟩ := hq.yes lv_lay.1
  have HL3 := Lib.hid (show LAt C w w.heap.size (fun _ => False) w3 q p lvM1 lvX1 from hq)
  clear hq HA2
  refine ⟨_, rfl, ?_⟩
  simp only [Act.put, aa, ae, af]
  refine ag rfl (ah rfl (ev rfl)) ?_
  simp only [Act.put, aa, ae, af]
  refine ag rfl (aC rfl (ev rfl) rfl) ?_
  simp only [Act.put, aa, ae, af]
  refine ag rfl (aC rfl (ev rfl) rfl) ?_
  simp only [Act.put, aa, ae, af]
  refine ag rfl (aq rfl (ev rfl)) ?_
  simp only [Act.put, aa, ae, af]
  refine ag rfl (aq rfl (ev rfl)) ?_
  simp only [Act.put, aa, ae, af]
  refine wpList_nil ?_
  go_upto_region 6 with fail
  refine wp_region_lit ?_
  refine ag rfl (ah rfl (ev rfl)) ?_
  simp only [Act.put, aa, ae, af]
  refine ao rfl (au Tryz.call23 rfl (evc (ev rfl) evn)) ?_
  refine (HL3.out.live lv_ok1).mono ?_
  rintro e w4 ⟨rfl, hb⟩
  have HL4 := Lib.hid (HL3.out.below hb)
  rw [show ((lvX1.fst : Nat) : Int) = 1 from rfl, show ((lvX1.next : Nat) : Int) = 1 from rfl]
  clear hb HL3
  refine ⟨_, rfl, ?_⟩
  simp only [Act.put, aa, ae, af]
  refine ag rfl (ah rfl (ev rfl)) ?_
  simp only [Act.put, aa, ae, af]
  refine ag rfl (aC rfl (ev rfl) rfl) ?_
  simp only [Act.put, aa, ae, af]
  refine ag rfl (aC rfl (ev rfl) rfl) ?_
  simp only [Act.put, aa, ae, af]
  refine ag rfl (aq rfl (ev rfl)) ?_
  simp only [Act.put, aa, ae, af]
  refine ag rfl (aq rfl (ev rfl)) ?_
  simp only [Act.put, aa, ae, af]
  refine wpList_nil ?_
  go_upto_region 7 with fail
  refine wp_region_lit ?_
  refine ag rfl (ah rfl (ev rfl)) ?_
  simp only [Act.put, aa, ae, af]
  refine ag rfl (bU rfl fill_5) ?_
  simp only [Act.put, aa, ae, af]
  refine ag rfl (exec_bldC1 rfl (ev rfl)) ?_
  simp only [Act.put, aa, ae, af]
  refine ag rfl (dc (E := bn) (a := lvC) rfl (ev rfl) rfl (by show 66 ≤ _; omega)) ?_
  simp only [Act.put, aa, ae, af]
  have HB5 := Lib.hid ((Below.refl w4.heap.size w4).alloc (Nat.le_refl _) (.cells (cp lvC).toArray 104))
  have HR5 := Lib.hid (rdC_new1 w4 lvC)
  have HS5 : Hid (w4.heap.size + 1 ≤ (w4.alloc (.cells (cp lvC).toArray 104)).heap.size) := Lib.hid (by rw [World.size_alloc]; exact Nat.le_refl _)
  have HL5 := Lib.hid (HL4.out.below ((Below.refl w4.heap.size w4).alloc (Nat.le_refl _) (.cells (cp lvC).toArray 104)))
  change wpList _ _ _ _ _ (w4.alloc (.cells (cp lvC).toArray 104))
  generalize w4.alloc (.cells (cp lvC).toArray 104) = w5 at *
  clear HL4
  refine ao rfl (au Tryz.call19 rfl (evc (ev rfl) (evc (ev rfl) evn))) ?_
  refine (HL5.out.app (some ⟨w4.heap.size, 0, none⟩) 1 1 (w4.heap.size + 1) [lvC] lv_ok1 lv_room.2.1 HR5.out HS5.out (by unfold maxLen; omega)).mono ?_
  rintro e w6 ⟨rfl, hq, _⟩
  rw [lv_appN.1, lv_app.1]
  have HL6 := Lib.hid (show LAt C w w.heap.size (fun _ => False) w6 q p lvM2 lvX2 by rw [← lv_appN.2]; exact hq)
  clear hq HL5 HR5 HS5
  refine ⟨_, rfl, ?_⟩
  simp only [Act.put, aa, ae, af]
  refine ag rfl (ah rfl (ev rfl)) ?_
  simp only [Act.put, aa, ae, af]
  refine ag rfl (aC rfl (ev rfl) rfl) ?_
  simp only [Act.put, aa, ae, af]
  refine ag rfl (aC rfl (ev rfl) rfl) ?_
  simp only [Act.put, aa, ae, af]
  refine ag rfl (aq rfl (ev rfl)) ?_
  simp only [Act.put, aa, ae, af]
  refine ag rfl (aq rfl (ev rfl)) ?_
  simp only [Act.put, aa, ae, af]
  refine wpList_nil ?_
  go_upto_region 8 with fail
  refine wp_region_lit ?_
  refine ag rfl (ah rfl (ev rfl)) ?_
  simp only [Act.put, aa, ae, af]
  refine ao rfl (au Tryz.call31 rfl (evc (ev rfl) evn)) ?_
  refine (HL6.out.free lv_ok2).mono ?_
  rintro e w7 ⟨rfl, hb⟩
  have HL7 := Lib.hid (HL6.out.below hb)
  rw [lv_free2]
  clear hb HL6
  refine ⟨_, rfl, ?_⟩
  simp only [Act.put, aa, ae, af]
  refine ag rfl (aq rfl (ev rfl)) ?_
  simp only [Act.put, aa, ae, af]
  refine wpList_nil ?_
  go_upto_region 9 with fail
  refine wp_region_lit ?_
  refine ag rfl (ah rfl (ev rfl)) ?_
  simp only [Act.put, aa, ae, af]
  refine ao rfl (au Tryz.call24 rfl (evc (ev rfl) (evc evk evn))) ?_
  refine (HL7.out.rec_ 1 lv_ok2 (by omega)).mono ?_
  rintro e w8 ⟨v8, rfl, hm, hb⟩
  rw [lv_rcd.1]
  rw [lv_rcd.2] at hm
  have HL8 := Lib.hid (HL7.out.guard (K' := fun b => v8.ownBlock = some b) hb (fun b e => .inr (hm.own_both b e)))
  have HM8 := Lib.hid hm
  clear hb hm HL7
  refine ⟨_, rfl, ?_⟩
  simp only [Act.put, aa, ae, af]
  refine ag rfl (ah rfl (ev rfl)) ?_
  simp only [Act.put, aa, ae, af]
  refine ag rfl (aC rfl (ev rfl) rfl) ?_
  simp only [Act.put, aa, ae, af]
  refine ag rfl (aC rfl (ev rfl) rfl) ?_
  simp only [Act.put, aa, ae, af]
  refine ag rfl (aq rfl (ev rfl)) ?_
  simp only [Act.put, aa, ae, af]
  refine ag rfl (aq rfl (ev rfl)) ?_
  simp only [Act.put, aa, ae, af]
  refine wpList_nil ?_
  go_upto_region 10 with fail
  refine wp_region_lit ?_
  refine ag rfl (ah rfl (ev rfl)) ?_
  simp only [Act.put, aa, ae, af]
  refine ao rfl (au Tryz.call17 rfl (evc (ev rfl) (evc evk evn))) ?_
  refine (HL8.out.clr 2 lv_ok2 lv_room.2.2 (by omega)).mono ?_
  rintro e w9 ⟨rfl, hq, hkp⟩
  rw [lv_clr.1]
  have HL9 := Lib.hid (show LAt C w w.heap.size _ w9 q p lvM3 lvX3 by rw [← lv_clrX]; exact hq)
  have HM9 := Lib.hid (HM8.out.kept_ hkp)
  clear hq hkp HL8 HM8
  refine ⟨_, rfl, ?_⟩
  simp only [Act.put, aa, ae, af]
  refine ag rfl (aq rfl (ev rfl)) ?_
  simp only [Act.put, aa, ae, af]
  refine wpList_nil ?_
  go_upto_region 11 with fail
  refine wp_region_lit ?_
  refine ag rfl (ah rfl (ev rfl)) ?_
  simp only [Act.put, aa, ae, af]
  refine ao rfl (au Tryz.call24 rfl (evc (ev rfl) (evc evk evn))) ?_
  refine (HL9.out.rec_ 1 lv_ok3 (by omega)).mono ?_
  rintro e wa ⟨v10, rfl, _, hb⟩
  rw [lv_dead]
  have HLa := Lib.hid (HL9.out.below hb)
  have HMa := Lib.hid (HM9.out.below hb)
  clear hb HL9 HM9
  refine ⟨_, rfl, ?_⟩
  simp only [Act.put, aa, ae, af]
  refine ag rfl (ah rfl (ev rfl)) ?_
  simp only [Act.put, aa, ae, af]
  refine ag rfl (aC rfl (ev rfl) rfl) ?_
  simp only [Act.put, aa, ae, af]
  refine ag rfl (aC rfl (ev rfl) rfl) ?_
  simp only [Act.put, aa, ae, af]
  refine ag rfl (aq rfl (ev rfl)) ?_
  simp only [Act.put, aa, ae, af]
  refine ag rfl (aq rfl (ev rfl)) ?_
  simp only [Act.put, aa, ae, af]
  refine wpList_nil ?_
  go_upto_region 12 with fail
  refine wp_region_lit ?_
  refine ag rfl (ah rfl (ev rfl)) ?_
  simp only [Act.put, aa, ae, af]
  refine ao rfl (au Tryz.call35 rfl (evc (ev rfl) (evc evk (evc evk (evc evk evn))))) ?_
  refine (HLa.out.lay 1 7 40 lv_room3 (by omega)).mono ?_
  rintro e wb ⟨hkp, ⟨h0, _⟩ | ⟨_, rfl, hq⟩⟩
  · rw [lv_small] at h0; exact absurd h0 (by decide)
  rw [lv_small]
  have HLb := Lib.hid (show LAt C w w.heap.size _ wb q p lvM3 lvX3 by rw [← lv_layB]; exact hq)
  have HMb := Lib.hid (HMa.out.kept_ hkp)
  clear hq hkp HLa HMa
  obtain ⟨Ab, cb, rfl, hrb, hcb, _⟩ := HMb.out.open_ (show [lvC].length = 1 from rfl)
  have HRb := Lib.hid hrb
  clear hrb HMb
  refine ⟨_, rfl, ?_⟩
  simp only [Act.put, aa, ae, af]
  refine ag rfl (ah rfl (ev rfl)) ?_
  simp only [Act.put, aa, ae, af]
  refine ag rfl (aC rfl (ev rfl) rfl) ?_
  simp only [Act.put, aa, ae, af]
  refine ag rfl (aC rfl (ev rfl) rfl) ?_
  simp only [Act.put, aa, ae, af]
  refine ag rfl (aq rfl (ev rfl)) ?_
  simp only [Act.put, aa, ae, af]
  refine ag rfl (aq rfl (ev rfl)) ?_
  simp only [Act.put, aa, ae, af]
  refine wpList_nil ?_
  go_upto_region 13 with fail
  refine wp_region_lit ?_
  refine ag rfl (ah rfl (ev rfl)) ?_
  simp only [Act.put, aa, ae, af]
  refine ag (v := .bool true) rfl (aI true rfl (ev rfl) evk rfl) ?_
  simp only [Act.put, aa, ae, af]
  refine ag (v := .bool true) rfl (ah rfl (ev rfl)) ?_
  simp only [Act.put, aa, ae, af]
  refine ai (aj rfl rfl rfl rfl) (ah rfl (ev rfl)) ?_
  simp only [Act.put, aa, ae, af]
  refine ai (v := .bool true) (aj rfl rfl rfl rfl) (aI true rfl (ev rfl) evk rfl) ?_
  simp only [Act.put, aa, ae, af]
  refine ag (v := .bool true) rfl (aM rfl (ev rfl) (ev rfl)) ?_
  simp only [Act.put, aa, ae, af]
  refine ag (v := .bool true) rfl (ah rfl (ev rfl)) ?_
  simp only [Act.put, aa, ae, af]
  refine ai (aj rfl rfl rfl rfl) (ah rfl (ev rfl)) ?_
  simp only [Act.put, aa, ae, af]
  refine ai (v := .bool true) (aj rfl rfl rfl rfl) (aI true rfl (ev rfl) evk rfl) ?_
  simp only [Act.put, aa, ae, af]
  refine ag (v := .bool true) rfl (aM rfl (ev rfl) (ev rfl)) ?_
  simp only [Act.put, aa, ae, af]
  refine ag (v := .bool true) rfl (ah rfl (ev rfl)) ?_
  simp only [Act.put, aa, ae, af]
  refine ai (aj rfl rfl rfl rfl) (ah rfl (ev rfl)) ?_
  simp only [Act.put, aa, ae, af]
  refine ai (v := .bool true) (aj rfl rfl rfl rfl) (aI true rfl (ev rfl) evk rfl) ?_
  simp only [Act.put, aa, ae, af]
  refine ag (v := .bool true) rfl (aM rfl (ev rfl) (ev rfl)) ?_
  simp only [Act.put, aa, ae, af]
  refine ag (v := .bool true) rfl (ah rfl (ev rfl)) ?_
  simp only [Act.put, aa, ae, af]
  refine ai (aj rfl rfl rfl rfl) (ah rfl (ev rfl)) ?_
  simp only [Act.put, aa, ae, af]
  refine ai (v := .bool true) (aj rfl rfl rfl rfl) (aI true rfl (ev rfl) evk rfl) ?_
  simp only [Act.put, aa, ae, af]
  refine ag (v := .bool true) rfl (aM rfl (ev rfl) (ev rfl)) ?_
  simp only [Act.put, aa, ae, af]
  refine ag (v := .bool true) rfl (ah rfl (ev rfl)) ?_
  simp only [Act.put, aa, ae, af]
  refine ai (aj rfl rfl rfl rfl) (ah rfl (ev rfl)) ?_
  simp only [Act.put, aa, ae, af]
  refine ai (v := .bool true) (aj rfl rfl rfl rfl) (aI true rfl (ev rfl) evk rfl) ?_
  simp only [Act.put, aa, ae, af]
  refine ag (v := .bool true) rfl (aM rfl (ev rfl) (ev rfl)) ?_
  simp only [Act.put, aa, ae, af]
  refine ag (v := .bool true) rfl (ah rfl (ev rfl)) ?_
  simp only [Act.put, aa, ae, af]
  refine ai (aj rfl rfl rfl rfl) (ah rfl (ev rfl)) ?_
  simp only [Act.put, aa, ae, af]
  refine ai (v := .bool true) (aj rfl rfl rfl rfl) (aI true rfl (ev rfl) evk rfl) ?_
  simp only [Act.put, aa, ae, af]
  refine ag (v := .bool true) rfl (aM rfl (ev rfl) (ev rfl)) ?_
  simp only [Act.put, aa, ae, af]
  refine ag (v := .bool true) rfl (ah rfl (ev rfl)) ?_
  simp only [Act.put, aa, ae, af]
  refine ai (aj rfl rfl rfl rfl) (ah rfl (ev rfl)) ?_
  simp only [Act.put, aa, ae, af]
  refine ai (v := .bool true) (aj rfl rfl rfl rfl) (aI true rfl (ev rfl) evk rfl) ?_
  simp only [Act.put, aa, ae, af]
  refine ag (v := .bool true) rfl (aM rfl (ev rfl) (ev rfl)) ?_
  simp only [Act.put, aa, ae, af]
  refine ag (v := .bool true) rfl (ah rfl (ev rfl)) ?_
  simp only [Act.put, aa, ae, af]
  refine ai (aj rfl rfl rfl rfl) (ah rfl (ev rfl)) ?_
  simp only [Act.put, aa, ae, af]
  refine ai (aj rfl rfl rfl rfl) (bU rfl fill_5) ?_
  simp only [Act.put, aa, ae, af]
  refine ai (aj rfl rfl rfl rfl) (exec_bldC1 rfl (ev rfl)) ?_
  simp only [Act.put, aa, ae, af]
  refine ai (aj rfl rfl rfl rfl) (dc (E := bn) (a := lvC) rfl (ev rfl) rfl (by show 66 ≤ _; omega)) ?_
  simp only [Act.put, aa, ae, af]
  have HB5 := Lib.hid ((Below.refl wb.heap.size wb).alloc (Nat.le_refl _) (.cells (cp lvC).toArray 104))
  have HR5 := Lib.hid (rdC_new1 wb lvC)
  have HS5 : Hid (wb.heap.size + 1 ≤ (wb.alloc (.cells (cp lvC).toArray 104)).heap.size) := Lib.hid (by rw [World.size_alloc]; exact Nat.le_refl _)
  have HL5 := Lib.hid (HLb.out.below ((Below.refl wb.heap.size wb).alloc (Nat.le_refl _) (.cells (cp lvC).toArray 104)))
  change wpList _ _ _ _ _ (wb.alloc (.cells (cp lvC).toArray 104))
  generalize wb.alloc (.cells (cp lvC).toArray 104) = w5 at *
  clear HLb
  have HRc := Lib.hid (HRb.out.step HB5.out)
  refine ao (aj rfl rfl rfl rfl) (au Tryz.call25 rfl (evc (ev rfl) (evc (ev rfl) evn))) ?_
  refine (cells_any Ab (some ⟨wb.heap.size, 0, none⟩) 1 1 cb 1 w5.heap.size [lvC] [lvC] w5 HRc.out (HR5.out.more HS5.out) (Nat.le_refl _) (by unfold maxLen; omega)).mono ?_
  rintro e w12 ⟨rfl, hb⟩
  rw [show decide ([lvC] = [lvC]) = true from decide_eq_true rfl]
  have HLc := Lib.hid (HL5.out.below hb)
  clear hb
  refine ⟨_, rfl, ?_⟩
  simp only [Act.put, aa, ae, af]
  refine ag (v := .bool true) rfl (aM rfl (ev rfl) (ev rfl)) ?_
  simp only [Act.put, aa, ae, af]
  refine ag (v := .bool true) rfl (ah rfl (ev rfl)) ?_
  simp only [Act.put, aa, ae, af]
  refine ai (aj rfl rfl rfl rfl) (ah rfl (ev rfl)) ?_
  simp only [Act.put, aa, ae, af]
  refine ai (v := .bool true) (aj rfl rfl rfl rfl) (aI true rfl (ev rfl) evk rfl) ?_
  simp only [Act.put, aa, ae, af]
  refine ag (v := .bool true) rfl (aM rfl (ev rfl) (ev rfl)) ?_
  simp only [Act.put, aa, ae, af]
  refine ag (v := .bool true) rfl (ah rfl (ev rfl)) ?_
  simp only [Act.put, aa, ae, af]
  refine ai (aj rfl rfl rfl rfl) (ah rfl (ev rfl)) ?_
  simp only [Act.put, aa, ae, af]
  refine ao (aj rfl rfl rfl rfl) (au Tryz.call31 rfl (evc (ev rfl) evn)) ?_
  refine (HLc.out.free lv_ok3).mono ?_
  rintro e w13 ⟨rfl, hb⟩
  have HLd := Lib.hid (HLc.out.below hb)
  rw [lv_free3]
  clear hb HLc
  refine ⟨_, rfl, ?_⟩
  simp only [Act.put, aa, ae, af]
  refine ai (v := .bool true) (aj rfl rfl rfl rfl) (aI true rfl (ev rfl) evk rfl) ?_
  simp only [Act.put, aa, ae, af]
  refine ag (v := .bool true) rfl (aM rfl (ev rfl) (ev rfl)) ?_
  simp only [Act.put, aa, ae, af]
  refine ag (v := .bool true) rfl (ah rfl (ev rfl)) ?_
  simp only [Act.put, aa, ae, af]
  refine ai (aj rfl rfl rfl rfl) (ah rfl (ev rfl)) ?_
  simp only [Act.put, aa, ae, af]
  refine ai (v := .bool true) (aj rfl rfl rfl rfl) (aI true rfl (ev rfl) evk rfl) ?_
  simp only [Act.put, aa, ae, af]
  refine ag (v := .bool true) rfl (aM rfl (ev rfl) (ev rfl)) ?_
  simp only [Act.put, aa, ae, af]
  refine ag (v := .bool true) rfl (ah rfl (ev rfl)) ?_
  simp only [Act.put, aa, ae, af]
  refine ai (aj rfl rfl rfl rfl) (ah rfl (ev rfl)) ?_
  simp only [Act.put, aa, ae, af]
  refine ai (v := .bool true) (aj rfl rfl rfl rfl) (aI true rfl (ev rfl) evk rfl) ?_
  simp only [Act.put, aa, ae, af]
  refine ag (v := .bool true) rfl (aM rfl (ev rfl) (ev rfl)) ?_
  simp only [Act.put, aa, ae, af]
  refine ag (v := .bool true) rfl (aq rfl (ev rfl)) ?_
  simp only [Act.put, aa, ae, af]
  refine wpList_nil ?_
  go_wp2_with fail
  go_ret
  exact ⟨rfl, HLd.out.bel⟩
theorem pheads (n : Nat) (w : World) (h : n ≤ 1000) : Calls Tryz.prog 161 #[.int .i64 (n : Int)] w fun e w' => e = .returned (.int .i64 (hd n : Nat)) ∧ w = w' := by
  go_enter Tryz.func161, Tryz.ntmps161
  go_wp2
  go_ret
  refine ⟨aQ ?_, rfl⟩
  unfold hd
  omega
theorem psize (n : Int) (w : World) : Calls Tryz.prog 115 #[.int .i64 n] w fun e w' => e = .returned (.int .i64 (sizN n : Nat)) ∧ w = w' := by
  by_cases h1 : n < 1
  · have HS := Lib.hid (sizN_no (.inl h1))
    go_enter Tryz.func115, Tryz.ntmps115
    go_wp2
    go_ret
    exact ⟨by rw [HS.out]; rfl, rfl⟩
  · by_cases h2 : 32 < n
    · have HS := Lib.hid (sizN_no (.inr h2))
      go_enter Tryz.func115, Tryz.ntmps115
      go_wp2
      go_ret
      exact ⟨by rw [HS.out]; rfl, rfl⟩
    · obtain ⟨k, rfl⟩ := Int.eq_ofNat_of_zero_le (show 0 ≤ n by omega)
      have hk1 : 1 ≤ k := by omega
      have hk2 : k ≤ 32 := by omega
      have HS := Lib.hid (sizN_of hk1 hk2)
      have hh : hd k ≤ 2 := by unfold hd; omega
      clear h1 h2
      go_enter Tryz.func115, Tryz.ntmps115
      go_wp2_with fail
      refine (pheads k w (by omega)).mono ?_
      rintro e w' ⟨rfl, rfl⟩
      go_wp2
      go_ret
      exact ⟨by rw [HS.out]; simp, rfl⟩
end Go.Proofs.YtcafafdimcecpaaGreatDoor
