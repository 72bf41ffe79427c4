import Derived.Test.YtcafafdimcecpaaGreatDoorNlag
import Derived.Test.YtcafafdimcecpaaGreatDoorNlaa
import Derived.Test.YtcafafdimcecpaaGreatDoorNlad
import Derived.Deep.DeepCutAuto
import Derived.Test.YtcafafdimcecpaaGreatDoorNlab
import Derived.Test.YtcafafdimcecpaaGreatDoorNlac
import Derived.Test.YtcafafdimcecpaaGreatDoorNlae
import Derived.Test.YtcafafdimcecpaaGreatDoorNlZ
namespace Go.Proofs.YtcafafdimcecpaaGreatDoor
open Go.RowKit
set_option linter.unusedVariables false
set_option maxRecDepth 100000
section
variable {w w' : World}
set_option maxHeartbeats 2000000 in
theorem c_new {A : Option Addr} {n c : Nat} {ks : List Int} (hl : RdE dm w w.heap.size A n ks) (hnc : n ≤ c) (hc : c ≤ maxLen) :
    Calls Tryz.prog 38 #[.slice A n c] w (dS bH w ks) := by
  have hlen : ks.length = n := hl.1
  unfold maxLen at hc
  by_cases h1 : n < 1
  · have HN := Lib.hid (show ¬ newOk ks from fun h => by have := h.1; omega)
    have h0 : n = 0 := by omega
    subst h0
    clear hl hlen h1
    go_enter Tryz.func38, Tryz.ntmps38
    go_wp2
    go_ret2
    exact dS.no (Below.refl _ _) HN.out rfl
  by_cases h2 : 17 < n
  · have HN := Lib.hid (show ¬ newOk ks from fun h => by have := h.2.1; omega)
    have h1' : ¬((n : Int) < 1) := by omega
    have h2' : ((n : Int) > 17) := by omega
    clear hl hlen h1 h2
    go_enter Tryz.func38, Tryz.ntmps38
    go_wp2
    go_ret2
    exact dS.no (Below.refl _ _) HN.out rfl
  have h1' : ¬((n : Int) < 1) := by omega
  have h2' : ¬((n : Int) > 17) := by omega
  have h3' : ¬(17 < (n : Int)) := by omega
  have HL := Lib.hid hl
  have HLEN := Lib.hid hlen
  have HMK := Lib.hid (show Making bH w (w.alloc (.cells #[.slice none 0 0, .int .i64 0, .bool false, .int .i64 0] 136)) (.slice none 0 0) (fun _ _ => False) [] [] 0 false 0 from
    ⟨heap_alloc_new w _, aB.nil _ _, ⟨rfl, fun i hi => absurd hi (Nat.not_lt_zero i), fun i j hi => absurd hi (Nat.not_lt_zero i)⟩, fun i hi => absurd hi (Nat.not_lt_zero i), (Below.refl _ w).alloc (Nat.le_refl _) _⟩)
  clear hl hlen
  go_enter Tryz.func38, Tryz.ntmps38
  go_wp2_with fail
  generalize w.alloc (.cells #[.slice none 0 0, .int .i64 0, .bool false, .int .i64 0] 136) = w0 at *
  clear h1' h2' h3'
  go_loopw [5] (fun i wr => ∃ (j : Nat) (v : Value) (Fs : Nat → Nat → Prop) (ps : List Nat), j ≤ n ∧ i = .int .i64 j ∧ Making bH w wr v Fs ps ((ks.take j).map newD) 0 false 0 ∧ ∀ q, q < j → 1 ≤ ks.getD q 0 ∧ ks.getD q 0 ≤ 512) (fun i _ => n - (intOf i).toNat)
  case atStart => exact ⟨0, _, _, _, Nat.zero_le _, rfl, HMK.out, fun q hq => absurd hq (Nat.not_lt_zero q)⟩
  case round =>
    obtain ⟨j, v, Fs, ps, hj, rfl, hmk, hall⟩ := hrel
    have HALL := Lib.hid hall
    clear hall HMK
    by_cases hlt : j < n
    · have hlj : (j : Int) < (n : Int) := by omega
      obtain ⟨bA, oA, rfl, hbA, hcA⟩ := (HL.out.below hmk.below).int hlt
      have HM := Lib.hid hmk
      obtain ⟨AS, cS, rfl, hs1, hs2⟩ := hmk.row.form
      unfold maxLen at hs2
      have hpl : ps.length = j := by have := hmk.devs.len; rw [List.length_map, List.length_take] at this; have := HLEN.out; omega
      have HPL := Lib.hid hpl
      obtain ⟨z, hz⟩ : ∃ z, ks.getD j 0 = z := ⟨_, rfl⟩
      rw [hz] at hcA
      have HZ := Lib.hid hz
      clear hmk hz hpl
      by_cases hok : 1 ≤ z ∧ z ≤ 512
      · obtain ⟨k, rfl⟩ : ∃ k : Nat, z = k := ⟨z.toNat, by omega⟩
        have hk1 : 1 ≤ k := by omega
        have hk2 : k ≤ 512 := by omega
        clear hok
        go_wp2_with fail
        refine (rv_new k wr hk1 hk2).mono ?_
        rintro e w1 ⟨p', F', rfl, hd1, hb1, hF1⟩
        have hat1 := bx HM.out.at_ hb1
        obtain ⟨c0, c1, c2, c3⟩ := r4cells hat1
        have hrow1 := HM.out.row.below hb1
        have hrow2 := hrow1.below ((Below.refl _ w1).alloc (Nat.le_refl _) (.cells (bH.E.cel p').toArray bH.E.t))
        have HR := Lib.hid hrow2
        have HNEW := Lib.hid (eF (E := bH.E) (l := [p']) w1 (bH.E.cel p').toArray bH.E.t (by rw [dp]; simp [bf]))
        have HSZ := Lib.hid (show w.heap.size ≤ (w1.alloc (.cells (bH.E.cel p').toArray bH.E.t)).heap.size by rw [World.size_alloc]; have := HM.out.below.size; have := hb1.size; omega)
        have HD1 := Lib.hid hd1
        have HB1 := Lib.hid hb1
        have HF1 := Lib.hid hF1
        have HAT := Lib.hid hat1
        have HPS := Lib.hid (show ps.length + 1 ≤ 34359738368 by have := HPL.out; omega)
        clear hd1 hb1 hF1 hat1 hrow1 hrow2
        have hal : w.heap.size < w1.heap.size := aP HAT.out
        go_wp2_with (first | (refine ai rfl (dv (E := bH.E) (a := p') rfl rfl rfl (by decide)) ?_) | (at_builtin; refine wpList_appE_own bH.E rfl _ _ rfl w.heap.size _ _ _ _ ps [p'] _ rfl rfl HR.out HNEW.out HSZ.out HPS.out ?_) | fail)
        intro v' w3 hm3 hg3 ho3
        have hxv : v'.ownBlock ≠ some w.heap.size := fun e => by
          rcases ho3 _ e with e' | e'
          · exact HM.out.row.cq HM.out.at_ bH.ne e'
          · omega
        have HNX := Lib.hid (HM.out.next (fun _ _ => rfl) HB1.out HF1.out (d := newD k) HD1.out hm3 hg3 ho3)
        have hvx : (Value.slice AS ps.length cS).ownBlock ≠ some w.heap.size := HM.out.row.cq HM.out.at_ bH.ne
        have hat3 : w3.heap[w.heap.size]? = some _ := (hg3.block w.heap.size (by rw [World.size_alloc]; omega) (fun e => hvx e.symm)).trans (bJ HAT.out _)
        obtain ⟨AV, cV, rfl, _, _⟩ := hm3.form
        obtain ⟨d0, d1, d2, d3⟩ := r4cells hat3
        have f0 := frozen_of_row w3 w.heap.size 0 _ _ hat3
        clear hm3 hg3 ho3 hat3 c0 c1 c2 c3
        go_wp2_with fail
        go_roundw
        case rel =>
          refine ⟨j + 1, .slice AV (ps.length + 1) cV, upF Fs (List.map newD (List.take j ks)).length F', ps ++ [p'], by omega, by go_num, ?_, fun q hq => ?_⟩
          · rw [take_map_succ (by have := HLEN.out; omega), HZ.out]
            have h6 := HNX.out
            rw [show (ps ++ [p']).length = ps.length + 1 from by simp] at h6
            exact h6
          · by_cases e : q = j
            · subst e; rw [HZ.out]; omega
            · exact HALL.out q (by omega)
        case measure => simp [intOf]; omega
      · have HB := Lib.hid HM.out.below
        have HN := Lib.hid (show ¬ newOk ks from fun h => hok (by have := h.2.2 z (by rw [← HZ.out]; exact getD_mem (by have := HLEN.out; omega)); exact this))
        go_wp2_with fail
        refine (r_new_no z wr hok).mono ?_
        rintro e w1 ⟨rfl, rfl⟩
        have HB1 := Lib.hid HB.out
        clear hok
        go_wp2_with fail
        go_ret2
        exact dS.no HB1.out HN.out rfl
    · have hjn : j = n := by omega
      subst hjn
      have hlj : ¬((j : Int) < (j : Int)) := by omega
      have HM := Lib.hid hmk
      clear hmk
      go_wp2_with fail
      go_ret2
      have h5 := HM.out
      have hLL := HLEN.out
      rw [← hLL, List.take_length] at h5
      obtain ⟨g1, g2, g3⟩ := h5.done (by rw [List.length_map]; omega) (by rw [List.length_map]; omega)
      refine ⟨g3, .inl ⟨⟨by omega, by omega, fun k hk => ?_⟩, _, _, _, _, rfl, g1, g2⟩⟩
      obtain ⟨i, hi, rfl⟩ := List.getElem_of_mem hk
      have := HALL.out i (by omega)
      rwa [List.getD_eq_getElem?_getD, List.getElem?_eq_getElem hi] at this
end
def rIds : BIds where
  read := 88
  write := 28
  flush := 105
  fail := 44
  insert := 46
  arm := 40
  crash := 41
  sure := 51
  rot := 42
  ef := 49
  b9 := 54
  steps := 53
def RB (w : World) (F : Nat → Prop) (p : Nat) (M : BenS) : Prop := InB bH w F p M ∧ M.Wf
theorem lens_put {M : BenS} {k : Nat} {d : DevS} (h : M.Wf) (hd : d.S.length = (M.ds.getD k bk).S.length) : (M.put k d).Wf := by
  refine ⟨by rw [M.put_len]; exact h.one, by rw [M.put_len]; exact h.cap, fun i hi => ?_⟩
  rw [M.put_len] at hi
  show 1 ≤ ((M.ds.set k d).getD i bk).S.length ∧ ((M.ds.set k d).getD i bk).S.length ≤ 512
  by_cases e : i = k
  · subst e; rw [cw hi, hd]; exact h.len i hi
  · rw [bl e]; exact h.len i hi
theorem wf_done {M : BenS} (h : M.Wf) : M.done.Wf := ⟨h.one, h.cap, h.len⟩
theorem wf_night {M : BenS} (h : M.Wf) : M.night.Wf := ⟨h.one, h.cap, h.len⟩
theorem wf_wr {M : BenS} (h : M.Wf) (d n : Int) (b : Blk) : (wrS6 M d n b).Wf := by
  unfold wrS6
  split
  · split
    · exact wf_night h
    · exact lens_put (wf_done h) rfl
  · exact h
theorem wf_fl {M : BenS} (h : M.Wf) (d : Int) : (flS6 M d).Wf := by
  unfold flS6
  split
  · split
    · exact wf_night h
    · exact lens_put (wf_done h) (by rw [eZ]; rfl)
  · exact h
theorem wf_fa {M : BenS} (h : M.Wf) (d : Int) : (faS6 M d).Wf := by
  unfold faS6
  split
  · exact lens_put h rfl
  · exact h
theorem wf_in {M : BenS} (h : M.Wf) (d : Int) : (inS6 M d).Wf := by
  unfold inS6
  split
  · exact lens_put h (by rw [List.length_replicate]; rfl)
  · exact h
theorem wf_ar {M : BenS} (h : M.Wf) (n : Int) : (arS6 M n).Wf := by
  unfold arS6
  split
  · exact ⟨h.one, h.cap, h.len⟩
  · exact h
theorem wf_ro {M : BenS} (h : M.Wf) (d n i : Int) (u : UInt8) : (roS6 M d n i u).Wf := by
  unfold roS6
  split
  · exact lens_put h (by rw [rotS_len]; rfl)
  · exact h
theorem crAll_at : ∀ (ds : List DevS) (P : List Int) (i : Nat), ((crAll ds P).getD i bk).S.length = (ds.getD i bk).S.length
  | [], P, i => rfl
  | d :: ds, P, 0 => crI_len _ _ _ _
  | d :: ds, P, i + 1 => crAll_at ds _ i
theorem crAll_len (ds : List DevS) (P : List Int) : (crAll ds P).length = ds.length := by rw [← crIn_all, eM]
theorem wf_cr {M : BenS} (h : M.Wf) (P : List Int) : (crS6 M P).Wf := by
  refine ⟨by show 1 ≤ (crAll M.ds P).length; rw [crAll_len]; exact h.one, by show (crAll M.ds P).length ≤ 17; rw [crAll_len]; exact h.cap, fun i hi => ?_⟩
  have hi' : i < M.ds.length := by have : i < (crAll M.ds P).length := hi; rwa [crAll_len] at this
  show 1 ≤ ((crAll M.ds P).getD i bk).S.length ∧ ((crAll M.ds P).getD i bk).S.length ≤ 512
  rw [crAll_at]
  exact h.len i hi'
theorem wf_new {ks : List Int} (h : newOk ks) : (newS6 ks).Wf := by
  refine ⟨by rw [newS6_ds, List.length_map]; exact h.1, by rw [newS6_ds, List.length_map]; exact h.2.1, fun i hi => ?_⟩
  rw [newS6_ds, List.length_map] at hi
  have : ((newS6 ks).ds.getD i bk) = newD (ks.getD i 0) := by
    rw [newS6_ds, List.getD, List.getD, List.getElem?_map, List.getElem?_eq_getElem hi]; rfl
  rw [this]
  have h2 := h.2.2 _ (getD_mem (x := 0) hi)
  show 1 ≤ (List.replicate _ _).length ∧ (List.replicate _ _).length ≤ 512
  rw [List.length_replicate]
  omega
def rBen : Ben rIds where
  Bn := RB
  lt := fun h => h.1.lt
  only := fun h ho hn => ⟨h.1.only ho hn, h.2⟩
  wf := fun h => h.2
  read := fun d n ⟨⟨_, _, _, _, h⟩, _⟩ => c_read d n h
  sure := fun d n ⟨⟨_, _, _, _, h⟩, _⟩ => c_sure d n h
  write := fun d n b hr ⟨⟨_, _, _, e, h⟩, hw⟩ => by
    subst e
    exact (c_write d n b h (fun i hi => hr.at_ hi) (by have := hr.1; omega) hr.2.1).mono fun e w' ⟨h1, h2⟩ => ⟨h1, by obtain ⟨F', g1, g2⟩ := h2.out; exact ⟨F', ⟨g1, wf_wr hw _ _ _⟩, g2⟩⟩
  flush := fun d hr ⟨⟨_, _, _, e, h⟩, hw⟩ => by
    subst e
    exact (c_flush d h (by have := hr.1; omega) hr.2.1).mono fun e w' ⟨h1, h2⟩ => ⟨h1, by obtain ⟨F', g1, g2⟩ := h2.out; exact ⟨F', ⟨g1, wf_fl hw _⟩, g2⟩⟩
  fail := fun d ⟨⟨_, _, _, e, h⟩, hw⟩ => by
    subst e
    exact (c_fail d h).mono fun e w' ⟨h1, h2⟩ => ⟨h1, by obtain ⟨F', g1, g2⟩ := h2.out; exact ⟨F', ⟨g1, wf_fa hw _⟩, g2⟩⟩
  insert := fun d ⟨⟨_, _, _, e, h⟩, hw⟩ => by
    subst e
    exact (c_insert d h hw.len).mono fun e w' ⟨h1, h2⟩ => ⟨h1, by obtain ⟨F', g1, g2⟩ := h2.out; exact ⟨F', ⟨g1, wf_in hw _⟩, g2⟩⟩
  arm := fun {w F p M} n ⟨⟨_, _, _, e, h⟩, hw⟩ => by
    subst e
    exact (c_arm n h).mono fun e w' ⟨h1, h2, h3⟩ => ⟨h1, by obtain ⟨F', g1, g2⟩ := (Left.obj h2 h3 (n := M.ds.length) (by unfold arS6; split <;> rfl)).out; exact ⟨F', ⟨g1, wf_ar hw _⟩, g2⟩⟩
  crash := fun hP ⟨⟨_, _, _, e, h⟩, hw⟩ => by
    subst e
    exact (c_crash h hP).mono fun e w' ⟨h1, h2⟩ => ⟨h1, by obtain ⟨F', g1, g2⟩ := h2.out; exact ⟨F', ⟨g1, wf_cr hw _⟩, g2⟩⟩
  rot := fun d n i u ⟨⟨_, _, _, e, h⟩, hw⟩ => by
    subst e
    exact (c_rot d n i u h).mono fun e w' ⟨h1, h2⟩ => ⟨h1, by obtain ⟨F', g1, g2⟩ := h2.out; exact ⟨F', ⟨g1, wf_ro hw _ _ _ _⟩, g2⟩⟩
  ef := fun d ⟨⟨_, _, _, _, h⟩, _⟩ => (c_sectors d h).mono fun e w' ⟨h1, h2⟩ => ⟨h1, by subst h2; exact Below.refl _ _⟩
  b9 := fun ⟨⟨_, _, _, _, h⟩, _⟩ => (c_dark h).mono fun e w' ⟨h1, h2⟩ => ⟨h1, by subst h2; exact Below.refl _ _⟩
  steps := fun ⟨⟨_, _, _, _, h⟩, _⟩ => (c_steps h).mono fun e w' ⟨h1, h2⟩ => ⟨h1, by subst h2; exact Below.refl _ _⟩
structure BenR extends Ben rIds where
  new : ∀ {w A n c ks}, RdE dm w w.heap.size A n ks → n ≤ c → c ≤ maxLen → Calls Tryz.prog 38 #[.slice A n c] w (NewB Bn w ks)
def refBen : BenR where
  toBen := rBen
  new := fun h1 h2 h3 => (c_new h1 h2 h3).mono fun e w' h => by
    obtain ⟨g1, g | g⟩ := h
    · obtain ⟨g0, p, v, Fs, ps, g2, g3, g4⟩ := g
      exact ⟨g1, .inl ⟨g0, p, _, g2, ⟨⟨v, Fs, ps, rfl, g3⟩, wf_new g0⟩, g4⟩⟩
    · exact ⟨g1, .inr g⟩
def unw (ops : Array Oper) : List Oper → Act → Bool
  | [], _ => true
  | r :: rs, a => !(Region.wanted r (yielded ops a.tmps)) && unw ops rs (a.put r.dst undef)
def br : List Oper → Act → Act
  | [], a => a
  | r :: rs, a => br rs (a.put r.dst undef)
section
variable {P : Program} {ops : Array Oper} {rest l : List Oper} {o : Oper} {a : Act} {w w' : World} {Q : Exit → Act → World → Prop} {v : Value}
theorem wpList_unw : ∀ (rs : List Oper) (a : Act), unw ops rs a = true → wpList P ops Q rest (br rs a) w → wpList P ops Q (rs ++ rest) a w
  | [], _, _, h => h
  | r :: rs, a, hu, h => by
    simp only [unw, Bool.and_eq_true, Bool.not_eq_true'] at hu
    refine wpList_step fun K hK => ?_
    rw [if_neg (by rw [hu.1]; exact Bool.false_ne_true)]
    exact hK _ _ (wpList_unw rs _ hu.2 h)
theorem aX (n : Nat) (hw : Region.wanted o (yielded ops a.tmps) = true) (h : (execOp a.eval o).run P w = .ok (.value v) w') (hu : unw ops (l.take n) (a.put o.dst v) = true) (hr : wpList P ops Q (l.drop n) (br (l.take n) (a.put o.dst v)) w') : wpList P ops Q (o :: l) a w :=
  ai hw h (by have := wpList_unw (P := P) (Q := Q) (l.take n) _ hu hr; rwa [List.take_append_drop] at this)
end
set_option linter.unusedSimpArgs false
def celP (s m : Int) : List Value := [.int .i64 s, .int .i64 m]
def plV (s m : Int) : Value := .agg (celP s m).toArray
def cm (c : Cl) : List Value := .int .i64 c.s :: .int .i64 c.m :: cel c.b
def clV (c : Cl) : Value := .agg (cm c).toArray
theorem dH (c : Cl) : (cm c).length = 66 := by simp [cm, aw]
theorem celC_one (c : Cl) : ∀ v ∈ cm c, v.oneCell' = true := by
  intro v hv
  simp only [cm, List.mem_cons] at hv
  rcases hv with rfl | rfl | hv
  · rfl
  · rfl
  · exact cel_one c.b v hv
theorem celP_one (s m : Int) : ∀ v ∈ celP s m, v.oneCell' = true := by
  intro v hv
  simp only [celP, List.mem_cons, List.not_mem_nil, or_false] at hv
  rcases hv with rfl | rfl <;> rfl
theorem sizeC : (Tryz.prog.info? 104).map (·.size) = some 66 := by kernel_rfl
theorem sizeP : (Tryz.prog.info? 102).map (·.size) = some 2 := by kernel_rfl
theorem infoC : (Tryz.prog.info? 104).map (fun i => (i.zero, i.size, i.bytes)) = some (some (clV b7), 66, 80) := by kernel_rfl
theorem zeroC_info : (Tryz.prog.info? 104).map (fun i => i.zero) = some (some (.agg (cm b7).toArray)) := by kernel_rfl
theorem zeroP_info : (Tryz.prog.info? 102).map (fun i => i.zero) = some (some (.agg (celP 0 0).toArray)) := by kernel_rfl
def bG : Elt Cl where
  s := 34
  t := 104
  n := 66
  by_ := 80
  cel := cm
  d := b7
  z := clV b7
  pos := by omega
  small := by omega
  len := dH
  one := celC_one
  und := Tryz.underlying34
  info := infoC
  zc := by show (Value.cells (.agg _)).size = 66; simp [Value.cells, dH]
theorem RdE.cl {w : World} {B n k : Nat} {A : Option Addr} {l : List Cl} (h : RdE bG w B A n l) (hk : k < n) : ∃ b off, A = some ⟨b, off, none⟩ ∧ b < B ∧ w.rangeAt b (off + k * 66) (cm (l.getD k b7)) := h.2 k hk
section
variable {w : World} {b off : Nat} {c : Cl}
theorem cl_place (h : w.rangeAt b off (cm c)) : w.rangeAt b off (celP c.s c.m) := by
  have := rng_sub (ds := []) (es := celP c.s c.m) (fs := cel c.b) (k := 0) h rfl rfl
  rwa [Nat.add_zero] at this
theorem cl_blk (h : w.rangeAt b off (cm c)) : w.rangeAt b (off + 2) (cel c.b) := rng_sub (ds := celP c.s c.m) (es := cel c.b) (fs := []) (k := 2) h (by simp [cm, celP]) rfl
theorem pl_cells {s m : Int} (h : w.rangeAt b off (celP s m)) : w.cell? ⟨b, off, none⟩ = some (.int .i64 s) ∧ w.cell? ⟨b, off + 1, none⟩ = some (.int .i64 m) := by
  have h0 := h 0 _ rfl
  rw [Nat.add_zero] at h0
  exact ⟨h0, h 1 _ rfl⟩
end
section
variable {ρ : Operand → Value} {o : Oper} {x y : Operand} {w : World} {b off : Nat} {c d : Cl} {s m s' m' : Int} {t : TypeId}
theorem ex (ho : o.op = .load 104 x) (hx : ρ x = .pointer (some ⟨b, off, none⟩)) (hc : w.rangeAt b off (cm c)) : (execOp ρ o).run Tryz.prog w = .ok (.value (clV c)) w :=
  dI Tryz.underlying104 rfl (by rw [dH]; exact sizeC) ho hx hc
theorem eN (ho : o.op = .load 102 x) (hx : ρ x = .pointer (some ⟨b, off, none⟩)) (hc : w.rangeAt b off (celP s m)) : (execOp ρ o).run Tryz.prog w = .ok (.value (plV s m)) w :=
  dI Tryz.underlying102 rfl sizeP ho hx hc
theorem exec_boxC (ho : o.op = .box 104 x) (hx : ρ x = clV c) : (execOp ρ o).run Tryz.prog w = .ok (.value (.pointer (some ⟨w.heap.size, 0, none⟩))) (w.alloc (.cells (cm c).toArray 104)) := er ho hx
theorem exec_allocC (ho : o.op = .alloc 104) : (execOp ρ o).run Tryz.prog w = .ok (.value (.pointer (some ⟨w.heap.size, 0, none⟩))) (w.alloc (.cells (cm b7).toArray 104)) := dl zeroC_info ho
theorem ee (ho : o.op = .alloc 102) : (execOp ρ o).run Tryz.prog w = .ok (.value (.pointer (some ⟨w.heap.size, 0, none⟩))) (w.alloc (.cells (celP 0 0).toArray 102)) := dl zeroP_info ho
theorem exec_fillC (ho : o.op = .store 104 x y) (hx : ρ x = .pointer (some ⟨w.heap.size, 0, none⟩)) (hy : ρ y = clV c) : (execOp ρ o).run Tryz.prog (w.alloc (.cells (cm d).toArray 104)) = .ok .skip (w.alloc (.cells (cm c).toArray 104)) :=
  d5 (by rw [dH]; exact sizeC) (by rw [dH, dH]) (celC_one c) ho hx hy
theorem eU (ho : o.op = .store 102 x y) (hx : ρ x = .pointer (some ⟨w.heap.size, 0, none⟩)) (hy : ρ y = plV s m) : (execOp ρ o).run Tryz.prog (w.alloc (.cells (celP s' m').toArray 102)) = .ok .skip (w.alloc (.cells (celP s m).toArray 102)) :=
  d5 sizeP rfl (celP_one s m) ho hx hy
theorem faC0 : (Instr.fieldAt 104 (.pointer (some ⟨b, off, none⟩)) 0).run Tryz.prog w = .ok (.pointer (some ⟨b, off, none⟩)) w := by kernel_rfl
theorem faC1 : (Instr.fieldAt 104 (.pointer (some ⟨b, off, none⟩)) 1).run Tryz.prog w = .ok (.pointer (some ⟨b, off + 2, none⟩)) w := by kernel_rfl
theorem faPl0 : (Instr.fieldAt 102 (.pointer (some ⟨b, off, none⟩)) 0).run Tryz.prog w = .ok (.pointer (some ⟨b, off, none⟩)) w := by kernel_rfl
theorem faPl1 : (Instr.fieldAt 102 (.pointer (some ⟨b, off, none⟩)) 1).run Tryz.prog w = .ok (.pointer (some ⟨b, off + 1, none⟩)) w := by kernel_rfl
end
theorem run_eqP (w : World) (s m s' m' : Int) (d : Nat) : (Op.equalIn (d + 2) 102 (plV s m) (plV s' m')).run Tryz.prog w = .ok (decide (s = s' ∧ m = m')) w := by
  have he : ∀ x y : Int, (Op.equalIn (d + 1) 3 (.int .i64 x) (.int .i64 y)).run Tryz.prog w = .ok (x == y) w := fun x y => run_equalIn_int w d 3 .i64 .i64 x y Tryz.underlying3
  unfold plV
  rw [show d + 2 = (d + 1) + 1 from rfl, run_equalIn_struct w (d + 1) 102 _ _ (by kernel_rfl) (by kernel_rfl)]
  simp only [Program.fieldsOf, Tryz.underlying102, Op.eqFields, celP]
  simp [part, he]
  by_cases h1 : s = s' <;> by_cases h2 : m = m' <;> simp [h1, h2]
theorem partC_0 (w : World) (c : Cl) : (part 102 (cm c).toArray 0).run Tryz.prog w = .ok (plV c.s c.m) w := by
  simp [part, plV, cm, celP]
theorem partC_1 (w : World) (c : Cl) : (part 65 (cm c).toArray 2).run Tryz.prog w = .ok (blk c.b) w := by
  have h : ((cm c).drop 2).take 64 = cel c.b := List.take_of_length_le (by simp [cm, aw])
  simp [part, blk, h]
theorem cl_ext {a b : Cl} (h1 : a.s = b.s ∧ a.m = b.m) (h2 : a.b = b.b) : a = b := by
  obtain ⟨s, m, x⟩ := a
  obtain ⟨s', m', x'⟩ := b
  obtain ⟨rfl, rfl⟩ := h1
  obtain rfl := h2
  rfl
theorem run_eqC (w : World) (a b : Cl) (d : Nat) : (Op.equalIn (d + 3) 104 (clV a) (clV b)).run Tryz.prog w = .ok (decide (a = b)) w := by
  have hb := run_eqB w a.b b.b d
  have hp := run_eqP w a.s a.m b.s b.m d
  unfold clV
  rw [show d + 3 = (d + 2) + 1 from rfl, run_equalIn_struct w (d + 2) 104 _ _ (by kernel_rfl) (by kernel_rfl)]
  simp only [Program.fieldsOf, Tryz.underlying104]
  rw [eqF_step ?_ (partC_0 w a) (partC_0 w b) hp]
  rotate_left
  · simp
  rw [eqF_step ?_ (partC_1 w a) (partC_1 w b) hb]
  rotate_left
  · simp
  rw [eqF_nil]
  clear hb hp
  by_cases k1 : a.s = b.s ∧ a.m = b.m
  · by_cases k2 : a.b = b.b
    · rw [decide_eq_true k1, decide_eq_true k2, decide_eq_true (cl_ext k1 k2)]
      simp
    · rw [decide_eq_true k1, decide_eq_false k2, decide_eq_false (fun e : a = b => k2 (by rw [e]))]
      simp
  · rw [decide_eq_false k1, decide_eq_false (fun e : a = b => k1 (by rw [e]; exact ⟨rfl, rfl⟩))]
    simp
theorem guardC : Tryz.prog.eqGuardType Tryz.prog.depth 104 = false := by kernel_rfl
section
variable {ρ : Operand → Value} {o : Oper} {x y : Operand} {w : World} {t : TypeId} {a b : Cl}
theorem exec_neC (c : Bool) (ho : o.op = .binOp .neq 104 x y t) (hx : ρ x = clV a) (hy : ρ y = clV b) (h : (!decide (a = b)) = c) : (execOp ρ o).run Tryz.prog w = .ok (.value (.bool c)) w := by
  subst h; exact exec_neT guardC (run_eqC w a b 9997) ho hx hy
end
theorem rdC_new1 (w : World) (c : Cl) : RdE bG (w.alloc (.cells (cm c).toArray 104)) (w.heap.size + 1) (some ⟨w.heap.size, 0, none⟩) 1 [c] :=
  eF w (cm c).toArray 104 (by simp [bf]; rfl)
theorem pheads (n : Nat) (w : World) (h : n ≤ 1000) : Calls Tryz.prog 161 #[.int .i64 (n : Int)] w fun e w' => e = .returned (.int .i64 (hd n : Nat)) ∧ w = w' := by
  go_enter Tryz.func161, Tryz.ntmps161
  go_wp2
  go_ret
  refine ⟨aM ?_, rfl⟩
  unfold hd
  omega
theorem psize (n : Int) (w : World) : Calls Tryz.prog 115 #[.int .i64 n] w fun e w' => e = .returned (.int .i64 (sizN n : Nat)) ∧ w = w' := by
  by_cases h1 : n < 1
  · have HS := Lib.hid (sizN_no (.inl h1))
    go_enter Tryz.func115, Tryz.ntmps115
    go_wp2
    go_ret
    exact ⟨by rw [HS.out]; rfl, rfl⟩
  · by_cases h2 : 32 < n
    · have HS := Lib.hid (sizN_no (.inr h2))
      go_enter Tryz.func115, Tryz.ntmps115
      go_wp2
      go_ret
      exact ⟨by rw [HS.out]; rfl, rfl⟩
    · obtain ⟨k, rfl⟩ := Int.eq_ofNat_of_zero_le (show 0 ≤ n by omega)
      have hk1 : 1 ≤ k := by omega
      have hk2 : k ≤ 32 := by omega
      have HS := Lib.hid (sizN_of hk1 hk2)
      have hh : hd k ≤ 2 := by unfold hd; omega
      clear h1 h2
      go_enter Tryz.func115, Tryz.ntmps115
      go_wp2_with fail
      refine (pheads k w (by omega)).mono ?_
      rintro e w' ⟨rfl, rfl⟩
      go_wp2
      go_ret
      exact ⟨by rw [HS.out]; simp, rfl⟩
section
variable {ρ : Operand → Value} {o : Oper} {x y z : Operand} {w : World} {b off n c t u : Nat}
theorem undU : Tryz.prog.underlying 160 = some (.slice 5) := Tryz.underlying160
theorem run_headU (h : t ≤ c) : (Instr.sliceAt 160 (.slice (some ⟨b, off, none⟩) n c) none (some (.int .i64 (t : Int))) none).run Tryz.prog w = .ok (.slice (some ⟨b, off, none⟩) t c) w := by
  simp [Instr.sliceAt, Instr.slice, Instr.sliceBounds, Instr.sliceBound, asIntOf, run_underlying undU, Tryz.sizeOf5, Addr.add_mid]
  intro hh; omega
theorem run_midU (h1 : u ≤ t) (h : t ≤ c) (h2 : u < c) : (Instr.sliceAt 160 (.slice (some ⟨b, off, none⟩) n c) (some (.int .i64 (u : Int))) (some (.int .i64 (t : Int))) none).run Tryz.prog w = .ok (.slice (some ⟨b, off + u, none⟩) (t - u) (c - u)) w := by
  have e1 : (0 ≤ (t : Int) ∧ (t : Int) ≤ (c : Int)) := by omega
  have e2 : (0 ≤ (u : Int) ∧ (u : Int) ≤ (t : Int)) := by omega
  have e3 : c ≠ u := by omega
  simp [Instr.sliceAt, Instr.slice, Instr.sliceBounds, Instr.sliceBound, asIntOf, run_underlying undU, Tryz.sizeOf5, Addr.add_mid, e1, e2, e3, h, h1]
theorem exec_cutH (t : Nat) (ho : o.op = .slice 160 x none (some y) none) (hx : ρ x = .slice (some ⟨b, off, none⟩) n c) (hy : ρ y = .int .i64 (t : Int)) (h : t ≤ c) : (execOp ρ o).run Tryz.prog w = .ok (.value (.slice (some ⟨b, off, none⟩) t c)) w := by
  unfold execOp
  simp only [ho, hx, hy, Option.map_some, Option.map_none, Sem.run_bind, run_headU h, Result.andThen_ok, Sem.run_pure]
theorem exec_cutM (u t : Nat) (ho : o.op = .slice 160 x (some z) (some y) none) (hx : ρ x = .slice (some ⟨b, off, none⟩) n c) (hz : ρ z = .int .i64 (u : Int)) (hy : ρ y = .int .i64 (t : Int)) (h1 : u ≤ t) (h : t ≤ c) (h2 : u < c) : (execOp ρ o).run Tryz.prog w = .ok (.value (.slice (some ⟨b, off + u, none⟩) (t - u) (c - u))) w := by
  unfold execOp
  simp only [ho, hx, hy, hz, Option.map_some, Option.map_none, Sem.run_bind, run_midU h1 h h2, Result.andThen_ok, Sem.run_pure]
theorem run_allB : (Instr.sliceAt 65 (.pointer (some ⟨b, off, none⟩)) none none none).run Tryz.prog w = .ok (.slice (some ⟨b, off, none⟩) 64 64) w := by
  simp [Instr.sliceAt, Instr.sliceBounds, Instr.sureAddr, run_underlying undB, Tryz.sizeOf5, Addr.add_mid]
theorem exec_allB (ho : o.op = .slice 65 x none none none) (hx : ρ x = .pointer (some ⟨b, off, none⟩)) : (execOp ρ o).run Tryz.prog w = .ok (.value (.slice (some ⟨b, off, none⟩) 64 64)) w := by
  unfold execOp
  simp only [ho, hx, Option.map_none, Sem.run_bind, run_allB, Result.andThen_ok, Sem.run_pure]
end
theorem Rd.sub {w : World} {N g q n p k : Nat} {l : List UInt8} (h : Rd w N (some ⟨g, q, none⟩) n l) (hk : p + k ≤ n) : Rd w N (some ⟨g, q + p, none⟩) k (piece l p k) :=
  ⟨bn (by have := h.1; omega), fun j hj => by
    obtain ⟨b, off, e, hb, hc⟩ := h.2 (p + j) (by omega)
    injection e with e
    injection e with e1 e2
    subst e1 e2
    refine ⟨g, q + p, rfl, hb, ?_⟩
    rw [ei hj, ← hc, Nat.add_assoc]⟩
theorem tdiv16 (i : Nat) (h : i ≤ 1000) : IntKind.i64.wrap ((i : Int).tdiv 16) = ((i / 16 : Nat) : Int) := by
  rw [Int.tdiv_eq_ediv_of_nonneg (by omega), IntKind.wrap_i64]
  omega
theorem tmod16 (i : Nat) : (i : Int).tmod 16 = ((i % 16 : Nat) : Int) := by
  rw [Int.tmod_eq_emod_of_nonneg (by omega)]
  omega
theorem wrap_small (k : Nat) (h : k ≤ 1000000) (x : Int) (e : x = (k : Int)) : IntKind.i64.wrap x = (k : Int) := by
  subst e
  rw [IntKind.wrap_i64]
  omega
theorem grown_after {w w1 w2 : World} {B : Nat} {row : Option Nat} (hb : Below w.heap.size w w1) (hg : w1.grownBy w2 row) : w.grownBy w2 row :=
  ⟨hg.os.trans hb.os, hg.tape.trans hb.tape, hg.output.trans hb.output, Nat.le_trans hb.size hg.size, fun k hk hn => (hg.block k (Nat.lt_of_lt_of_le hk hb.size) hn).trans (hb.block k hk)⟩
set_option maxHeartbeats 1000000 in
theorem pplace (b off n c i : Nat) (w : World) (hi : i / 16 < n) (h : i ≤ 1000) :
    Calls Tryz.prog 167 #[.slice (some ⟨b, off, none⟩) n c, .int .i64 (i : Int)] w fun e w' => e = .returned (.slice (some ⟨b, off + 4 * i, none⟩) 4 (64 - i % 16 * 4)) ∧ w = w' := by
  have HQ := Lib.hid (tdiv16 i h)
  have HR := Lib.hid (tmod16 i)
  have HM := Lib.hid (wrap_small (i % 16 * 4) (by omega) (((i % 16 : Nat) : Int) * 4) (by omega))
  have HA := Lib.hid (wrap_small (i % 16 * 4 + 4) (by omega) (((i % 16 * 4 : Nat) : Int) + 4) (by omega))
  have HI := Lib.hid hi
  have HE := Lib.hid (show off + i / 16 * 64 + i % 16 * 4 = off + 4 * i by omega)
  have HL := Lib.hid (show i % 16 * 4 + 4 - i % 16 * 4 = 4 by omega)
  have H64 := Lib.hid (show i % 16 * 4 + 4 ≤ 64 by omega)
  clear hi
  go_enter Tryz.func167, Tryz.ntmps167
  go_upto_region 1 with fail
  refine wp_region_lit ?_
  refine ag rfl (ah rfl (ev rfl)) ?_
  simp only [Act.put, aa, ae, af]
  refine ag rfl (ah rfl (ev rfl)) ?_
  simp only [Act.put, aa, ae, af]
  refine ag rfl (exec_quo rfl (ev rfl) evk (by decide) HQ.out) ?_
  simp only [Act.put, aa, ae, af]
  refine ag rfl (dq rfl (ev rfl) (ev rfl) HI.out) ?_
  simp only [Act.put, aa, ae, af]
  refine ag rfl (exec_allB rfl (ev rfl)) ?_
  simp only [Act.put, aa, ae, af]
  refine ag rfl (ar rfl (ev rfl)) ?_
  simp only [Act.put, aa, ae, af]
  refine wpList_nil ?_
  go_upto_region 2 with fail
  refine wp_region_lit ?_
  refine ag rfl (ah rfl (ev rfl)) ?_
  simp only [Act.put, aa, ae, af]
  refine ag rfl (exec_rem rfl (ev rfl) evk (by decide) HR.out) ?_
  simp only [Act.put, aa, ae, af]
  refine ag rfl (exec_mul rfl (ev rfl) evk HM.out) ?_
  simp only [Act.put, aa, ae, af]
  refine ag rfl (ar rfl (ev rfl)) ?_
  simp only [Act.put, aa, ae, af]
  refine wpList_nil ?_
  go_upto_region 3 with fail
  refine wp_region_lit ?_
  refine ag rfl (ah rfl (ev rfl)) ?_
  simp only [Act.put, aa, ae, af]
  refine ag rfl (ah rfl (ev rfl)) ?_
  simp only [Act.put, aa, ae, af]
  refine ag rfl (ah rfl (ev rfl)) ?_
  simp only [Act.put, aa, ae, af]
  refine ag rfl (exec_add rfl (ev rfl) evk HA.out) ?_
  simp only [Act.put, aa, ae, af]
  refine ag rfl (exec_cutM (i % 16 * 4) (i % 16 * 4 + 4) rfl (ev rfl) (ev rfl) (ev rfl) (by omega) H64.out (by have := H64.out; omega)) ?_
  simp only [Act.put, aa, ae, af]
  refine ag rfl (ar rfl (ev rfl)) ?_
  simp only [Act.put, aa, ae, af]
  refine wpList_nil ?_
  go_wp2_with fail
  go_ret
  refine ⟨?_, rfl⟩
  rw [HE.out, HL.out]
  rfl
set_option maxHeartbeats 1000000 in
theorem ptell (A : Option Addr) (n c N : Nat) (b : List UInt8) (w : World) (hb : Rd w N A n b) (h1 : 1 ≤ n) (h2 : n ≤ 2) :
    Calls Tryz.prog 179 #[.slice A n c] w fun e w' => e = .returned (.int .i64 (val 8 b : Nat)) ∧ w = w' := by
  have HL := Lib.hid hb.1
  have hv : val 8 b < 65536 := by
    have h3 := val_lt (all_256 b)
    have h4 : 2 ^ (8 * b.length) ≤ 2 ^ (8 * 2) := Nat.pow_le_pow_right (by omega) (by have := hb.1; omega)
    omega
  have HV := Lib.hid hv
  have HP : Hid (piece b 0 n = b) := Lib.hid (by
    unfold piece
    rw [List.drop_zero, List.take_of_length_le (by have := hb.1; omega)])
  clear hv
  go_enter Tryz.func179, Tryz.ntmps179
  go_wp2_with fail
  refine (get_ok A n c N b 0 n w hb (by unfold maxLen; omega) h1 (by omega) (by omega)).mono ?_
  rintro e w1 ⟨rfl, rfl⟩
  rw [HP.out]
  have hv := HV.out
  clear HV hb HL HP
  generalize hvv : val 8 b = v at *
  have HVV := Lib.hid hvv
  clear hvv
  go_wp2
  go_ret
  exact ⟨by rw [HVV.out]; rfl, rfl⟩
set_option maxHeartbeats 1000000 in
theorem play (g off k c : Nat) (t : TypeId) (L : List UInt8) (n : Nat) (w : World) (hr : bD w g t L) (h1 : 1 ≤ k) (h2 : k ≤ 2) (hn : n < 256 ^ k) (hf : off + k ≤ L.length) :
    Calls Tryz.prog 168 #[.slice (some ⟨g, off, none⟩) k c, .int .i64 (n : Int)] w fun e w' => e = .returned (.tuple #[]) ∧ bD w' g t (splice L off (aT 8 k n)) ∧ w.grownBy w' (some g) := by
  have HR := Lib.hid hr
  have HL := Lib.hid (ax 8 k n)
  have HF := Lib.hid hf
  have hn2 : n < 65536 := by
    have h4 : 256 ^ k ≤ 256 ^ 2 := Nat.pow_le_pow_right (by omega) h2
    omega
  have HN := Lib.hid hn
  clear hr hf hn
  go_enter Tryz.func168, Tryz.ntmps168
  go_wp2_with fail
  refine (put_ok n k w h1 (by omega) HN.out).mono ?_
  rintro e w1 ⟨v, rfl, hv, hb⟩
  have hvm := hv.made
  obtain ⟨A, cc, rfl, hrd, _, _⟩ := hvm.open_ HL.out
  have HRD := Lib.hid hrd
  have HR1 := Lib.hid (HR.out.below HR.out.lt hb)
  have HB := Lib.hid hb
  clear hv hvm hrd hb HR HN
  go_wp2_with (first | (refine ct rfl _ _ rfl g off k c k cc _ A t L (aT 8 k n) rfl rfl HR1.out HRD.out (Nat.le_refl _) ?_ ?_) | fail)
  · exact HF.out
  intro w2 hr2 hg2
  have HR2 := Lib.hid hr2
  have HG2 := Lib.hid (grown_after (B := 0) HB.out hg2)
  clear hr2 hg2
  go_wp2_with fail
  go_end0
  exact ⟨rfl, HR2.out, HG2.out⟩
section
variable {ρ : Operand → Value} {o : Oper} {x y : Operand} {w : World} {c d : Blk} {t : TypeId}
theorem exec_neqb (b : Bool) (ho : o.op = .binOp .neq 65 x y t) (hx : ρ x = blk c) (hy : ρ y = blk d) (h : (!decide (c = d)) = b) : (execOp ρ o).run Tryz.prog w = .ok (.value (.bool b)) w := by
  rw [exec_neq ho hx hy, h]
end
theorem eg {id : Nat} {Q : Exit → Act → World → Prop} {a : Act} {w : World} {l : List Oper} (hB : Region.lexB .any l.toArray = true) (h : wpStill Tryz.prog l.toArray w.drew (fun a' => Q .normal a' w.drew) l a) :
    (Code.region id l.toArray true).wp Tryz.prog Q a w := wp_region_still_lit (by kernel_rfl) hB h
theorem getD_ext {a b : List Blk} (hl : a.length = b.length) (h : ∀ k, k < a.length → a.getD k al = b.getD k al) : a = b := by
  apply List.ext_getElem hl
  intro k h1 h2
  have := h k h1
  rw [List.getD, List.getD, List.getElem?_eq_getElem h1, List.getElem?_eq_getElem h2] at this
  simpa using this
def zer (n : Nat) : List UInt8 := List.replicate n 0
theorem fp (n : Nat) : (zer n).length = n := by simp [zer]
theorem zer_add (a b : Nat) : zer (a + b) = zer a ++ zer b := by simp [zer]
theorem zer_one : zer 1 = [0] := rfl
theorem splice_at {a z c x : List UInt8} {p : Nat} (hp : a.length = p) (hz : z.length = x.length) : splice (a ++ (z ++ c)) p x = a ++ (x ++ c) := by
  subst hp
  unfold splice
  rw [List.take_left' rfl, ← List.drop_drop, List.drop_left' rfl, List.drop_left' hz]
def lyL (l : List Cl) (k : Nat) : List UInt8 := rowC (l.take k) ++ (zer (64 * hd l.length - 4 * k) ++ (cK (blks (l.take k)) ++ zer (64 * l.length - 64 * k)))
def lyA (l : List Cl) (k : Nat) (s : Nat) : List UInt8 := splice (lyL l k) (4 * k) (aT 8 2 s)
def lyB (l : List Cl) (k : Nat) (s m : Nat) : List UInt8 := splice (lyA l k s) (4 * k + 2) (aT 8 1 m)
theorem lyL_zero (l : List Cl) : lyL l 0 = zer (64 * (hd l.length + l.length)) := by
  unfold lyL
  rw [List.take_zero, Nat.mul_add, zer_add]
  rfl
theorem lyL_all (l : List Cl) : lyL l l.length = cK (bC l) := by
  unfold lyL
  rw [byts_recL, List.take_length, Nat.sub_self, show zer 0 = [] from rfl, List.append_nil, List.append_assoc]
  rfl
section
variable {l : List Cl} {k s m : Nat} {b : Blk} (hk : k < l.length)
include hk
theorem lyL_split : lyL l k = rowC (l.take k) ++ (zer 2 ++ (zer 1 ++ (zer 1 ++ (zer (64 * hd l.length - 4 * (k + 1)) ++ (cK (blks (l.take k)) ++ (zer 64 ++ zer (64 * l.length - 64 * (k + 1)))))))) := by
  have hle := hd_le l.length
  have e1 : zer (64 * hd l.length - 4 * k) = zer 2 ++ (zer 1 ++ (zer 1 ++ zer (64 * hd l.length - 4 * (k + 1)))) := by
    rw [← zer_add, ← zer_add, ← zer_add]
    congr 1
    omega
  have e2 : zer (64 * l.length - 64 * k) = zer 64 ++ zer (64 * l.length - 64 * (k + 1)) := by
    rw [← zer_add]
    congr 1
    omega
  unfold lyL
  rw [e1, e2]
  simp only [List.append_assoc]
theorem len_take : (rowC (l.take k)).length = 4 * k := by rw [eS, List.length_take, Nat.min_eq_left (by omega)]
theorem lyA_split : lyA l k s = (rowC (l.take k) ++ aT 8 2 s) ++ (zer 1 ++ (zer 1 ++ (zer (64 * hd l.length - 4 * (k + 1)) ++ (cK (blks (l.take k)) ++ (zer 64 ++ zer (64 * l.length - 64 * (k + 1))))))) := by
  unfold lyA
  rw [lyL_split hk, splice_at (len_take hk) (by rw [fp, ax]), List.append_assoc]
theorem lyB_split : lyB l k s m = (rowC (l.take k) ++ (aT 8 2 s ++ (aT 8 1 m ++ (zer 1 ++ (zer (64 * hd l.length - 4 * (k + 1)) ++ cK (blks (l.take k))))))) ++ (zer 64 ++ zer (64 * l.length - 64 * (k + 1))) := by
  unfold lyB
  rw [lyA_split hk, splice_at (by rw [List.length_append, len_take hk, ax]) (by rw [fp, ax])]
  simp only [List.append_assoc]
theorem lyL_next (hx : l.getD k b7 = ⟨(s : Int), (m : Int), b⟩) : splice (lyB l k s m) (64 * (hd l.length + k)) b.toList = lyL l (k + 1) := by
  have hle := hd_le l.length
  have hlb : (cK (blks (l.take k))).length = 64 * k := by rw [dX, blks_length, List.length_take, Nat.min_eq_left (by omega)]
  rw [lyB_split hk, splice_at (by simp only [List.length_append, len_take hk, ax, fp, hlb]; omega) (by rw [fp, cu])]
  have hx2 : l[k] = ⟨(s : Int), (m : Int), b⟩ := by simpa [List.getD, hk] using hx
  have et : l.take (k + 1) = l.take k ++ [⟨(s : Int), (m : Int), b⟩] := by rw [List.take_succ_eq_append_getElem hk, hx2]
  unfold lyL
  rw [et, rowC_append, show blks (l.take k ++ [⟨(s : Int), (m : Int), b⟩]) = blks (l.take k) ++ [b] from by simp [blks], byts_append, show cK [b] = b.toList from by simp [cK]]
  rw [show rowC [⟨(s : Int), (m : Int), b⟩] = aT 8 2 s ++ (aT 8 1 m ++ zer 1) from by simp [rowC, pl4, zer_one]]
  simp only [List.append_assoc]
theorem lyL_length : (lyL l k).length = 64 * (hd l.length + l.length) := by
  have hle := hd_le l.length
  unfold lyL
  simp only [List.length_append, len_take hk, fp, dX, blks_length, List.length_take]
  rw [Nat.min_eq_left (by omega)]
  omega
theorem lyA_length : (lyA l k s).length = 64 * (hd l.length + l.length) := by
  have hle := hd_le l.length
  unfold lyA
  rw [length_splice _ _ _ (by rw [lyL_length hk, ax]; omega), lyL_length hk]
theorem lyB_length : (lyB l k s m).length = 64 * (hd l.length + l.length) := by
  have hle := hd_le l.length
  unfold lyB
  rw [length_splice _ _ _ (by rw [lyA_length hk, ax]; omega), lyA_length hk]
end
theorem vals_byts (l : List Blk) : vals (cK l) = flat l := byts_flat l
theorem byts_zero (n : Nat) : cK (List.replicate n al) = zer (64 * n) := by
  induction n with
  | zero => rfl
  | succ n ih =>
    rw [List.replicate_succ, byts_cons, ih, show al.toList = zer 64 from by decide, ← zer_add]
    congr 1
    omega
theorem rowL_made (w : World) (n : Nat) : bD (w.alloc (.cells (madeCells (cel al).toArray (n * 64)) 65)) w.heap.size 65 (zer (64 * n)) := by
  have h := holdsB_made w n
  unfold b8 at h
  unfold bD
  rw [h, ← byts_zero, vals_byts]
theorem bD.holds {w : World} {g : Nat} {l : List Blk} (h : bD w g 65 (cK l)) : b8 w g l := by
  unfold b8
  unfold bD at h
  rw [h, vals_byts]
theorem b8.made {w : World} {g B : Nat} {l : List Blk} (h : b8 w g l) (hB : B ≤ g) (hm : l.length ≤ maxLen) : MadeB w B (.slice (some ⟨g, 0, none⟩) l.length l.length) l := by
  refine ⟨d8 l, .inr ⟨g, l.length, _, rfl, hB, h, Nat.le_refl _, hm, by rw [List.size_toArray, d8], ?_⟩⟩
  exact List.take_of_length_le (by rw [d8]; exact Nat.le_refl _)
section
variable {ρ : Operand → Value} {o : Oper} {x y : Operand} {w : World} {n m : Nat}
theorem exec_makeC (ho : o.op = .makeSlice 112 x y) (hx : ρ x = .int .i64 (n : Int)) (hy : ρ y = .int .i64 (m : Int)) (hn : n ≤ m) (hm : m ≤ 4398046511104) :
    (execOp ρ o).run Tryz.prog w = .ok (.value (.slice (some ⟨w.heap.size, 0, none⟩) n m)) (w.alloc (.cells (madeCells (cel al).toArray (m * 64)) 65)) := by
  obtain ⟨i0, hi, hz0, hz1, hz2⟩ := info_parts infoB
  have hr := run_make (P := Tryz.prog) w 112 65 i0 (blk al) underS hi hz0 .i64 .i64 n m (by omega) (by omega) (by rw [hz2]; omega) (by omega)
  rw [hz1, d6] at hr
  simp only [Int.toNat_natCast] at hr
  unfold execOp
  simp only [ho, hx, hy, Sem.run_bind, hr, Result.andThen_ok, Sem.run_pure]
end
section
variable {ρ : Operand → Value} {o : Oper} {x : Operand} {w : World} {t e : TypeId} {A : Option Addr} {n c : Nat}
theorem cO (hu : Tryz.prog.underlying t = some (.slice e)) (ho : o.op = .call { callee := .builtin .len, args := #[x], argTypes := #[t] }) (hx : ρ x = .slice A n c) : (execOp ρ o).run Tryz.prog w = .ok (.value (.int .i64 (n : Int))) w := by
  simp [execOp, ho, resolve, invoke, builtin, hx, Builtin.len_, run_underlying hu, Result.andThen]
  rfl
theorem exec_lenC (ho : o.op = .call { callee := .builtin .len, args := #[x], argTypes := #[34] }) (hx : ρ x = .slice A n c) : (execOp ρ o).run Tryz.prog w = .ok (.value (.int .i64 (n : Int))) w := cO Tryz.underlying34 ho hx
theorem fh (ho : o.op = .call { callee := .builtin .len, args := #[x], argTypes := #[112] }) (hx : ρ x = .slice A n c) : (execOp ρ o).run Tryz.prog w = .ok (.value (.int .i64 (n : Int))) w := cO Tryz.underlying112 ho hx
end
theorem exec_mk1B {ρ : Operand → Value} {o : Oper} {x : Operand} {w : World} {b : Blk} (ho : o.op = .buildSlice 112 1 #[(0, x)]) (hx : ρ x = blk b) :
    (execOp ρ o).run Tryz.prog w = .ok (.value (.slice (some ⟨w.heap.size, 0, none⟩) 1 1)) (w.alloc (.cells (cel b).toArray 65)) := by
  have h := exec_buildS (ρ := ρ) (o := o) (w := w) (n := 1) (parts := [(0, x)]) [b] ho (by simp [hx]) rfl (by omega) (by omega)
  rw [h]
  simp [flat]
theorem wpList_appL {w : World} {ops : Array Oper} {rest : List Oper} {o : Oper} {a : Act} {Q : Exit → Act → World → Prop} (hgd : o.guard = none) (s x : Operand)
    (ho : o.op = .call { callee := .builtin .append, args := #[s, x], argTypes := #[112, 112] })
    (g n c q : Nat) (L : List UInt8) (b : Blk) (hs : a.eval s = .slice (some ⟨g, 0, none⟩) n c) (hx : a.eval x = .slice (some ⟨q, 0, none⟩) 1 1) (hr : bD w g 65 L) (hq : w.rangeAt q 0 (cel b)) (hn : n + 1 ≤ c) (hf : 64 * (n + 1) ≤ L.length)
    (h : ∀ w', bD w' g 65 (splice L (64 * n) b.toList) → w.grownBy w' (some g) → wpList Tryz.prog ops Q rest (a.put o.dst (.slice (some ⟨g, 0, none⟩) (n + 1) c)) w') : wpList Tryz.prog ops Q (o :: rest) a w := by
  obtain ⟨i0, hi, hz0, hz1, hz2⟩ := info_parts infoB
  refine wpList_plain hgd fun K hK => ?_
  have hrun := run_append_room (P := Tryz.prog) w 112 o.type 65 i0 underS hi g n c (vals L).toArray hr ⟨q, 0, none⟩ 1 1 (cel b) (by rw [aw, hz1]) (fun j u hu => by
    rw [Addr.add_mid]
    exact hq j u hu) (cel_one b) hn (by rw [hz1, aw, List.size_toArray, a8]; omega)
  have e : (vals L).toArray.toList.take (n * i0.size) ++ cel b ++ (vals L).toArray.toList.drop (n * i0.size + (cel b).length) = vals (splice L (64 * n) b.toList) := by
    rw [← splice_vals, hz1, Nat.mul_comm n 64, aw]
    unfold splice
    rw [a8, cu, List.append_assoc]
    rfl
  rw [e] at hrun
  have hrow := setRow_heap w g (vals L).toArray (vals (splice L (64 * n) b.toList)).toArray 65 (0, 0) hr
  unfold Oper.wp
  simp [execOp, ho, resolve, invoke, builtin, hs, hx, hrun, Result.andThen]
  exact hK _ _ (h _ hrow ⟨rfl, rfl, rfl, by simp [World.setRow], fun k hk hne => setRow_other w g k _ (fun e => hne (by rw [e]))⟩)
structure LaidC (B : Nat) (w0 w : World) (g q : Nat) (x : Cl) (L : List UInt8) : Prop where
  row : bD w g 65 L
  cl : w.heap[q]? = some (.cells (cm x).toArray 104 (0, 0))
  bel : Below B w0 w
  g0 : B ≤ g
  ne : q ≠ g
section
variable {B : Nat} {w0 w w' : World} {g q : Nat} {x : Cl} {L L' : List UInt8}
theorem LaidC.grow (h : LaidC B w0 w g q x L) (hB : B ≤ w0.heap.size) (hr : bD w' g 65 L') (hg : w.grownBy w' (some g)) : LaidC B w0 w' g q x L' :=
  ⟨hr, ey h.cl hg h.ne, h.bel.grown hg (Nat.le_trans hB h.bel.size) (fun k hk => by injection hk with e; have := h.g0; omega), h.g0, h.ne⟩
theorem LaidC.draw (h : LaidC B w0 w g q x L) : LaidC B w0 w.drew g q x L := ⟨h.row, h.cl, bd h.bel, h.g0, h.ne⟩
theorem LaidC.past (h : LaidC B w0 w g q x L) (hB : B ≤ w0.heap.size) (o : Obj) : LaidC B w0 (w.alloc o) g q x L := ⟨h.row.past o, bJ h.cl o, h.bel.alloc (Nat.le_trans hB h.bel.size) o, h.g0, h.ne⟩
theorem LaidC.rng (h : LaidC B w0 w g q x L) : w.rangeAt q 0 (cm x) := dC h.cl
theorem LaidC.cells (h : LaidC B w0 w g q x L) : w.cell? ⟨q, 0, none⟩ = some (.int .i64 x.s) ∧ w.cell? ⟨q, 1, none⟩ = some (.int .i64 x.m) ∧ w.rangeAt q 2 (cel x.b) := by
  have h1 := pl_cells (cl_place h.rng)
  have h2 := cl_blk h.rng
  exact ⟨h1.1, h1.2, h2⟩
end
section
variable {w : World} {b : Nat}
theorem faNt0 : (Instr.fieldAt 70 (.pointer (some ⟨b, 0, none⟩)) 0).run Tryz.prog w = .ok (.pointer (some ⟨b, 0, none⟩)) w := by kernel_rfl
theorem faNt1 : (Instr.fieldAt 70 (.pointer (some ⟨b, 0, none⟩)) 1).run Tryz.prog w = .ok (.pointer (some ⟨b, 1, none⟩)) w := by kernel_rfl
theorem faNt2 : (Instr.fieldAt 70 (.pointer (some ⟨b, 0, none⟩)) 2).run Tryz.prog w = .ok (.pointer (some ⟨b, 2, none⟩)) w := by kernel_rfl
theorem faNt3 : (Instr.fieldAt 70 (.pointer (some ⟨b, 0, none⟩)) 3).run Tryz.prog w = .ok (.pointer (some ⟨b, 3, none⟩)) w := by kernel_rfl
theorem ldU32 {ad : Addr} {k : Int} (h : w.cell? ad = some (.int .u32 k)) : (Instr.loadAt 68 (.pointer (some ad))).run Tryz.prog w = .ok (.int .u32 k) w := by simp [go_sem, h]
end
section
variable {ρ : Operand → Value} {o : Oper} {x y z u : Operand} {w : World} {t r : TypeId}
theorem exec_adU {a b c : Int} (ho : o.op = .binOp .add t x y r) (hx : ρ x = .int .u64 a) (hy : ρ y = .int .u64 b) (h : IntKind.u64.wrap (a + b) = c) : (execOp ρ o).run Tryz.prog w = .ok (.value (.int .u64 c)) w := by
  unfold execOp
  simp [ho, hx, hy, eqGuard, binOp, Op.intArith, h]
theorem exec_adN {a b : Nat} (ho : o.op = .binOp .add t x y r) (hx : ρ x = .int .u64 (a : Nat)) (hy : ρ y = .int .u64 (b : Nat)) (h : a + b < 18446744073709551616) : (execOp ρ o).run Tryz.prog w = .ok (.value (.int .u64 ((a + b : Nat) : Int))) w :=
  exec_adU ho hx hy (by rw [← Int.natCast_add]; exact IntWalk.u64_in _ ⟨by omega, by omega⟩)
theorem exec_cvIU {n : Nat} (ho : o.op = .convert 3 35 x) (hx : ρ x = .int .i64 (n : Int)) (hn : n < 18446744073709551616) : (execOp ρ o).run Tryz.prog w = .ok (.value (.int .u64 (n : Int))) w := by
  have h : IntKind.u64.wrap (n : Int) = (n : Int) := IntWalk.u64_in _ ⟨by omega, by omega⟩
  have hc : (convert 3 35 (.int .i64 (n : Int))).run Tryz.prog w = .ok (.int .u64 (n : Int)) w := by simp [convert, go_sem, h]
  unfold execOp
  simp only [ho, hx, Sem.run_bind, hc, Result.andThen_ok, Sem.run_pure]
theorem exec_bldf {q : Value} {y0 y1 y2 y3 : Value} (ho : o.op = .build t #[(0, x), (1, y), (2, z), (3, u)]) (h0 : ρ x = y0) (h1 : ρ y = y1) (h2 : ρ z = y2) (h3 : ρ u = y3)
    (h : (Instr.build t #[(0, y0), (1, y1), (2, y2), (3, y3)]).run Tryz.prog w = .ok q w) : (execOp ρ o).run Tryz.prog w = .ok (.value q) w := by
  subst h0 h1 h2 h3
  unfold execOp
  simp only [ho, List.map_toArray, List.map_cons, List.map_nil, Sem.run_bind, h, Result.andThen_ok, Sem.run_pure]
theorem run_bldNt4 (a b : Nat) (c : Int) (d : Nat) : (Instr.build 70 #[(0, .int .u64 a), (1, .int .u64 b), (2, .int .i64 c), (3, .int .u32 d)]).run Tryz.prog w = .ok (nte ⟨a, b, c, d⟩) w := by kernel_rfl
theorem exec_bldNt4 (a b : Nat) (c : Int) (d : Nat) (ho : o.op = .build 70 #[(0, x), (1, y), (2, z), (3, u)]) (h0 : ρ x = .int .u64 a) (h1 : ρ y = .int .u64 b) (h2 : ρ z = .int .i64 c) (h3 : ρ u = .int .u32 d) : (execOp ρ o).run Tryz.prog w = .ok (.value (nte ⟨a, b, c, d⟩)) w :=
  exec_bldf ho h0 h1 h2 h3 (run_bldNt4 a b c d)
end
def mcelB (c : Int) : Bool := decide (1 ≤ c ∧ c ≤ 32)
theorem pntseq (n : Nat) (w : World) : Calls Tryz.prog 193 #[.int .u64 n] w fun e w' => e = .returned (.bool (evB n)) ∧ w = w' := by
  by_cases h : 1 ≤ n
  · go_enter Tryz.func193, Tryz.ntmps193
    go_wp2
    go_ret
    refine ⟨bM ?_, rfl⟩
    unfold evB
    rw [decide_eq_decide]
    omega
  · have h0 : n = 0 := by omega
    subst h0
    go_enter Tryz.func193, Tryz.ntmps193
    go_wp2
    go_ret
    exact ⟨rfl, rfl⟩
theorem pntseq_b (n : Nat) (w : World) {b : Bool} (h : evB n = b) : Calls Tryz.prog 193 #[.int .u64 n] w fun e w' => e = .returned (.bool b) ∧ w = w' := by
  subst h
  exact pntseq n w
theorem pntcel (r : Int) (w : World) : Calls Tryz.prog 194 #[.int .i64 r] w fun e w' => e = .returned (.bool (mcelB r)) ∧ w = w' := by
  by_cases h : 1 ≤ r
  · go_enter Tryz.func194, Tryz.ntmps194
    go_wp2
    go_ret
    refine ⟨bM ?_, rfl⟩
    unfold mcelB
    rw [decide_eq_decide]
    omega
  · go_enter Tryz.func194, Tryz.ntmps194
    go_wp2
    go_ret
    refine ⟨bM ?_, rfl⟩
    unfold mcelB
    exact (decide_eq_false (by omega)).symm
theorem pntcel_b (r : Int) (w : World) {b : Bool} (h : mcelB r = b) : Calls Tryz.prog 194 #[.int .i64 r] w fun e w' => e = .returned (.bool b) ∧ w = w' := by
  subst h
  exact pntcel r w
theorem pntslot (n : Nat) (w : World) (hn : n < 18446744073709551616) : Calls Tryz.prog 130 #[.int .u64 n] w fun e w' => e = .returned (.int .i64 ((n % 8 : Nat) : Int)) ∧ w = w' := by
  go_enter Tryz.func130, Tryz.ntmps130
  go_wp2
  go_ret
  exact ⟨aM (by omega), rfl⟩
set_option maxHeartbeats 2000000 in
theorem pntmay (m : Nte) (w : World) : Calls Tryz.prog 173 #[nte m] w fun e w' => e = .returned (.bool (nteB m)) ∧ Below w.heap.size w w' := by
  obtain ⟨h1, h2, _⟩ := df w m
  have HM := Lib.hid h1
  have HB := Lib.hid h2
  clear h1 h2
  go_enter Tryz.func173, Tryz.ntmps173
  go_upto_region 1 with (first | (refine ag rfl (cC rfl rfl) ?_) | fail)
  generalize w.alloc (.cells (aO m).toArray 70) = w1 at *
  by_cases k0 : 1 ≤ m.seq ∧ m.seq ≤ 4611686018427387904
  · have H0 : Hid (evB m.seq = true) := Lib.hid (decide_eq_true k0)
    by_cases k1 : m.pos ≤ 4611686018427387904
    · have H1 : Hid (decide ((m.pos : Int) ≤ 4611686018427387904) = true) := Lib.hid (decide_eq_true (by omega))
      by_cases k2 : 1 ≤ m.cells ∧ m.cells ≤ 32
      · have H2 : Hid (mcelB m.cells = true) := Lib.hid (decide_eq_true k2)
        have HV : Hid (nteB m = true) := Lib.hid (decide_eq_true (by omega))
        clear k0 k1 k2
        refine wp_region_lit ?_
        refine ag rfl (ak rfl (ev rfl) faNt0) ?_
        simp only [Act.put, aa, ae, af]
        refine ag rfl (au rfl (ev rfl) (bz HM.out.cells.1)) ?_
        simp only [Act.put, aa, ae, af]
        refine ao rfl (aq Tryz.call193 rfl (evc (ev rfl) evn)) ?_
        refine (pntseq_b m.seq _ H0.out).mono ?_
        rintro e w' ⟨rfl, rfl⟩
        refine ⟨_, rfl, ?_⟩
        simp only [Act.put, aa, ae, af]
        refine ag (v := .bool true) rfl (ah rfl (ev rfl)) ?_
        simp only [Act.put, aa, ae, af]
        refine ai (aj rfl rfl rfl rfl) (ak rfl (ev rfl) faNt1) ?_
        simp only [Act.put, aa, ae, af]
        refine ai (aj rfl rfl rfl rfl) (au rfl (ev rfl) (bz HM.out.cells.2.1)) ?_
        simp only [Act.put, aa, ae, af]
        refine ai (v := .bool true) (aj rfl rfl rfl rfl) (exec_leq true rfl (ev rfl) evk H1.out) ?_
        simp only [Act.put, aa, ae, af]
        refine ag (v := .bool true) rfl (aG rfl (ev rfl) (ev rfl)) ?_
        simp only [Act.put, aa, ae, af]
        refine ag (v := .bool true) rfl (ah rfl (ev rfl)) ?_
        simp only [Act.put, aa, ae, af]
        refine ai (aj rfl rfl rfl rfl) (ak rfl (ev rfl) faNt2) ?_
        simp only [Act.put, aa, ae, af]
        refine ai (aj rfl rfl rfl rfl) (au rfl (ev rfl) (bK HM.out.cells.2.2.1)) ?_
        simp only [Act.put, aa, ae, af]
        refine ao (aj rfl rfl rfl rfl) (aq Tryz.call194 rfl (evc (ev rfl) evn)) ?_
        refine (pntcel_b m.cells _ H2.out).mono ?_
        rintro e w' ⟨rfl, rfl⟩
        refine ⟨_, rfl, ?_⟩
        simp only [Act.put, aa, ae, af]
        refine ag (v := .bool true) rfl (aG rfl (ev rfl) (ev rfl)) ?_
        simp only [Act.put, aa, ae, af]
        refine ag (v := .bool true) rfl (ar rfl (ev rfl)) ?_
        simp only [Act.put, aa, ae, af]
        refine wpList_nil ?_
        go_wp2_with fail
        go_ret
        exact ⟨bM (by rw [HV.out]), HB.out⟩
      · have H2 : Hid (mcelB m.cells = false) := Lib.hid (decide_eq_false k2)
        have HV : Hid (nteB m = false) := Lib.hid (decide_eq_false (by omega))
        clear k0 k1 k2
        refine wp_region_lit ?_
        refine ag rfl (ak rfl (ev rfl) faNt0) ?_
        simp only [Act.put, aa, ae, af]
        refine ag rfl (au rfl (ev rfl) (bz HM.out.cells.1)) ?_
        simp only [Act.put, aa, ae, af]
        refine ao rfl (aq Tryz.call193 rfl (evc (ev rfl) evn)) ?_
        refine (pntseq_b m.seq _ H0.out).mono ?_
        rintro e w' ⟨rfl, rfl⟩
        refine ⟨_, rfl, ?_⟩
        simp only [Act.put, aa, ae, af]
        refine ag (v := .bool true) rfl (ah rfl (ev rfl)) ?_
        simp only [Act.put, aa, ae, af]
        refine ai (aj rfl rfl rfl rfl) (ak rfl (ev rfl) faNt1) ?_
        simp only [Act.put, aa, ae, af]
        refine ai (aj rfl rfl rfl rfl) (au rfl (ev rfl) (bz HM.out.cells.2.1)) ?_
        simp only [Act.put, aa, ae, af]
        refine ai (v := .bool true) (aj rfl rfl rfl rfl) (exec_leq true rfl (ev rfl) evk H1.out) ?_
        simp only [Act.put, aa, ae, af]
        refine ag (v := .bool true) rfl (aG rfl (ev rfl) (ev rfl)) ?_
        simp only [Act.put, aa, ae, af]
        refine ag (v := .bool true) rfl (ah rfl (ev rfl)) ?_
        simp only [Act.put, aa, ae, af]
        refine ai (aj rfl rfl rfl rfl) (ak rfl (ev rfl) faNt2) ?_
        simp only [Act.put, aa, ae, af]
        refine ai (aj rfl rfl rfl rfl) (au rfl (ev rfl) (bK HM.out.cells.2.2.1)) ?_
        simp only [Act.put, aa, ae, af]
        refine ao (aj rfl rfl rfl rfl) (aq Tryz.call194 rfl (evc (ev rfl) evn)) ?_
        refine (pntcel_b m.cells _ H2.out).mono ?_
        rintro e w' ⟨rfl, rfl⟩
        refine ⟨_, rfl, ?_⟩
        simp only [Act.put, aa, ae, af]
        refine ag (v := .bool false) rfl (aG rfl (ev rfl) (ev rfl)) ?_
        simp only [Act.put, aa, ae, af]
        refine ag (v := .bool false) rfl (ar rfl (ev rfl)) ?_
        simp only [Act.put, aa, ae, af]
        refine wpList_nil ?_
        go_wp2_with fail
        go_ret
        exact ⟨bM (by rw [HV.out]), HB.out⟩
    · have H1 : Hid (decide ((m.pos : Int) ≤ 4611686018427387904) = false) := Lib.hid (decide_eq_false (by omega))
      have HV : Hid (nteB m = false) := Lib.hid (decide_eq_false (by omega))
      clear k0 k1
      refine wp_region_lit ?_
      refine ag rfl (ak rfl (ev rfl) faNt0) ?_
      simp only [Act.put, aa, ae, af]
      refine ag rfl (au rfl (ev rfl) (bz HM.out.cells.1)) ?_
      simp only [Act.put, aa, ae, af]
      refine ao rfl (aq Tryz.call193 rfl (evc (ev rfl) evn)) ?_
      refine (pntseq_b m.seq _ H0.out).mono ?_
      rintro e w' ⟨rfl, rfl⟩
      refine ⟨_, rfl, ?_⟩
      simp only [Act.put, aa, ae, af]
      refine ag (v := .bool true) rfl (ah rfl (ev rfl)) ?_
      simp only [Act.put, aa, ae, af]
      refine ai (aj rfl rfl rfl rfl) (ak rfl (ev rfl) faNt1) ?_
      simp only [Act.put, aa, ae, af]
      refine ai (aj rfl rfl rfl rfl) (au rfl (ev rfl) (bz HM.out.cells.2.1)) ?_
      simp only [Act.put, aa, ae, af]
      refine ai (v := .bool false) (aj rfl rfl rfl rfl) (exec_leq false rfl (ev rfl) evk H1.out) ?_
      simp only [Act.put, aa, ae, af]
      refine ag (v := .bool false) rfl (aG rfl (ev rfl) (ev rfl)) ?_
      simp only [Act.put, aa, ae, af]
      refine aX 3 (v := .bool false) rfl (ah rfl (ev rfl)) (by kernel_rfl) ?_
      simp only [br, List.take_succ_cons, List.take_zero, List.drop_succ_cons, List.drop_zero, Act.put, List.setIfInBounds_toArray, List.set_cons_succ, List.set_cons_zero]
      refine ag (v := .bool false) rfl (aV rfl (ev rfl) evk) ?_
      simp only [Act.put, aa, ae, af]
      refine ag (v := .bool false) rfl (ar rfl (ev rfl)) ?_
      simp only [Act.put, aa, ae, af]
      refine wpList_nil ?_
      go_wp2_with fail
      go_ret
      exact ⟨bM (by rw [HV.out]), HB.out⟩
  · have H0 : Hid (evB m.seq = false) := Lib.hid (decide_eq_false k0)
    have HV : Hid (nteB m = false) := Lib.hid (decide_eq_false (by omega))
    clear k0
    refine wp_region_lit ?_
    refine ag rfl (ak rfl (ev rfl) faNt0) ?_
    simp only [Act.put, aa, ae, af]
    refine ag rfl (au rfl (ev rfl) (bz HM.out.cells.1)) ?_
    simp only [Act.put, aa, ae, af]
    refine ao rfl (aq Tryz.call193 rfl (evc (ev rfl) evn)) ?_
    refine (pntseq_b m.seq _ H0.out).mono ?_
    rintro e w' ⟨rfl, rfl⟩
    refine ⟨_, rfl, ?_⟩
    simp only [Act.put, aa, ae, af]
    refine aX 3 (v := .bool false) rfl (ah rfl (ev rfl)) (by kernel_rfl) ?_
    simp only [br, List.take_succ_cons, List.take_zero, List.drop_succ_cons, List.drop_zero, Act.put, List.setIfInBounds_toArray, List.set_cons_succ, List.set_cons_zero]
    refine ag (v := .bool false) rfl (aV rfl (ev rfl) evk) ?_
    simp only [Act.put, aa, ae, af]
    refine aX 3 (v := .bool false) rfl (ah rfl (ev rfl)) (by kernel_rfl) ?_
    simp only [br, List.take_succ_cons, List.take_zero, List.drop_succ_cons, List.drop_zero, Act.put, List.setIfInBounds_toArray, List.set_cons_succ, List.set_cons_zero]
    refine ag (v := .bool false) rfl (aV rfl (ev rfl) evk) ?_
    simp only [Act.put, aa, ae, af]
    refine ag (v := .bool false) rfl (ar rfl (ev rfl)) ?_
    simp only [Act.put, aa, ae, af]
    refine wpList_nil ?_
    go_wp2_with fail
    go_ret
    exact ⟨bM (by rw [HV.out]), HB.out⟩
theorem pntmay_b (m : Nte) (w : World) {b : Bool} (h : nteB m = b) : Calls Tryz.prog 173 #[nte m] w fun e w' => e = .returned (.bool b) ∧ Below w.heap.size w w' := by
  subst h
  exact pntmay m w
section
variable {P : Program} {ops : Array Oper} {C : World → Prop} {Q : Act → Prop} {a : Act} {o : Oper} {rest l : List Oper} {v : Value}
theorem wpQuiet_unw : ∀ (rs : List Oper) (a : Act), unw ops rs a = true → wpQuiet P ops C Q rest (br rs a) → wpQuiet P ops C Q (rs ++ rest) a
  | [], _, _, h => h
  | r :: rs, a, hu, h => by
    simp only [unw, Bool.and_eq_true, Bool.not_eq_true'] at hu
    exact qv_skip hu.1 (wpQuiet_unw rs _ hu.2 h)
theorem fd (n : Nat) (hw : Region.wanted o (yielded ops a.tmps) = true) (h : ∀ w, C w → (execOp a.eval o).run P w = .ok (.value v) w) (hu : unw ops (l.take n) (a.put o.dst v) = true) (hr : wpQuiet P ops C Q (l.drop n) (br (l.take n) (a.put o.dst v))) : wpQuiet P ops C Q (o :: l) a :=
  am hw h (by have := wpQuiet_unw (P := P) (C := C) (Q := Q) (l.take n) _ hu hr; rwa [List.take_append_drop] at this)
end
end Go.Proofs.YtcafafdimcecpaaGreatDoor
