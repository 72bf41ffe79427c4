import Derived.Test.YtnliphgjcaippaaGreatDoorHsaf
import Derived.Test.YtnliphgjcaippaaGreatDoorHsae
import Derived.Test.YtnliphgjcaippaaGreatDoorHsab
import Derived.Laws.CopyOwn
import Derived.Test.YtnliphgjcaippaaGreatDoorHsaa
import Derived.Test.YtnliphgjcaippaaGreatDoorHsZ
namespace Go.Proofs.YtnliphgjcaippaaGreatDoor
open Go.RowKit
set_option linter.unusedVariables false
set_option maxRecDepth 100000
def Rv (w : World) (F : Nat → Prop) (p : Nat) (S : List Blk) (L : List (Int × Blk)) (g : Bool) : Prop := ∃ vS vL, F = foot p vS vL ∧ RefD w p vS vL S L g ∧ Fit S L
section
variable {w w' : World} {F G : Nat → Prop} {p : Nat} {S : List Blk} {L : List (Int × Blk)} {g : Bool}
theorem Rv.lt (h : Rv w F p S L g) : ∀ b, F b → b < w.heap.size := by
  obtain ⟨vS, vL, rfl, h, _⟩ := h
  exact h.lt
theorem Rv.only (h : Rv w F p S L g) (k : Only G w w') (hn : ∀ b, F b → ¬ G b) : Rv w' F p S L g := by
  obtain ⟨vS, vL, rfl, h, hF⟩ := h
  exact ⟨vS, vL, rfl, h.only k hn, hF⟩
end
section
variable {w : World} {F : Nat → Prop} {p : Nat} {S : List Blk} {L : List (Int × Blk)} {g : Bool}
theorem rv_sure (n : Int) (h : Rv w F p S L g) : Calls Tryz.prog 83 #[.pointer (some ⟨p, 0, none⟩), .int .i64 n] w fun e w' => e = .returned (.tuple #[blk (dP S g n), .int .i64 (cC S g n)]) ∧ Below w.heap.size w w' := by
  obtain ⟨vS, vL, rfl, h, _⟩ := h
  exact r_sure p vS vL S L g n w h
theorem rv_new (k : Nat) (w : World) (h1 : 1 ≤ k) (h2 : k ≤ 512) : Calls Tryz.prog 33 #[.int .i64 k] w fun e w' => ∃ p F, e = .returned (.tuple #[.pointer (some ⟨p, 0, none⟩), .int .i64 0]) ∧ Rv w' F p (List.replicate k au) [] false ∧ Below w.heap.size w w' ∧ ∀ b, F b → w.heap.size ≤ b := by
  refine (r_new_ok k w h1 h2).mono ?_
  rintro e w' ⟨p, vS, he, hr, hb, hf⟩
  exact ⟨p, _, he, ⟨vS, _, rfl, hr, Fit.nil _⟩, hb, hf⟩
end
def dm : BKind where
  K := ⟨Rv, Rv.lt, Rv.only⟩
  s := 82
  t := 85
  und := Tryz.underlying82
  info := by kernel_rfl
  o := 84
  cs := fun v left bX steps => #[v, .int .i64 left, .bool bX, .int .i64 steps]
  ne := by decide
theorem r4cells {w : World} {b : Nat} {t : TypeId} {x y z u : Value} (h : w.heap[b]? = some (.cells #[x, y, z, u] t (0, 0))) : w.cell? ⟨b, 0, none⟩ = some x ∧ w.cell? ⟨b, 1, none⟩ = some y ∧ w.cell? ⟨b, 2, none⟩ = some z ∧ w.cell? ⟨b, 3, none⟩ = some u := by
  refine ⟨?_, ?_, ?_, ?_⟩
  · rw [cell_of_row w b 0 _ t (0, 0) h]; rfl
  · rw [cell_of_row w b 1 _ t (0, 0) h]; rfl
  · rw [cell_of_row w b 2 _ t (0, 0) h]; rfl
  · rw [cell_of_row w b 3 _ t (0, 0) h]; rfl
theorem rv_cells {w : World} {F : Nat → Prop} {p : Nat} {S : List Blk} {L : List (Int × Blk)} {g : Bool} (h : Rv w F p S L g) : ∃ A c, w.cell? ⟨p, 0, none⟩ = some (.slice A S.length c) ∧ w.cell? ⟨p, 2, none⟩ = some (.bool g) := by
  obtain ⟨vS, vL, rfl, h, _⟩ := h
  obtain ⟨c0, c1, c2⟩ := cells3 h.at_
  obtain ⟨A, c, rfl, _, _⟩ := h.S_.form
  exact ⟨A, c, c0, c2⟩
section
variable {w w' : World} {p : Nat} {v : Value} {Fs : Nat → Nat → Prop} {ps : List Nat} {M : BenS}
theorem BenAt.rcells (h : BenAt dm w p v Fs ps M) : w.cell? ⟨p, 0, none⟩ = some v ∧ w.cell? ⟨p, 1, none⟩ = some (.int .i64 M.left) ∧ w.cell? ⟨p, 2, none⟩ = some (.bool M.bX) ∧ w.cell? ⟨p, 3, none⟩ = some (.int .i64 M.steps) := r4cells h.at_
theorem c_devices (h : BenAt dm w p v Fs ps M) :
    Calls Tryz.prog 39 #[.pointer (some ⟨p, 0, none⟩)] w fun e w' => e = .returned (.int .i64 (M.ds.length : Int)) ∧ w = w' := by
  obtain ⟨g, c, rfl, _, _⟩ := h.slice
  obtain ⟨c0, c1, c2, c3⟩ := h.rcells
  go_enter Tryz.func39, Tryz.ntmps39
  go_wp2
  go_ret
  exact ⟨rfl, rfl⟩
theorem c_dark (h : BenAt dm w p v Fs ps M) :
    Calls Tryz.prog 43 #[.pointer (some ⟨p, 0, none⟩)] w fun e w' => e = .returned (.bool M.bX) ∧ w = w' := by
  obtain ⟨c0, c1, c2, c3⟩ := h.rcells
  go_enter Tryz.func43, Tryz.ntmps43
  go_wp2
  go_ret
  exact ⟨rfl, rfl⟩
theorem c_steps (h : BenAt dm w p v Fs ps M) :
    Calls Tryz.prog 44 #[.pointer (some ⟨p, 0, none⟩)] w fun e w' => e = .returned (.int .i64 (M.steps : Int)) ∧ w = w' := by
  obtain ⟨c0, c1, c2, c3⟩ := h.rcells
  go_enter Tryz.func44, Tryz.ntmps44
  go_wp2
  go_ret
  exact ⟨rfl, rfl⟩
theorem c_has_no (h : BenAt dm w p v Fs ps M) {d : Int} (hd : ¬(0 ≤ d ∧ d < M.ds.length)) :
    Calls Tryz.prog 80 #[.pointer (some ⟨p, 0, none⟩), .int .i64 d] w fun e w' => e = .returned (.bool false) ∧ w = w' := by
  obtain ⟨g, c, rfl, _, _⟩ := h.slice
  obtain ⟨c0, c1, c2, c3⟩ := h.rcells
  clear h
  by_cases h0 : 0 ≤ d
  · have h1 : ¬(d < (M.ds.length : Int)) := by omega
    clear hd
    go_enter Tryz.func80, Tryz.ntmps80
    go_wp2
    go_ret
    exact ⟨rfl, rfl⟩
  · clear hd
    go_enter Tryz.func80, Tryz.ntmps80
    go_wp2
    go_ret
    exact ⟨rfl, rfl⟩
theorem c_has_ok (h : BenAt dm w p v Fs ps M) {k : Nat} (hk : k < M.ds.length) :
    Calls Tryz.prog 80 #[.pointer (some ⟨p, 0, none⟩), .int .i64 k] w fun e w' => e = .returned (.bool true) ∧ w = w' := by
  obtain ⟨g, c, rfl, _, _⟩ := h.slice
  obtain ⟨c0, c1, c2, c3⟩ := h.rcells
  clear h
  go_enter Tryz.func80, Tryz.ntmps80
  go_wp2
  go_ret
  exact ⟨rfl, rfl⟩
theorem c_sectors (d : Int) (h : BenAt dm w p v Fs ps M) :
    Calls Tryz.prog 40 #[.pointer (some ⟨p, 0, none⟩), .int .i64 d] w fun e w' => e = .returned (.int .i64 (seN6 M d)) ∧ w = w' := by
  rcases hasE_is M d with ⟨e, ho⟩ | ⟨e, k, rfl, hk⟩
  · have HS : Hid (seN6 M d = 0) := Lib.hid (by unfold seN6; rw [if_neg (by omega)])
    have HO := Lib.hid (c_has_no h ho)
    clear e h ho
    go_enter Tryz.func40, Tryz.ntmps40
    go_wp2_with fail
    refine HO.out.mono ?_
    rintro e w1 ⟨rfl, rfl⟩
    go_wp2_with fail
    go_ret
    exact ⟨bV HS.out.symm, rfl⟩
  · obtain ⟨x, hx⟩ : ∃ x, M.ds.getD k bq = x := ⟨_, rfl⟩
    have hat := h.devs.at_ k hk
    rw [hx] at hat
    have HS : Hid (seN6 M (k : Int) = (x.S.length : Int)) := Lib.hid (by unfold seN6; rw [if_pos e, M.dev_nat, hx])
    have HO := Lib.hid (c_has_ok h hk)
    obtain ⟨g, c, rfl, _, _⟩ := h.slice
    obtain ⟨c0, c1, c2, c3⟩ := h.rcells
    have ck := h.cell hk
    obtain ⟨AS, cS, d0, d2⟩ := rv_cells hat
    clear e h hat hx
    generalize ps.getD k 0 = q at *
    go_enter Tryz.func40, Tryz.ntmps40
    go_wp2_with fail
    refine HO.out.mono ?_
    rintro e w1 ⟨rfl, rfl⟩
    go_wp2_with fail
    go_ret
    exact ⟨bV HS.out.symm, rfl⟩
set_option maxHeartbeats 1000000 in
theorem c_sure (d n : Int) (h : BenAt dm w p v Fs ps M) :
    Calls Tryz.prog 45 #[.pointer (some ⟨p, 0, none⟩), .int .i64 d, .int .i64 n] w fun e w' => e = .returned (.tuple #[blk (suB6 M d n), .int .i64 (suE6 M d n)]) ∧ Below w.heap.size w w' := by
  have hA := (Below.refl w.heap.size w).alloc (Nat.le_refl _) (.cells (cel au).toArray 58)
  have h1 := h.below hA
  have HT := Lib.hid (dj w au 58)
  have HA := Lib.hid hA
  rcases hasE_is M d with ⟨e, ho⟩ | ⟨e, k, rfl, hk⟩
  · have HB : Hid (suB6 M d n = au) := Lib.hid (by unfold suB6; rw [if_neg (by omega)])
    have HE : Hid (suE6 M d n = 2) := Lib.hid (by unfold suE6; rw [if_neg (by omega), e])
    have HO := Lib.hid (c_has_no h1 ho)
    clear e h h1 ho hA
    rw [HB.out, HE.out]
    go_enter Tryz.func45, Tryz.ntmps45
    go_wp2_with (first | (refine ag rfl (aQ rfl) ?_) | fail)
    refine HO.out.mono ?_
    rintro e w1 ⟨rfl, rfl⟩
    go_wp2_with (first | (refine ag rfl (cn (c := au) (parts := []) rfl rfl) ?_) | (refine aN rfl (bj rfl rfl rfl HT.out) ?_))
    exact bodyPost_ret (bQ rfl _ _ _ rfl (World.rangeAt_setCells_same _ _ _ _ (by rw [az]; exact HT.out))) rfl ⟨rfl, below_setCells HA.out (Nat.le_refl _) _⟩
  · obtain ⟨x, hx⟩ : ∃ x, M.ds.getD k bq = x := ⟨_, rfl⟩
    have hat := h1.devs.at_ k hk
    rw [hx] at hat
    have HB : Hid (suB6 M (k : Int) n = dP x.S x.g n) := Lib.hid (by unfold suB6; rw [if_pos e, ← hx]; rfl)
    have HE : Hid (suE6 M (k : Int) n = cC x.S x.g n) := Lib.hid (by unfold suE6; rw [if_pos e, ← hx]; rfl)
    have HO := Lib.hid (c_has_ok h1 hk)
    have HD := Lib.hid (rv_sure n hat)
    have HSZ := Lib.hid (World.size_alloc w (.cells (cel au).toArray 58))
    obtain ⟨g, c, rfl, _, _⟩ := h1.slice
    obtain ⟨c0, c1, c2, c3⟩ := h1.rcells
    have ck := h1.cell hk
    clear e h h1 hat hx hA
    rw [HB.out, HE.out]
    clear HB HE
    generalize dP x.S x.g n = y at *
    generalize cC x.S x.g n = z at *
    generalize ps.getD k 0 = q at *
    go_enter Tryz.func45, Tryz.ntmps45
    go_wp2_with (first | (refine ag rfl (aQ rfl) ?_) | fail)
    refine HO.out.mono ?_
    rintro e w1 ⟨rfl, rfl⟩
    go_wp2_with fail
    refine HD.out.mono ?_
    rintro e w2 ⟨rfl, hb⟩
    have HT2 := Lib.hid (aI HT.out (by rw [HSZ.out]; omega) hb)
    have HB2 := Lib.hid (HA.out.trans (hb.mono (by rw [HSZ.out]; omega)))
    clear hb
    go_wp2_with (first | (refine aN rfl (bj rfl rfl rfl HT2.out) ?_) | fail)
    exact bodyPost_ret (bQ rfl _ _ _ rfl (World.rangeAt_setCells_same _ _ _ _ (by rw [az]; exact HT2.out))) rfl ⟨rfl, below_setCells HB2.out (Nat.le_refl _) _⟩
end
section
variable {w w' : World}
set_option maxHeartbeats 2000000 in
theorem c_new {A : Option Addr} {n c : Nat} {ks : List Int} (hl : RdE IntE w w.heap.size A n ks) (hnc : n ≤ c) (hc : c ≤ maxLen) :
    Calls Tryz.prog 7 #[.slice A n c] w (dE dm w ks) := by
  have hlen : ks.length = n := hl.1
  unfold maxLen at hc
  by_cases h1 : n < 1
  · have HN := Lib.hid (show ¬ newOk ks from fun h => by have := h.1; omega)
    have h0 : n = 0 := by omega
    subst h0
    clear hl hlen h1
    go_enter Tryz.func7, Tryz.ntmps7
    go_wp2
    go_ret2
    exact dE.no (Below.refl _ _) HN.out rfl
  by_cases h2 : 17 < n
  · have HN := Lib.hid (show ¬ newOk ks from fun h => by have := h.2.1; omega)
    have h1' : ¬((n : Int) < 1) := by omega
    have h2' : ((n : Int) > 17) := by omega
    clear hl hlen h1 h2
    go_enter Tryz.func7, Tryz.ntmps7
    go_wp2
    go_ret2
    exact dE.no (Below.refl _ _) HN.out rfl
  have h1' : ¬((n : Int) < 1) := by omega
  have h2' : ¬((n : Int) > 17) := by omega
  have h3' : ¬(17 < (n : Int)) := by omega
  have HL := Lib.hid hl
  have HLEN := Lib.hid hlen
  have HMK := Lib.hid (show Making dm w (w.alloc (.cells #[.slice none 0 0, .int .i64 0, .bool false, .int .i64 0] 84)) (.slice none 0 0) (fun _ _ => False) [] [] 0 false 0 from
    ⟨heap_alloc_new w _, bh.nil _ _, ⟨rfl, fun i hi => absurd hi (Nat.not_lt_zero i), fun i j hi => absurd hi (Nat.not_lt_zero i)⟩, fun i hi => absurd hi (Nat.not_lt_zero i), (Below.refl _ w).alloc (Nat.le_refl _) _⟩)
  clear hl hlen
  go_enter Tryz.func7, Tryz.ntmps7
  go_wp2_with fail
  generalize w.alloc (.cells #[.slice none 0 0, .int .i64 0, .bool false, .int .i64 0] 84) = w0 at *
  clear h1' h2' h3'
  go_loopw [5] (fun i wr => ∃ (j : Nat) (v : Value) (Fs : Nat → Nat → Prop) (ps : List Nat), j ≤ n ∧ i = .int .i64 j ∧ Making dm w wr v Fs ps ((ks.take j).map newD) 0 false 0 ∧ ∀ q, q < j → 1 ≤ ks.getD q 0 ∧ ks.getD q 0 ≤ 512) (fun i _ => n - (intOf i).toNat)
  case atStart => exact ⟨0, _, _, _, Nat.zero_le _, rfl, HMK.out, fun q hq => absurd hq (Nat.not_lt_zero q)⟩
  case round =>
    obtain ⟨j, v, Fs, ps, hj, rfl, hmk, hall⟩ := hrel
    have HALL := Lib.hid hall
    clear hall HMK
    by_cases hlt : j < n
    · have hlj : (j : Int) < (n : Int) := by omega
      obtain ⟨bA, oA, rfl, hbA, hcA⟩ := (HL.out.below hmk.below).int hlt
      have HM := Lib.hid hmk
      obtain ⟨AS, cS, rfl, hs1, hs2⟩ := hmk.row.form
      unfold maxLen at hs2
      have hpl : ps.length = j := by have := hmk.devs.len; rw [List.length_map, List.length_take] at this; have := HLEN.out; omega
      have HPL := Lib.hid hpl
      obtain ⟨z, hz⟩ : ∃ z, ks.getD j 0 = z := ⟨_, rfl⟩
      rw [hz] at hcA
      have HZ := Lib.hid hz
      clear hmk hz hpl
      by_cases hok : 1 ≤ z ∧ z ≤ 512
      · obtain ⟨k, rfl⟩ : ∃ k : Nat, z = k := ⟨z.toNat, by omega⟩
        have hk1 : 1 ≤ k := by omega
        have hk2 : k ≤ 512 := by omega
        clear hok
        go_wp2_with fail
        refine (rv_new k wr hk1 hk2).mono ?_
        rintro e w1 ⟨p', F', rfl, hd1, hb1, hF1⟩
        have hat1 := am HM.out.at_ hb1
        obtain ⟨c0, c1, c2, c3⟩ := r4cells hat1
        have hrow1 := HM.out.row.below hb1
        have hrow2 := hrow1.below ((Below.refl _ w1).alloc (Nat.le_refl _) (.cells (dm.E.cel p').toArray dm.E.t))
        have HR := Lib.hid hrow2
        have HNEW := Lib.hid (rdE_new (E := dm.E) (l := [p']) w1 (dm.E.cel p').toArray dm.E.t (by rw [dH]; simp [bY]))
        have HSZ := Lib.hid (show w.heap.size ≤ (w1.alloc (.cells (dm.E.cel p').toArray dm.E.t)).heap.size by rw [World.size_alloc]; have := HM.out.below.size; have := hb1.size; omega)
        have HD1 := Lib.hid hd1
        have HB1 := Lib.hid hb1
        have HF1 := Lib.hid hF1
        have HAT := Lib.hid hat1
        have HPS := Lib.hid (show ps.length + 1 ≤ 34359738368 by have := HPL.out; omega)
        clear hd1 hb1 hF1 hat1 hrow1 hrow2
        have hal : w.heap.size < w1.heap.size := aD HAT.out
        go_wp2_with (first | (refine ag rfl (exec_mk1E (E := dm.E) (a := p') rfl rfl rfl (by decide)) ?_) | (at_builtin; refine wpList_appE_own dm.E rfl _ _ rfl w.heap.size _ _ _ _ ps [p'] _ rfl rfl HR.out HNEW.out HSZ.out HPS.out ?_) | fail)
        intro v' w3 hm3 hg3 ho3
        have hxv : v'.ownBlock ≠ some w.heap.size := fun e => by
          rcases ho3 _ e with e' | e'
          · exact HM.out.row.not_at HM.out.at_ dm.ne e'
          · omega
        have HNX := Lib.hid (HM.out.next (fun _ _ => rfl) HB1.out HF1.out (d := newD k) HD1.out hm3 hg3 ho3)
        have hvx : (Value.slice AS ps.length cS).ownBlock ≠ some w.heap.size := HM.out.row.not_at HM.out.at_ dm.ne
        have hat3 : w3.heap[w.heap.size]? = some _ := (hg3.block w.heap.size (by rw [World.size_alloc]; omega) (fun e => hvx e.symm)).trans (bk HAT.out _)
        obtain ⟨AV, cV, rfl, _, _⟩ := hm3.form
        obtain ⟨d0, d1, d2, d3⟩ := r4cells hat3
        have f0 := frozen_of_row w3 w.heap.size 0 _ _ hat3
        clear hm3 hg3 ho3 hat3 c0 c1 c2 c3
        go_wp2_with fail
        go_roundw
        case rel =>
          refine ⟨j + 1, .slice AV (ps.length + 1) cV, upF Fs (List.map newD (List.take j ks)).length F', ps ++ [p'], by omega, by go_num, ?_, fun q hq => ?_⟩
          · rw [take_map_succ (by have := HLEN.out; omega), HZ.out]
            have h6 := HNX.out
            rw [show (ps ++ [p']).length = ps.length + 1 from by simp] at h6
            exact h6
          · by_cases e : q = j
            · subst e; rw [HZ.out]; omega
            · exact HALL.out q (by omega)
        case measure => simp [intOf]; omega
      · have HB := Lib.hid HM.out.below
        have HN := Lib.hid (show ¬ newOk ks from fun h => hok (by have := h.2.2 z (by rw [← HZ.out]; exact getD_mem (by have := HLEN.out; omega)); exact this))
        go_wp2_with fail
        refine (r_new_no z wr hok).mono ?_
        rintro e w1 ⟨rfl, rfl⟩
        have HB1 := Lib.hid HB.out
        clear hok
        go_wp2_with fail
        go_ret2
        exact dE.no HB1.out HN.out rfl
    · have hjn : j = n := by omega
      subst hjn
      have hlj : ¬((j : Int) < (j : Int)) := by omega
      have HM := Lib.hid hmk
      clear hmk
      go_wp2_with fail
      go_ret2
      have h5 := HM.out
      have hLL := HLEN.out
      rw [← hLL, List.take_length] at h5
      obtain ⟨g1, g2, g3⟩ := h5.done (by rw [List.length_map]; omega) (by rw [List.length_map]; omega)
      refine ⟨g3, .inl ⟨⟨by omega, by omega, fun k hk => ?_⟩, _, _, _, _, rfl, g1, g2⟩⟩
      obtain ⟨i, hi, rfl⟩ := List.getElem_of_mem hk
      have := HALL.out i (by omega)
      rwa [List.getD_eq_getElem?_getD, List.getElem?_eq_getElem hi] at this
end
def RB (w : World) (F : Nat → Prop) (p : Nat) (M : BenS) : Prop := InB dm w F p M ∧ M.Wf
theorem wf_new {ks : List Int} (h : newOk ks) : (cE ks).Wf := by
  refine ⟨by rw [eG, List.length_map]; exact h.1, by rw [eG, List.length_map]; exact h.2.1, fun i hi => ?_⟩
  rw [eG, List.length_map] at hi
  have : ((cE ks).ds.getD i bq) = newD (ks.getD i 0) := by
    rw [eG, List.getD, List.getD, List.getElem?_map, List.getElem?_eq_getElem hi]; rfl
  rw [this]
  have h2 := h.2.2 _ (getD_mem (x := 0) hi)
  show 1 ≤ (List.replicate _ _).length ∧ (List.replicate _ _).length ≤ 512
  rw [List.length_replicate]
  omega
structure BenQ where
  Bn : World → (Nat → Prop) → Nat → BenS → Prop
  lt : ∀ {w F p M}, Bn w F p M → ∀ b, F b → b < w.heap.size
  only : ∀ {w w' F G p M}, Bn w F p M → Only G w w' → (∀ b, F b → ¬ G b) → Bn w' F p M
  wf : ∀ {w F p M}, Bn w F p M → M.Wf
  sure : ∀ {w F p M} (d n : Int), Bn w F p M → Calls Tryz.prog 45 #[.pointer (some ⟨p, 0, none⟩), .int .i64 d, .int .i64 n] w fun e w' => e = .returned (.tuple #[blk (suB6 M d n), .int .i64 (suE6 M d n)]) ∧ Below w.heap.size w w'
  devices : ∀ {w F p M}, Bn w F p M → Calls Tryz.prog 39 #[.pointer (some ⟨p, 0, none⟩)] w fun e w' => e = .returned (.int .i64 (M.ds.length : Int)) ∧ Below w.heap.size w w'
  dv : ∀ {w F p M} (d : Int), Bn w F p M → Calls Tryz.prog 40 #[.pointer (some ⟨p, 0, none⟩), .int .i64 d] w fun e w' => e = .returned (.int .i64 (seN6 M d)) ∧ Below w.heap.size w w'
  bX : ∀ {w F p M}, Bn w F p M → Calls Tryz.prog 43 #[.pointer (some ⟨p, 0, none⟩)] w fun e w' => e = .returned (.bool M.bX) ∧ Below w.heap.size w w'
  steps : ∀ {w F p M}, Bn w F p M → Calls Tryz.prog 44 #[.pointer (some ⟨p, 0, none⟩)] w fun e w' => e = .returned (.int .i64 (M.steps : Int)) ∧ Below w.heap.size w w'
  new : ∀ {w A n c ks}, RdE IntE w w.heap.size A n ks → n ≤ c → c ≤ maxLen → Calls Tryz.prog 7 #[.slice A n c] w (NewB Bn w ks)
theorem BenQ.below (R : BenQ) {w w' : World} {F : Nat → Prop} {p : Nat} {M : BenS} (h : R.Bn w F p M) (k : Below w.heap.size w w') : R.Bn w' F p M := R.only h (Only.of_below (fun _ => False) k) fun _ _ e => e
def cz : BenQ where
  Bn := RB
  lt := fun h => h.1.lt
  only := fun h ho hn => ⟨h.1.only ho hn, h.2⟩
  wf := fun h => h.2
  sure := fun d n ⟨⟨_, _, _, _, h⟩, _⟩ => c_sure d n h
  devices := fun ⟨⟨_, _, _, _, h⟩, _⟩ => (c_devices h).mono fun e w' ⟨h1, h2⟩ => ⟨h1, by subst h2; exact Below.refl _ _⟩
  dv := fun d ⟨⟨_, _, _, _, h⟩, _⟩ => (c_sectors d h).mono fun e w' ⟨h1, h2⟩ => ⟨h1, by subst h2; exact Below.refl _ _⟩
  bX := fun ⟨⟨_, _, _, _, h⟩, _⟩ => (c_dark h).mono fun e w' ⟨h1, h2⟩ => ⟨h1, by subst h2; exact Below.refl _ _⟩
  steps := fun ⟨⟨_, _, _, _, h⟩, _⟩ => (c_steps h).mono fun e w' ⟨h1, h2⟩ => ⟨h1, by subst h2; exact Below.refl _ _⟩
  new := fun h1 h2 h3 => (c_new h1 h2 h3).mono fun e w' h => by
    obtain ⟨g1, g | g⟩ := h
    · obtain ⟨g0, p, v, Fs, ps, g2, g3, g4⟩ := g
      exact ⟨g1, .inl ⟨g0, p, _, g2, ⟨⟨v, Fs, ps, rfl, g3⟩, wf_new g0⟩, g4⟩⟩
    · exact ⟨g1, .inr g⟩
section
variable {ρ : Operand → Value} {o : Oper} {x y : Operand} {w : World} {t : TypeId} {old cs : Array Value}
theorem exec_fillT (hz : (Tryz.prog.info? t).map (·.size) = some cs.size) (he : old.size = cs.size) (h1 : cs.toList.all Value.oneCell' = true) (ho : o.op = .store t x y) (hx : ρ x = .pointer (some ⟨w.heap.size, 0, none⟩)) (hy : ρ y = .agg cs) :
    (execOp ρ o).run Tryz.prog (w.alloc (.cells old t)) = .ok .skip (w.alloc (.cells cs t)) := by
  have h := run_storeAt_new (P := Tryz.prog) w t old cs hz he (by simpa using h1)
  unfold execOp
  simp only [ho, hx, hy, Sem.run_bind, h, Result.andThen_ok, Sem.run_pure]
end
def arr (l : List UInt8) : Value := .agg (vals l).toArray
section
variable {ρ : Operand → Value} {o : Oper} {x y : Operand} {w : World} {b off : Nat} {t : TypeId} {cs ds : List Value} {d : TypeDesc}
theorem cd (hu : Tryz.prog.underlying t = some d) (hd : d.isRow = true) (hz : (Tryz.prog.info? t).map (·.size) = some cs.length) (ho : o.op = .load t x) (hx : ρ x = .pointer (some ⟨b, off, none⟩)) (hc : w.rangeAt b off cs) :
    (execOp ρ o).run Tryz.prog w = .ok (.value (.agg cs.toArray)) w := aq ho hx (run_loadAt_mid w b off t cs d hc hu hd hz)
theorem cy (ho : o.op = .box t x) (hx : ρ x = .agg cs.toArray) : (execOp ρ o).run Tryz.prog w = .ok (.value (.pointer (some ⟨w.heap.size, 0, none⟩))) (w.alloc (.cells cs.toArray t)) := by
  unfold execOp
  simp [ho, hx, Instr.box, newVar, newRow, Value.cells]
theorem run_zeroT {v : Value} (h : (Tryz.prog.info? t).map (fun i => i.zero) = some (some v)) (w : World) : (zeroValue t).run Tryz.prog w = .ok v w := by
  cases hq : Tryz.prog.info? t with
  | none => rw [hq] at h; cases h
  | some i =>
    rw [hq] at h
    simp only [Option.map_some, Option.some.injEq] at h
    simp [zeroValue, typeInfo, hq, h]
theorem cZ (h : (Tryz.prog.info? t).map (fun i => i.zero) = some (some (.agg cs.toArray))) (ho : o.op = .alloc t) : (execOp ρ o).run Tryz.prog w = .ok (.value (.pointer (some ⟨w.heap.size, 0, none⟩))) (w.alloc (.cells cs.toArray t)) := by
  have hz := run_zeroT h w
  unfold execOp
  simp [ho, Instr.alloc, hz, newVar, newRow, Value.cells]
theorem eD (hz : (Tryz.prog.info? t).map (·.size) = some cs.length) (h1 : ∀ v ∈ cs, v.oneCell' = true) (ho : o.op = .store t x y) (hx : ρ x = .pointer (some ⟨b, off, none⟩)) (hy : ρ y = .agg cs.toArray) (ht : w.there b off cs.length) :
    (execOp ρ o).run Tryz.prog w = .ok .skip (w.setCells b off cs) := by
  have h := run_storeAt_mid (P := Tryz.prog) w b off t cs.toArray (by simpa using ht) (by simpa using hz) (all_oneCell_toArray h1)
  refine exec_st ho hx hy ?_
  simpa using h
theorem eE (hz : (Tryz.prog.info? t).map (·.size) = some cs.length) (he : ds.length = cs.length) (h1 : ∀ v ∈ cs, v.oneCell' = true) (ho : o.op = .store t x y) (hx : ρ x = .pointer (some ⟨w.heap.size, 0, none⟩)) (hy : ρ y = .agg cs.toArray) :
    (execOp ρ o).run Tryz.prog (w.alloc (.cells ds.toArray t)) = .ok .skip (w.alloc (.cells cs.toArray t)) :=
  exec_fillT (by simpa using hz) (by simpa using he) (by simpa using h1) ho hx hy
theorem exec_bld0 {v : Value} (ho : o.op = .build t #[]) (h : (Instr.build t #[]).run Tryz.prog w = .ok v w) : (execOp ρ o).run Tryz.prog w = .ok (.value v) w := by
  unfold execOp
  simp only [ho, List.map_toArray, List.map_nil, Sem.run_bind, h, Result.andThen_ok, Sem.run_pure]
theorem exec_eqT {r : TypeId} {xs ys : Array Value} {c : Bool} (hg : Tryz.prog.eqGuardType Tryz.prog.depth t = false) (he : (Op.equalIn 10000 t (.agg xs) (.agg ys)).run Tryz.prog w = .ok c w) (ho : o.op = .binOp .eql t x y r) (hx : ρ x = .agg xs) (hy : ρ y = .agg ys) :
    (execOp ρ o).run Tryz.prog w = .ok (.value (.bool c)) w := by
  have h := run_eql_struct (P := Tryz.prog) w t xs ys
  rw [he] at h
  unfold execOp
  simp only [ho, hx, hy, Sem.run_bind, run_eqGuard_agg w .eql t x y xs ys hg, Result.andThen_ok]
  rw [h]
  simp
theorem exec_neT {r : TypeId} {xs ys : Array Value} {c : Bool} (hg : Tryz.prog.eqGuardType Tryz.prog.depth t = false) (he : (Op.equalIn 10000 t (.agg xs) (.agg ys)).run Tryz.prog w = .ok c w) (ho : o.op = .binOp .neq t x y r) (hx : ρ x = .agg xs) (hy : ρ y = .agg ys) :
    (execOp ρ o).run Tryz.prog w = .ok (.value (.bool (!c))) w := by
  have h := run_neq_struct (P := Tryz.prog) w t xs ys
  rw [he] at h
  unfold execOp
  simp only [ho, hx, hy, Sem.run_bind, run_eqGuard_agg w .neq t x y xs ys hg, Result.andThen_ok]
  rw [h]
  simp
end
section
variable {ρ : Operand → Value} {o : Oper} {x y : Operand} {w : World} {t r : TypeId} {k : IntKind} {a b : Int}
theorem cG (c : Bool) (ho : o.op = .binOp .gtr t x y r) (hx : ρ x = .int k a) (hy : ρ y = .int k b) (h : decide (b < a) = c) : (execOp ρ o).run Tryz.prog w = .ok (.value (.bool c)) w := by
  unfold execOp
  simp [ho, hx, hy, eqGuard, binOp, Op.intCmp, h]
theorem cl (c : Bool) (ho : o.op = .binOp .geq t x y r) (hx : ρ x = .int k a) (hy : ρ y = .int k b) (h : decide (b ≤ a) = c) : (execOp ρ o).run Tryz.prog w = .ok (.value (.bool c)) w := by
  unfold execOp
  simp [ho, hx, hy, eqGuard, binOp, Op.intCmp, h]
theorem dO (c : Bool) (ho : o.op = .binOp .leq t x y r) (hx : ρ x = .int k a) (hy : ρ y = .int k b) (h : decide (a ≤ b) = c) : (execOp ρ o).run Tryz.prog w = .ok (.value (.bool c)) w := by
  unfold execOp
  simp [ho, hx, hy, eqGuard, binOp, Op.intCmp, h]
theorem bH (c : Bool) (ho : o.op = .binOp .lss t x y r) (hx : ρ x = .int k a) (hy : ρ y = .int k b) (h : decide (a < b) = c) : (execOp ρ o).run Tryz.prog w = .ok (.value (.bool c)) w := by
  unfold execOp
  simp [ho, hx, hy, eqGuard, binOp, Op.intCmp, h]
theorem ldU8 {ad : Addr} {n : Int} (h : w.cell? ad = some (.int .u8 n)) : (Instr.loadAt 5 (.pointer (some ad))).run Tryz.prog w = .ok (.int .u8 n) w := by simp [go_sem, h]
end
theorem aW {w : World} {ad : Addr} {k : Int} (h : w.cell? ad = some (.int .i64 k)) : (Instr.loadAt 3 (.pointer (some ad))).run Tryz.prog w = .ok (.int .i64 k) w := by simp [go_sem, h]
theorem ldU64 {w : World} {ad : Addr} {k : Int} (h : w.cell? ad = some (.int .u64 k)) : (Instr.loadAt 23 (.pointer (some ad))).run Tryz.prog w = .ok (.int .u64 k) w := by simp [go_sem, h]
theorem run_eqArr {t : TypeId} {n : Nat} (hu : Tryz.prog.underlying t = some (.array n 5)) (w : World) (a b : List UInt8) (ha : a.length = n) (hb : b.length = n) (d : Nat) : (Op.equalIn (d + 2) t (arr a) (arr b)).run Tryz.prog w = .ok (decide (a = b)) w := by
  have he : ∀ x y : Int, (Op.equalIn (d + 1) 5 (.int .u8 x) (.int .u8 y)).run Tryz.prog w = .ok (x == y) w := fun x y => run_equalIn_int w d 5 .u8 .u8 x y Tryz.underlying5
  have hp : ∀ (c : List UInt8) (i : Nat), i < c.length → (part 5 (vals c).toArray (i * 1)).run Tryz.prog w = .ok (.int .u8 (bt c i)) w := fun c i hi => by
    have := er hi
    simp [part, this]
  show (Op.equalIn ((d + 1) + 1) t (arr a) (arr b)).run Tryz.prog w = .ok (decide (a = b)) w
  generalize d + 1 = e at *
  have key : ∀ (l : List Nat), (∀ i ∈ l, i < n) →
      ((forIn l ((none : Option Bool), ()) fun i r => do
        let x ← part 5 (vals a).toArray (i * 1)
        let y ← part 5 (vals b).toArray (i * 1)
        let z ← Op.equalIn e 5 x y
        if (!z) = true then pure (ForInStep.done (some false, ())) else pure (ForInStep.yield (none, ())) : Sem _)).run Tryz.prog w =
      .ok (if l.all (fun i => bt a i == bt b i) then (none, ()) else (some false, ())) w := by
    intro l
    induction l with
    | nil => intro _; simp
    | cons i l ih =>
      intro hl
      have hi := hl i (by simp)
      simp only [List.forIn_cons, Sem.run_bind, hp a i (by omega), hp b i (by omega), Result.andThen_ok, he]
      by_cases h : bt a i = bt b i
      · have hb : (bt a i == bt b i) = true := by simpa using h
        simp only [hb, Bool.not_true, Bool.false_eq_true, if_false, Sem.run_pure, Result.andThen_ok, List.all_cons, Bool.true_and]
        exact ih fun j hj => hl j (by simp [hj])
      · have hb : (bt a i == bt b i) = false := by simpa using h
        simp [hb]
  have hall : ((List.range' 0 n).all fun i => bt a i == bt b i) = decide (a = b) := by
    rw [Bool.eq_iff_iff, List.all_eq_true, decide_eq_true_iff]
    constructor
    · intro h
      exact dl (by omega) fun j hj => by simpa using h j (by simp [List.mem_range']; omega)
    · rintro rfl i _
      simp
  have hk := key (List.range' 0 n) (fun i hi => by simp [List.mem_range'] at hi; omega)
  rw [hall] at hk
  simp only [Op.equalIn, arr, Sem.run_bind, run_underlying hu, Result.andThen_ok, Tryz.sizeOf5, Std.Legacy.Range.forIn_eq_forIn_range']
  simp only [Std.Legacy.Range.size, Nat.sub_zero, Nat.add_sub_cancel, Nat.div_one]
  rw [hk]
  by_cases h : a = b
  · simp [h]
  · simp [h]
theorem a4 {w : World} {b : Nat} {t : TypeId} {cs : List Value} (h : w.heap[b]? = some (.cells cs.toArray t (0, 0))) : w.rangeAt b 0 cs := fun j v hj => by
  rw [cell_of_row w b (0 + j) _ t (0, 0) h, Nat.zero_add]
  simpa using hj
theorem dN {w : World} {b o k : Nat} {cs ds es fs : List Value} (h : w.rangeAt b o cs) (e : cs = ds ++ (es ++ fs)) (hk : ds.length = k) : w.rangeAt b (o + k) es := fun j v hj => by
  subst e hk
  have := h (ds.length + j) v (by
    rw [List.getElem?_append_right (by omega), Nat.add_sub_cancel_left, List.getElem?_append_left (List.getElem?_eq_some_iff.1 hj).1]
    exact hj)
  rwa [← Nat.add_assoc] at this
theorem ch {w : World} {b : Nat} {t : TypeId} {cs : List Value} (h : w.heap[b]? = some (.cells cs.toArray t (0, 0))) {o n : Nat} (hn : o + n ≤ cs.length) : w.there b o n := fun j hj => by
  rw [cell_of_row w b (o + j) _ t (0, 0) h, frozen_of_row w b (o + j) _ t h]
  exact ⟨by simp; omega, rfl⟩
theorem da {fn : Func} {p q u : Tmp} {t : TypeId} {cs : List Value} {d : TypeDesc} (h : fn.results = #[.tmp p, .cell q t, .tmp u]) (tmps : Array Value) (w : World) (b : Nat) (hq : tmps.getD q undef = .pointer (some ⟨b, 0, none⟩)) (hr : w.rangeAt b 0 cs) (hu : Tryz.prog.underlying t = some d) (hd : d.isRow = true) (hz : (Tryz.prog.info? t).map (·.size) = some cs.length) :
    (results fn tmps).run Tryz.prog w = .ok (.tuple #[tmps.getD p undef, .agg cs.toArray, tmps.getD u undef]) w := by
  have hl : (loadVar t ⟨b, 0, none⟩).run Tryz.prog w = .ok (.agg cs.toArray) w := run_loadVar_mid (P := Tryz.prog) w b 0 t cs d hr hu hd hz
  have hq' : tmps[q]?.getD undef = .pointer (some ⟨b, 0, none⟩) := by simpa using hq
  simp [results, h, hq', asAddr, hl]
theorem res_rng {fn : Func} {p : Tmp} {t : TypeId} {cs : List Value} {d : TypeDesc} (h0 : fn.results = #[.cell p t]) (tmps : Array Value) (w : World) (b : Nat) (hp : tmps.getD p undef = .pointer (some ⟨b, 0, none⟩)) (hr : w.rangeAt b 0 cs) (hu : Tryz.prog.underlying t = some d) (hd : d.isRow = true) (hz : (Tryz.prog.info? t).map (·.size) = some cs.length) :
    (results fn tmps).run Tryz.prog w = .ok (.agg cs.toArray) w := by
  have hl : (loadVar t ⟨b, 0, none⟩).run Tryz.prog w = .ok (.agg cs.toArray) w := run_loadVar_mid (P := Tryz.prog) w b 0 t cs d hr hu hd hz
  have hp' : tmps[p]?.getD undef = .pointer (some ⟨b, 0, none⟩) := by simpa using hp
  simp [results, h0, hp', asAddr, hl]
theorem size_setCells (w : World) (b o : Nat) (vs : List Value) : (w.setCells b o vs).heap.size = w.heap.size := (ed b vs o w).1
theorem cell1 {w : World} {b : Nat} {t : TypeId} {x : Value} (h : w.heap[b]? = some (.cells #[x] t (0, 0))) : w.cell? ⟨b, 0, none⟩ = some x ∧ w.frozen? ⟨b, 0, none⟩ = false :=
  ⟨by rw [cell_of_row w b 0 _ t (0, 0) h]; rfl, frozen_of_row w b 0 _ t h⟩
theorem set1 {w : World} {b : Nat} {t : TypeId} {x : Value} (h : w.heap[b]? = some (.cells #[x] t (0, 0))) (y : Value) : (w.setCell ⟨b, 0, none⟩ y).heap[b]? = some (.cells #[y] t (0, 0)) := by
  have := heap_setCell_same w b 0 #[x] t y h
  simpa using this
theorem dU (w : World) (b o : Nat) (y : Value) : w.grownBy (w.setCell ⟨b, o, none⟩ y) (some b) :=
  ⟨rfl, rfl, rfl, by simp [World.setCell], fun k hk hne => heap_setCell_other w ⟨b, o, none⟩ k y (fun e => hne (by rw [e]))⟩
theorem bF {w w' : World} {b k : Nat} {o : Obj} (h : w.heap[b]? = some o) (hg : w.grownBy w' (some k)) (hne : b ≠ k) : w'.heap[b]? = some o := (hg.block b (aD h) (fun e => hne (by injection e))).trans h
def cU (x : Ros) : List Value := [.int .i64 x.m, .int .i64 x.s, .int .i64 x.r]
def aH (x : Ros) : List Value := .int .i64 x.m :: .int .i64 x.s :: .int .i64 x.r :: (vals x.st.toList ++ [.int .i64 x.cur, .bool x.gone])
def ros (x : Ros) : Value := .agg (aH x).toArray
def geo (x : Ros) : Value := .agg (cU x).toArray
theorem bc (x : Ros) : (aH x).length = 21 := by simp [aH, aT]
theorem celR_one (x : Ros) : ∀ v ∈ aH x, v.oneCell' = true := by
  intro v hv
  simp only [aH, List.mem_cons, List.mem_append, List.not_mem_nil, or_false] at hv
  rcases hv with rfl | rfl | rfl | hv | rfl | rfl
  · rfl
  · rfl
  · rfl
  · exact vals_one _ v hv
  · rfl
  · rfl
theorem sizeR : (Tryz.prog.info? 28).map (·.size) = some 21 := by kernel_rfl
theorem sizeG : (Tryz.prog.info? 25).map (·.size) = some 3 := by kernel_rfl
theorem size16 : (Tryz.prog.info? 26).map (·.size) = some 16 := by kernel_rfl
theorem zeroR_info : (Tryz.prog.info? 28).map (fun i => i.zero) = some (some (ros aZ)) := by kernel_rfl
theorem zero16_info : (Tryz.prog.info? 26).map (fun i => i.zero) = some (some (arr (List.replicate 16 0))) := by kernel_rfl
section
variable {ρ : Operand → Value} {o : Oper} {x y : Operand} {w : World} {b off : Nat}
theorem aR {c : Ros} (ho : o.op = .load 28 x) (hx : ρ x = .pointer (some ⟨b, off, none⟩)) (hc : w.rangeAt b off (aH c)) : (execOp ρ o).run Tryz.prog w = .ok (.value (ros c)) w :=
  cd Tryz.underlying28 rfl (by rw [bc]; exact sizeR) ho hx hc
theorem cR {c : Ros} (ho : o.op = .load 25 x) (hx : ρ x = .pointer (some ⟨b, off, none⟩)) (hc : w.rangeAt b off (cU c)) : (execOp ρ o).run Tryz.prog w = .ok (.value (geo c)) w :=
  cd Tryz.underlying25 rfl sizeG ho hx hc
theorem cY {l : List UInt8} (hl : l.length = 16) (ho : o.op = .load 26 x) (hx : ρ x = .pointer (some ⟨b, off, none⟩)) (hc : w.rangeAt b off (vals l)) : (execOp ρ o).run Tryz.prog w = .ok (.value (arr l)) w :=
  cd Tryz.underlying26 rfl (by rw [aT, hl]; exact size16) ho hx hc
theorem aP {c : Ros} (ho : o.op = .box 28 x) (hx : ρ x = ros c) : (execOp ρ o).run Tryz.prog w = .ok (.value (.pointer (some ⟨w.heap.size, 0, none⟩))) (w.alloc (.cells (aH c).toArray 28)) := cy ho hx
theorem bS (ho : o.op = .alloc 28) : (execOp ρ o).run Tryz.prog w = .ok (.value (.pointer (some ⟨w.heap.size, 0, none⟩))) (w.alloc (.cells (aH aZ).toArray 28)) := cZ zeroR_info ho
theorem exec_alloc16 (ho : o.op = .alloc 26) : (execOp ρ o).run Tryz.prog w = .ok (.value (.pointer (some ⟨w.heap.size, 0, none⟩))) (w.alloc (.cells (vals (List.replicate 16 0)).toArray 26)) := cZ zero16_info ho
theorem exec_fillR {c d : Ros} (ho : o.op = .store 28 x y) (hx : ρ x = .pointer (some ⟨w.heap.size, 0, none⟩)) (hy : ρ y = ros c) : (execOp ρ o).run Tryz.prog (w.alloc (.cells (aH d).toArray 28)) = .ok .skip (w.alloc (.cells (aH c).toArray 28)) :=
  eE (by rw [bc]; exact sizeR) (by rw [bc, bc]) (celR_one c) ho hx hy
end
theorem celR_eq (x : Ros) : aH x = cU x ++ (vals x.st.toList ++ [.int .i64 x.cur, .bool x.gone]) := rfl
theorem partR_1 (w : World) (x : Ros) : (part 26 (aH x).toArray 3).run Tryz.prog w = .ok (arr x.st.toList) w := by
  have h : ((aH x).drop 3).take 16 = vals x.st.toList := by
    show (vals x.st.toList ++ [Value.int .i64 x.cur, Value.bool x.gone]).take 16 = _
    rw [List.take_append_of_le_length (by simp [aT]), List.take_of_length_le (by simp [aT])]
  simp [part, arr, h]
section
variable {ρ : Operand → Value} {o : Oper} {x y : Operand} {w : World} {t : TypeId}
theorem guard16 : Tryz.prog.eqGuardType Tryz.prog.depth 26 = false := by kernel_rfl
theorem exec_eq16 {a b : List UInt8} (c : Bool) (ha : a.length = 16) (hb : b.length = 16) (ho : o.op = .binOp .eql 26 x y t) (hx : ρ x = arr a) (hy : ρ y = arr b) (h : decide (a = b) = c) : (execOp ρ o).run Tryz.prog w = .ok (.value (.bool c)) w := by
  subst h; exact exec_eqT guard16 (run_eqArr Tryz.underlying26 w a b ha hb 9998) ho hx hy
theorem cN {l : List UInt8} {j : Nat} (hl : l.length = 16) (hj : j < 16) (ho : o.op = .index 26 x y) (hx : ρ x = arr l) (hy : ρ y = .int .i64 (j : Int)) : (execOp ρ o).run Tryz.prog w = .ok (.value (.int .u8 (bt l j))) w := by
  have hp : (part 5 (vals l).toArray (j * 1)).run Tryz.prog w = .ok (.int .u8 (bt l j)) w := by
    have := er (l := l) (j := j) (by omega)
    simp [part, this]
  have h : (Instr.index 26 (arr l) (.int .i64 (j : Int))).run Tryz.prog w = .ok (.int .u8 (bt l j)) w := by
    have e : (0 ≤ (j : Int) ∧ (j : Int) < 16) := by omega
    unfold arr
    simp [Instr.index, asIntOf, run_underlying Tryz.underlying26, Tryz.sizeOf5, hj]
    simpa using hp
  unfold execOp
  simp only [ho, hx, hy, Sem.run_bind, h, Result.andThen_ok, Sem.run_pure]
end
def bl (w : World) (b : Nat) (x : Ros) : Prop := w.heap[b]? = some (.cells (aH x).toArray 28 (0, 0))
section
variable {w w' : World} {b : Nat} {x : Ros}
theorem bl.range (h : bl w b x) : w.rangeAt b 0 (aH x) := a4 h
theorem bl.geo (h : bl w b x) : w.rangeAt b 0 (cU x) := dN (cs := aH x) (ds := []) (k := 0) h.range rfl rfl
theorem bl.sts (h : bl w b x) : w.rangeAt b 3 (vals x.st.toList) := by
  have := dN (k := 3) h.range (celR_eq x) rfl
  rwa [Nat.zero_add] at this
theorem bl.cells (h : bl w b x) : w.cell? ⟨b, 0, none⟩ = some (.int .i64 x.m) ∧ w.cell? ⟨b, 1, none⟩ = some (.int .i64 x.s) ∧ w.cell? ⟨b, 2, none⟩ = some (.int .i64 x.r) ∧ w.cell? ⟨b, 19, none⟩ = some (.int .i64 x.cur) ∧ w.cell? ⟨b, 20, none⟩ = some (.bool x.gone) := by
  have hr := dN (k := 19) (ds := cU x ++ vals x.st.toList) (es := [.int .i64 x.cur, .bool x.gone]) (fs := []) h.range (by simp [celR_eq]) (by simp [cU, aT])
  exact ⟨h.range 0 _ rfl, h.range 1 _ rfl, h.range 2 _ rfl, hr 0 _ rfl, hr 1 _ rfl⟩
theorem bl.sta (h : bl w b x) {j : Nat} (hj : j < 16) : w.cell? ⟨b, 3 + j, none⟩ = some (.int .u8 (sta x j)) := h.sts j _ (er (by simpa using hj))
theorem bl.below {B : Nat} (h : bl w b x) (hB : b < B) (hb : Below B w w') : bl w' b x := blk_keep2 h hB hb
theorem bl.new (w : World) (x : Ros) : bl (w.alloc (.cells (aH x).toArray 28)) w.heap.size x := heap_alloc_new w _
theorem bl.past (h : bl w b x) (o : Obj) : bl (w.alloc o) b x := bk h o
theorem bl.rd (h : bl w b x) {m : Nat} (hm : m ≤ 16) : Rd w w.heap.size (some ⟨b, 3, none⟩) m (x.st.toList.take m) :=
  ⟨by simp; omega, fun k hk => ⟨b, 3, rfl, aD h, by
    rw [h.sta (j := k) (by omega)]
    unfold Proofs.YtnliphgjcaippaaGreatDoor.sta bt
    simp [List.getD, List.getElem?_take_of_lt hk]⟩⟩
end
theorem cj (w : World) (x : Ros) : bl (w.alloc (.cells (aH x).toArray 28)) w.heap.size x ∧ Below w.heap.size w (w.alloc (.cells (aH x).toArray 28)) ∧ w.heap.size < (w.alloc (.cells (aH x).toArray 28)).heap.size :=
  ⟨bl.new w x, (Below.refl w.heap.size w).alloc (Nat.le_refl _) _, by simp only [World.size_alloc]; omega⟩
section
variable {w : World} {b off : Nat}
theorem cD : (Instr.fieldAt 28 (.pointer (some ⟨b, 0, none⟩)) 0).run Tryz.prog w = .ok (.pointer (some ⟨b, 0, none⟩)) w := by kernel_rfl
theorem faR1 : (Instr.fieldAt 28 (.pointer (some ⟨b, 0, none⟩)) 1).run Tryz.prog w = .ok (.pointer (some ⟨b, 3, none⟩)) w := by kernel_rfl
theorem faG0 : (Instr.fieldAt 25 (.pointer (some ⟨b, 0, none⟩)) 0).run Tryz.prog w = .ok (.pointer (some ⟨b, 0, none⟩)) w := by kernel_rfl
theorem ix16 {g off j : Nat} (hj : j < 16) : (Instr.indexAt 26 (.pointer (some ⟨g, off, none⟩)) (.int .i64 (j : Int))).run Tryz.prog w = .ok (.pointer (some ⟨g, off + j, none⟩)) w := by
  have e : (0 ≤ (j : Int) ∧ (j : Int) < 16) := by omega
  simp [Instr.indexAt, Instr.sureAddr, asIntOf, run_underlying Tryz.underlying26, Tryz.sizeOf5, Addr.add_mid, e, hj]
theorem faR2 {b : Nat} : (Instr.fieldAt 28 (.pointer (some ⟨b, 0, none⟩)) 2).run Tryz.prog w = .ok (.pointer (some ⟨b, 19, none⟩)) w := by kernel_rfl
theorem faG1 {b : Nat} : (Instr.fieldAt 25 (.pointer (some ⟨b, 0, none⟩)) 1).run Tryz.prog w = .ok (.pointer (some ⟨b, 1, none⟩)) w := by kernel_rfl
end
theorem splice_vals (l x : List UInt8) (off : Nat) : splice (vals l) off (vals x) = vals (splice l off x) := by
  unfold splice vals
  simp [List.map_take, List.map_drop]
def bK (w : World) (g : Nat) (t : TypeId) (l : List UInt8) : Prop := w.heap[g]? = some (.cells (vals l).toArray t (0, 0))
section
variable {w w' : World} {g : Nat} {t : TypeId} {l : List UInt8}
theorem bK.lt (h : bK w g t l) : g < w.heap.size := (Array.getElem?_eq_some_iff.1 h).1
theorem bK.below {B : Nat} (h : bK w g t l) (hB : g < B) (hb : Below B w w') : bK w' g t l := (hb.block g hB).trans h
theorem bK.grown {k : Nat} (h : bK w g t l) (hk : g ≠ k) (hb : w.grownBy w' (some k)) : bK w' g t l := (hb.block g h.lt (fun e => hk (by injection e))).trans h
theorem bK.draw (h : bK w g t l) : bK w.drew g t l := h
theorem bK.past (h : bK w g t l) (o : Obj) : bK (w.alloc o) g t l := bk h o
theorem bK.cell (h : bK w g t l) {j : Nat} (hj : j < l.length) : w.cell? ⟨g, j, none⟩ = some (.int .u8 (bt l j)) := by
  rw [cell_of_row w g j _ t (0, 0) h, List.getElem?_toArray, er hj]
theorem bK.rd (h : bK w g t l) {p k : Nat} (hp : p + k ≤ l.length) : Rd w w.heap.size (some ⟨g, p, none⟩) k (piece l p k) :=
  ⟨bJ hp, fun j hj => ⟨g, p, rfl, h.lt, by rw [h.cell (by omega), eM hj]⟩⟩
theorem bK.range (h : bK w g t l) (hl : l.length = 64) : w.rangeAt g 0 (cel (ofL l)) := fun j v hj => by
  have hlt : j < 64 := by have := (List.getElem?_eq_some_iff.1 hj).1; rwa [az] at this
  rw [Nat.zero_add, h.cell (by omega), ← hj, cel_at _ hlt, ofL_byt _ hlt]
theorem bK.new (w : World) (l : List UInt8) (t : TypeId) : bK (w.alloc (.cells (vals l).toArray t)) w.heap.size t l := heap_alloc_new w _
theorem bK.blk (w : World) (b : Blk) (t : TypeId) : bK (w.alloc (.cells (cel b).toArray t)) w.heap.size t b.toList := heap_alloc_new w _
theorem bK.row (h : bK w g t l) : w.rowIs g t l.length (fun j => .int .u8 (bt l j)) :=
  ⟨_, h, by simp [aT], fun j hj => by rw [List.getElem?_toArray, er hj]⟩
end
theorem dw {w : World} {ops : Array Oper} {rest : List Oper} {o : Oper} {a : Act} {Q : Exit → Act → World → Prop} (hgd : o.guard = none) (d s : Operand)
    (ho : o.op = .call { callee := .builtin .copy, args := #[d, s], argTypes := #[100, 100] }) (g off n c m c' N : Nat) (A : Option Addr) (t : TypeId) (l x : List UInt8)
    (hd : a.eval d = .slice (some ⟨g, off, none⟩) n c) (hs : a.eval s = .slice A m c') (hS : bK w g t l) (hr : Rd w N A m x) (hmn : m ≤ n) (hfit : off + m ≤ l.length)
    (h : ∀ w', bK w' g t (splice l off x) → w.grownBy w' (some g) → wpList Tryz.prog ops Q rest (a.put o.dst (goInt m)) w') : wpList Tryz.prog ops Q (o :: rest) a w := by
  have hx := hr.1
  rcases A with _ | ad
  · have h0 : m = 0 := by
      rcases Nat.eq_zero_or_pos m with h | h
      · exact h
      · obtain ⟨b, off, e, _⟩ := hr.2 0 h
        cases e
    subst h0
    obtain rfl : x = [] := List.eq_nil_of_length_eq_zero hx
    refine wpList_copy_nothing hgd d s _ _ ho 5 Tryz.underlying100 (by kernel_rfl) _ _ _ _ _ _ hd hs (Nat.zero_min _) ?_
    exact h w (by simpa [splice] using hS) (World.grownBy.refl w _)
  · have hcl : (vals x).length = m := by rw [aT, hx]
    refine wpList_copy_own hgd d s _ _ ho 5 Tryz.underlying100 (by kernel_rfl) g off n c ad m c' hd hs _ t hS (vals x) (by rw [hcl]; exact (Nat.min_eq_left hmn).symm) (fun j v hj => ?_) (by simp [hcl, aT]; omega) (vals_one x) ?_
    · have hlt : j < m := by have := (List.getElem?_eq_some_iff.1 hj).1; omega
      obtain ⟨b, o2, e, _, hc⟩ := hr.2 j hlt
      injection e with e
      subst e
      rw [Addr.add_mid, hc, ← hj, er (by omega)]
    · have hrow := setRow_heap w g (vals l).toArray ((vals l).toArray.toList.take off ++ (vals x ++ (vals l).toArray.toList.drop (off + (vals x).length))).toArray t (0, 0) hS
      have e : (vals l).toArray.toList.take off ++ (vals x ++ (vals l).toArray.toList.drop (off + (vals x).length)) = vals (splice l off x) := by
        rw [← splice_vals]
        rfl
      rw [hcl]
      rw [hcl] at hrow e
      refine h _ ?_ ⟨rfl, rfl, rfl, by simp [World.setRow], fun k hk hne => setRow_other w g k _ (fun e => hne (by rw [e]))⟩
      unfold bK
      rw [e] at hrow ⊢
      exact hrow
theorem max_u32 : IntKind.u32.max = 4294967295 := by decide
theorem neg_bits (r : Nat) (h : r < 4294967296) : bits .xor .u32 IntKind.u32.max (r : Int) = ((neg r : Nat) : Int) := by
  rw [max_u32]
  exact u32_xor_nat 4294967295 r (by omega) h
theorem run_snoc (r : Nat) (l : List UInt8) {k : Nat} (h : k < l.length) : tak (run r (l.take k)) l[k].toNat = run r (l.take (k + 1)) := by
  rw [List.take_succ_eq_append_getElem h, run_append]
  rfl
set_option maxHeartbeats 400000 in
theorem more_any (s : Nat) (A : Option Addr) (n c N : Nat) (b : List UInt8) (w : World) (T : Tab w) (hs : s < 4294967296) (hb : Rd w N A n b) (hn : n ≤ maxLen) :
    Calls Tryz.prog 153 #[.int .u32 s, .slice A n c] w fun e w' => e = .returned (.int .u32 (more s b)) ∧ w = w' := by
  have hnb := neg_bits s hs
  have hnl := neg_lt hs
  have hlen := hb.1
  unfold maxLen at hn
  have HL := Lib.hid hlen
  clear hlen
  go_enter Tryz.func153, Tryz.ntmps153
  go_wp2
  clear hnb
  have HM : Hid (more s b = neg (run (neg s) b)) := Lib.hid rfl
  generalize neg s = r0 at *
  go_loop [5, 12] (fun x i => ∃ j : Nat, j ≤ n ∧ i = .int .i64 j ∧ x = .int .u32 (run r0 (b.take j))) (fun _ i => n - (intOf i).toNat)
  case atStart => exact ⟨0, by omega, rfl, rfl⟩
  case round =>
    obtain ⟨j, hj, rfl, rfl⟩ := hrel
    by_cases hlt : j < n
    · obtain ⟨bA, oA, rfl, hA, cA⟩ := hb.2 j hlt
      have hjl : j < b.length := by have := HL.out; omega
      rw [cp hjl] at cA
      have HS := Lib.hid (run_snoc r0 b hjl)
      have hu := UInt8.toNat_lt b[j]
      generalize b[j].toNat = u at *
      have hrl := run_lt hnl (b.take j)
      go_wp2_with fail
      refine (take_any (run r0 (b.take j)) u _ T hrl hu).mono ?_
      rintro e w' ⟨rfl, rfl⟩
      go_wp2
      go_round
      case rel => exact ⟨j + 1, by omega, by go_num, by rw [HS.out]⟩
      case measure => simp [intOf]; omega
    · have h : j = n := by omega
      subst h
      have ht : b.take j = b := List.take_of_length_le (Nat.le_of_eq HL.out)
      rw [ht]
      have hrl := run_lt hnl b
      have hnb := neg_bits (run r0 b) hrl
      clear ht
      go_wp2
      go_ret
      exact ⟨bV (by first | rw [HM.out] | rw [HM.out, hnb]), rfl⟩
set_option maxHeartbeats 400000 in
theorem refMore_any (s : Nat) (A : Option Addr) (n c N : Nat) (b : List UInt8) (w : World) (hs : s < 4294967296) (hb : Rd w N A n b) (hn : n ≤ maxLen) :
    Calls Tryz.prog 132 #[.int .u32 s, .slice A n c] w fun e w' => e = .returned (.int .u32 (more s b)) ∧ w = w' := by
  have hnb := neg_bits s hs
  have hnl := neg_lt hs
  have hlen := hb.1
  unfold maxLen at hn
  have HL := Lib.hid hlen
  clear hlen
  go_enter Tryz.func132, Tryz.ntmps132
  go_wp2
  clear hnb
  have HM : Hid (more s b = neg (run (neg s) b)) := Lib.hid rfl
  generalize neg s = r0 at *
  go_loop [5, 6] (fun x i => ∃ j : Nat, j ≤ n ∧ i = .int .i64 j ∧ x = .int .u32 (run r0 (b.take j))) (fun _ i => n - (intOf i).toNat)
  case atStart => exact ⟨0, by omega, rfl, rfl⟩
  case round =>
    obtain ⟨j, hj, rfl, rfl⟩ := hrel
    by_cases hlt : j < n
    · obtain ⟨bA, oA, rfl, hA, cA⟩ := hb.2 j hlt
      have hjl : j < b.length := by have := HL.out; omega
      rw [cp hjl] at cA
      have HS := Lib.hid (run_snoc r0 b hjl)
      have hu := UInt8.toNat_lt b[j]
      generalize b[j].toNat = u at *
      have hrl := run_lt hnl (b.take j)
      go_wp2_with fail
      refine (refTake_any (run r0 (b.take j)) u _ hrl hu).mono ?_
      rintro e w' ⟨rfl, rfl⟩
      go_wp2
      go_round
      case rel => exact ⟨j + 1, by omega, by go_num, by rw [HS.out]⟩
      case measure => simp [intOf]; omega
    · have h : j = n := by omega
      subst h
      have ht : b.take j = b := List.take_of_length_le (Nat.le_of_eq HL.out)
      rw [ht]
      have hrl := run_lt hnl b
      have hnb := neg_bits (run r0 b) hrl
      clear ht
      go_wp2
      go_ret
      exact ⟨bV (by first | rw [HM.out] | rw [HM.out, hnb]), rfl⟩
theorem of_any (A : Option Addr) (n c N : Nat) (b : List UInt8) (w : World) (T : Tab w) (hb : Rd w N A n b) (hn : n ≤ maxLen) :
    Calls Tryz.prog 141 #[.slice A n c] w fun e w' => e = .returned (.int .u32 (more 0 b)) ∧ w = w' := by
  go_enter Tryz.func141, Tryz.ntmps141
  go_wp2_with fail
  refine (more_any 0 A n c N b _ T (by omega) hb hn).mono ?_
  rintro e w' ⟨rfl, rfl⟩
  go_wp2
  go_ret
  exact ⟨rfl, rfl⟩
theorem refOf_any (A : Option Addr) (n c N : Nat) (b : List UInt8) (w : World) (hb : Rd w N A n b) (hn : n ≤ maxLen) :
    Calls Tryz.prog 119 #[.slice A n c] w fun e w' => e = .returned (.int .u32 (more 0 b)) ∧ w = w' := by
  go_enter Tryz.func119, Tryz.ntmps119
  go_wp2_with fail
  refine (refMore_any 0 A n c N b _ (by omega) hb hn).mono ?_
  rintro e w' ⟨rfl, rfl⟩
  go_wp2
  go_ret
  exact ⟨rfl, rfl⟩
section
variable {ρ : Operand → Value} {o : Oper} {x y z u : Operand} {w : World} {t : TypeId} {p q a b c : Value}
theorem eC (ho : o.op = .slice t x (some y) (some z) (some u)) (hx : ρ x = p) (hy : ρ y = a) (hz : ρ z = b) (hu : ρ u = c) (h : (Instr.sliceAt t p (some a) (some b) (some c)).run Tryz.prog w = .ok q w) : (execOp ρ o).run Tryz.prog w = .ok (.value q) w := by
  unfold execOp
  simp only [ho, hx, hy, hz, hu, Option.map_some, Sem.run_bind, h, Result.andThen_ok, Sem.run_pure]
end
section
variable (g : Nat) (w : World)
theorem cut_gen {i j k : Nat} (h1 : i ≤ j) (h2 : j ≤ k) (h3 : k ≤ 64) (h4 : i < k) : (Instr.sliceAt 58 (.pointer (some ⟨g, 0, none⟩)) (some (.int .i64 (i : Int))) (some (.int .i64 (j : Int))) (some (.int .i64 (k : Int)))).run Tryz.prog w = .ok (.slice (some ⟨g, i, none⟩) (j - i) (k - i)) w := by
  have e1 : (0 ≤ (k : Int) ∧ (k : Int) ≤ 64) := by omega
  have e2 : (0 ≤ (j : Int) ∧ (j : Int) ≤ (k : Int)) := by omega
  have e3 : (0 ≤ (i : Int) ∧ (i : Int) ≤ (j : Int)) := by omega
  have e4 : k ≠ i := by omega
  simp [Instr.sliceAt, Instr.sliceBounds, Instr.sliceBound, Instr.sureAddr, asIntOf, run_underlying undB, Tryz.sizeOf5, Addr.add_mid, e1, e2, e3, e4, h1, h2, h3]
theorem cut_a : (Instr.sliceAt 58 (.pointer (some ⟨g, 0, none⟩)) (some (.int .i64 0)) (some (.int .i64 8)) (some (.int .i64 8))).run Tryz.prog w = .ok (.slice (some ⟨g, 0, none⟩) 8 8) w := cut_gen g w (i := 0) (j := 8) (k := 8) (by omega) (by omega) (by omega) (by omega)
theorem cut_b : (Instr.sliceAt 58 (.pointer (some ⟨g, 0, none⟩)) (some (.int .i64 8)) (some (.int .i64 52)) (some (.int .i64 52))).run Tryz.prog w = .ok (.slice (some ⟨g, 8, none⟩) 44 44) w := cut_gen g w (i := 8) (j := 52) (k := 52) (by omega) (by omega) (by omega) (by omega)
theorem cut_c : (Instr.sliceAt 58 (.pointer (some ⟨g, 0, none⟩)) (some (.int .i64 52)) (some (.int .i64 56)) (some (.int .i64 56))).run Tryz.prog w = .ok (.slice (some ⟨g, 52, none⟩) 4 4) w := cut_gen g w (i := 52) (j := 56) (k := 56) (by omega) (by omega) (by omega) (by omega)
theorem cut_d : (Instr.sliceAt 58 (.pointer (some ⟨g, 0, none⟩)) (some (.int .i64 56)) (some (.int .i64 64)) (some (.int .i64 64))).run Tryz.prog w = .ok (.slice (some ⟨g, 56, none⟩) 8 8) w := cut_gen g w (i := 56) (j := 64) (k := 64) (by omega) (by omega) (by omega) (by omega)
theorem cut_e : (Instr.sliceAt 58 (.pointer (some ⟨g, 0, none⟩)) (some (.int .i64 0)) (some (.int .i64 52)) (some (.int .i64 52))).run Tryz.prog w = .ok (.slice (some ⟨g, 0, none⟩) 52 52) w := cut_gen g w (i := 0) (j := 52) (k := 52) (by omega) (by omega) (by omega) (by omega)
end
section
variable {ρ : Operand → Value} {o : Oper} {x y : Operand} {w : World} {t : TypeId} {old cs : Array Value}
theorem exec_fillD (hz : (Tryz.prog.info? t).map (·.size) = some cs.size) (he : old.size = cs.size) (h1 : cs.toList.all Value.oneCell' = true) (ho : o.op = .store t x y) (hx : ρ x = .pointer (some ⟨w.heap.size, 0, none⟩)) (hy : ρ y = .agg cs) :
    (execOp ρ o).run Tryz.prog (w.alloc (.cells old t)).drew = .ok .skip (w.alloc (.cells cs t)).drew := exec_fillT (w := w.drew) hz he h1 ho hx hy
end
theorem exec_bld5 {ρ : Operand → Value} {o : Oper} {w : World} {t : TypeId} {v : Value} {x0 x1 x2 x3 x4 : Operand} {y0 y1 y2 y3 y4 : Value} (ho : o.op = .build t #[(0, x0), (1, x1), (2, x2), (3, x3), (4, x4)]) (h0 : ρ x0 = y0) (h1 : ρ x1 = y1) (h2 : ρ x2 = y2) (h3 : ρ x3 = y3) (h4 : ρ x4 = y4)
    (h : (Instr.build t #[(0, y0), (1, y1), (2, y2), (3, y3), (4, y4)]).run Tryz.prog w = .ok v w) : (execOp ρ o).run Tryz.prog w = .ok (.value v) w := by
  subst h0 h1 h2 h3 h4
  unfold execOp
  simp only [ho, List.map_toArray, List.map_cons, List.map_nil, Sem.run_bind, h, Result.andThen_ok, Sem.run_pure]
theorem res_row {fn : Func} {p : Tmp} {t : TypeId} {cs : Array Value} {d : TypeDesc} (h0 : fn.results = #[.cell p t]) (tmps : Array Value) (w : World) (b : Nat) (hp : tmps.getD p undef = .pointer (some ⟨b, 0, none⟩)) (h : w.heap[b]? = some (.cells cs t (0, 0))) (hu : Tryz.prog.underlying t = some d) (hd : d.isRow = true) (hz : (Tryz.prog.info? t).map (·.size) = some cs.size) :
    (results fn tmps).run Tryz.prog w = .ok (.agg cs) w := by
  have hr : w.rangeAt b 0 cs.toList := fun j v hj => by
    rw [cell_of_row w b (0 + j) cs t (0, 0) h, Nat.zero_add]
    simpa using hj
  have hl : (loadVar t ⟨b, 0, none⟩).run Tryz.prog w = .ok (.agg cs) w := by
    have := run_loadVar_mid (P := Tryz.prog) w b 0 t cs.toList d hr hu hd (by simpa using hz)
    simpa using this
  have hp' : tmps[p]?.getD undef = .pointer (some ⟨b, 0, none⟩) := by simpa using hp
  simp [results, h0, hp', asAddr, hl]
theorem grown_of_below {w w' : World} {row : Option Nat} (hb : Below w.heap.size w w') : w.grownBy w' row := ⟨hb.os, hb.tape, hb.output, hb.size, fun k hk _ => hb.block k hk⟩
def dX (g : Nat) : Array Value := #[.slice (some ⟨g, 0, none⟩) 8 8, .slice (some ⟨g, 8, none⟩) 44 44, .slice (some ⟨g, 52, none⟩) 4 4, .slice (some ⟨g, 56, none⟩) 8 8, .slice (some ⟨g, 0, none⟩) 52 52]
theorem parts5 (g : Nat) (w : World) : (Instr.build 171 #[(0, .slice (some ⟨g, 0, none⟩) 8 8), (1, .slice (some ⟨g, 8, none⟩) 44 44), (2, .slice (some ⟨g, 52, none⟩) 4 4), (3, .slice (some ⟨g, 56, none⟩) 8 8), (4, .slice (some ⟨g, 0, none⟩) 52 52)]).run Tryz.prog w = .ok (.agg (dX g)) w := by kernel_rfl
set_option maxHeartbeats 1000000 in
theorem cut_any (g : Nat) (w : World) : Calls Tryz.prog 139 #[.pointer (some ⟨g, 0, none⟩)] w fun e w' => e = .returned (.agg #[.slice (some ⟨g, 0, none⟩) 8 8, .slice (some ⟨g, 8, none⟩) 44 44, .slice (some ⟨g, 52, none⟩) 4 4, .slice (some ⟨g, 56, none⟩) 8 8, .slice (some ⟨g, 0, none⟩) 52 52]) ∧ Below w.heap.size w w' := by
  go_enter Tryz.func139, Tryz.ntmps139
  go_wp2_with fail
  refine wp_region_still_tail 15 (by kernel_rfl) (by kernel_rfl) ?_
  simp only [List.take_succ_cons, List.take_zero, List.drop_succ_cons, List.drop_zero]
  refine aK rfl (ai rfl (ev rfl)) ?_
  simp only [Act.put, aa, ac, ae]
  refine aK rfl (bp rfl (ev rfl)) ?_
  simp only [Act.put, aa, ac, ae]
  refine aK rfl (eC rfl (ev rfl) evk evk evk (cut_a g _)) ?_
  simp only [Act.put, aa, ac, ae]
  refine aK rfl (ai rfl (ev rfl)) ?_
  simp only [Act.put, aa, ac, ae]
  refine aK rfl (bp rfl (ev rfl)) ?_
  simp only [Act.put, aa, ac, ae]
  refine aK rfl (eC rfl (ev rfl) evk evk evk (cut_b g _)) ?_
  simp only [Act.put, aa, ac, ae]
  refine aK rfl (ai rfl (ev rfl)) ?_
  simp only [Act.put, aa, ac, ae]
  refine aK rfl (bp rfl (ev rfl)) ?_
  simp only [Act.put, aa, ac, ae]
  refine aK rfl (eC rfl (ev rfl) evk evk evk (cut_c g _)) ?_
  simp only [Act.put, aa, ac, ae]
  refine aK rfl (ai rfl (ev rfl)) ?_
  simp only [Act.put, aa, ac, ae]
  refine aK rfl (bp rfl (ev rfl)) ?_
  simp only [Act.put, aa, ac, ae]
  refine aK rfl (eC rfl (ev rfl) evk evk evk (cut_d g _)) ?_
  simp only [Act.put, aa, ac, ae]
  refine aK rfl (ai rfl (ev rfl)) ?_
  simp only [Act.put, aa, ac, ae]
  refine aK rfl (bp rfl (ev rfl)) ?_
  simp only [Act.put, aa, ac, ae]
  refine aK rfl (eC rfl (ev rfl) evk evk evk (cut_e g _)) ?_
  simp only [Act.put, aa, ac, ae]
  refine wpStill_nil ?_
  change wpList _ _ _ _ _ (World.drew _)
  refine ag rfl (exec_bld5 (v := .agg (dX g)) rfl (ev rfl) (ev rfl) (ev rfl) (ev rfl) (ev rfl) (parts5 g _)) ?_
  simp only [Act.put, aa, ac, ae]
  refine aN rfl (exec_fillD (w := w) (cs := dX g) ?s1 ?s2 ?s3 rfl (ev rfl) (ev rfl)) ?_
  case s1 => kernel_rfl
  case s2 => rfl
  case s3 => rfl
  refine wpList_nil ?_
  go_wp2_with fail
  refine bodyPost_ret (res_row (cs := dX g) (t := 171) rfl _ _ w.heap.size rfl ?h1 Tryz.underlying171 rfl ?h2) rfl ⟨rfl, ?h3⟩
  case h1 => exact heap_alloc_new w.drew _
  case h2 => kernel_rfl
  case h3 => exact bd ((Below.refl _ w).alloc (Nat.le_refl _) _)
theorem dW {b : List UInt8} {n : Nat} (h : b.length = n) : piece b 0 n = b := by
  subst h
  simp [piece]
set_option maxHeartbeats 400000 in
theorem eh (A : Option Addr) (n c N : Nat) (b : List UInt8) (w : World) (hb : Rd w N A n b) (h1 : 1 ≤ n) (h2 : n ≤ 8) :
    Calls Tryz.prog 159 #[.slice A n c] w fun e w' => e = .returned (.int .u64 (val 8 b)) ∧ w = w' := by
  have hp := dW hb.1
  have HP := Lib.hid hp
  clear hp
  go_enter Tryz.func159, Tryz.ntmps159
  go_wp2_with fail
  refine (get_ok A n c N b 0 n _ hb (by unfold maxLen; omega) h1 h2 (by omega)).mono ?_
  rintro e w' ⟨rfl, rfl⟩
  rw [HP.out]
  go_wp2
  go_ret
  exact ⟨rfl, rfl⟩
set_option maxHeartbeats 400000 in
theorem lay_any (g off k n : Nat) (t : TypeId) (l : List UInt8) (w : World) (hs : bK w g t l) (h1 : 1 ≤ k) (h2 : k ≤ 8) (ho : off + k ≤ l.length) (hn : n < 256 ^ k) :
    Calls Tryz.prog 140 #[.slice (some ⟨g, off, none⟩) k k, .int .u64 n] w fun e w' => e = .returned (.tuple #[]) ∧ bK w' g t (splice l off (aC 8 k n)) ∧ w.grownBy w' (some g) := by
  have HS := Lib.hid hs
  have HL := Lib.hid (ar 8 k n)
  clear hs
  go_enter Tryz.func140, Tryz.ntmps140
  go_wp2_with fail
  refine (put_ok n k w h1 h2 hn).mono ?_
  rintro e w1 ⟨v, rfl, hv, hb⟩
  obtain ⟨A, c, rfl, hrd, _, _⟩ := hv.made.open_ HL.out
  have HR := Lib.hid hrd
  have HS1 := Lib.hid (HS.out.below HS.out.lt hb)
  have HB := Lib.hid hb
  clear hv hrd hb
  go_wp2_with (with_reducible refine dw rfl _ _ rfl g off k k k c _ A t l (aC 8 k n) rfl rfl HS1.out HR.out (Nat.le_refl _) ho ?_)
  intro w2 hr2 hg2
  have HR2 := Lib.hid hr2
  have HG2 := Lib.hid hg2
  clear hr2 hg2
  go_wp2
  go_end0
  exact ⟨rfl, HR2.out, (grown_of_below HB.out).trans HG2.out⟩
end Go.Proofs.YtnliphgjcaippaaGreatDoor
