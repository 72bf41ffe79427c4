import Derived.Test.YtcafafdimcecpaaGreatDoorLcal
import Derived.Test.YtcafafdimcecpaaGreatDoorLcaf
import Derived.Test.YtcafafdimcecpaaGreatDoorLcZ
namespace Go.Proofs.YtcafafdimcecpaaGreatDoor
open Go.RowKit
set_option linter.unusedVariables false
set_option maxRecDepth 100000
def Rv (w : World) (F : Nat → Prop) (p : Nat) (S : List Blk) (L : List (Int × Blk)) (g : Bool) : Prop := ∃ vS vL, F = foot p vS vL ∧ RefD w p vS vL S L g ∧ Fit S L
section
variable {w w' : World} {F G : Nat → Prop} {p : Nat} {S : List Blk} {L : List (Int × Blk)} {g : Bool}
theorem Rv.lt (h : Rv w F p S L g) : ∀ b, F b → b < w.heap.size := by
  obtain ⟨vS, vL, rfl, h, _⟩ := h
  exact h.lt
theorem Rv.only (h : Rv w F p S L g) (k : Only G w w') (hn : ∀ b, F b → ¬ G b) : Rv w' F p S L g := by
  obtain ⟨vS, vL, rfl, h, hF⟩ := h
  exact ⟨vS, vL, rfl, h.only k hn, hF⟩
end
section
variable {w : World} {F : Nat → Prop} {p : Nat} {S : List Blk} {L : List (Int × Blk)} {g : Bool}
theorem rv_read (n : Int) (h : Rv w F p S L g) : Calls Tryz.prog 145 #[.pointer (some ⟨p, 0, none⟩), .int .i64 n] w fun e w' => e = .returned (.tuple #[blk (ed S L g n), .int .i64 (ce S g n)]) ∧ Below w.heap.size w w' := by
  obtain ⟨vS, vL, rfl, h, _⟩ := h
  exact r_read p vS vL S L g n w h
theorem rv_sure (n : Int) (h : Rv w F p S L g) : Calls Tryz.prog 113 #[.pointer (some ⟨p, 0, none⟩), .int .i64 n] w fun e w' => e = .returned (.tuple #[blk (sureB S g n), .int .i64 (ce S g n)]) ∧ Below w.heap.size w w' := by
  obtain ⟨vS, vL, rfl, h, _⟩ := h
  exact r_sure p vS vL S L g n w h
theorem rv_write (n : Int) (b : Blk) (hL : L.length < 1000000) (h : Rv w F p S L g) : Calls Tryz.prog 86 #[.pointer (some ⟨p, 0, none⟩), .int .i64 n, blk b] w fun e w' => e = .returned (.int .i64 (ce S g n)) ∧ ∃ F', Rv w' F' p S (wrL S L g n b) g ∧ Only F w w' ∧ Grow w F F' := by
  obtain ⟨vS, vL, rfl, h, hF⟩ := h
  refine (r_write p vS vL S L g n b w h hL).mono ?_
  rintro e w' ⟨he, vL', h1, h2, h3⟩
  refine ⟨he, _, ⟨vS, vL', rfl, h1, hF.wr g n b⟩, h2, fun k hk => ?_⟩
  rcases hk with e | e | e
  · exact .inl (.inl e)
  · exact .inl (.inr (.inl e))
  · rcases h3 k e with e | e
    · exact .inl (.inr (.inr e))
    · exact .inr e
theorem rv_flush (h : Rv w F p S L g) : Calls Tryz.prog 158 #[.pointer (some ⟨p, 0, none⟩)] w fun e w' => e = .returned (.int .i64 (if g = true then 9 else 0)) ∧ ∃ F', Rv w' F' p (if g = true then S else flS S L) (if g = true then L else []) g ∧ Only F w w' ∧ Grow w F F' := by
  obtain ⟨vS, vL, rfl, h, hF⟩ := h
  cases g
  · refine (r_flush_ok p vS vL S L w h hF).mono ?_
    rintro e w' ⟨he, h1, h2⟩
    refine ⟨he, _, ⟨vS, _, rfl, h1, Fit.nil _⟩, h2, fun k hk => ?_⟩
    rcases hk with e | e | e
    · exact .inl (.inl e)
    · exact .inl (.inr (.inl e))
    · simp [Value.ownBlock] at e
  · refine (r_flush_dead p vS vL S L w h).mono ?_
    rintro e w' ⟨he, rfl⟩
    exact ⟨he, _, ⟨vS, vL, rfl, h, hF⟩, Only.refl _ _, Grow.same _ _⟩
theorem rv_fail (h : Rv w F p S L g) : Calls Tryz.prog 110 #[.pointer (some ⟨p, 0, none⟩)] w fun e w' => (∃ v, e = .returned v) ∧ ∃ F', Rv w' F' p S [] true ∧ Only F w w' ∧ Grow w F F' := by
  obtain ⟨vS, vL, rfl, h, hF⟩ := h
  refine (r_fail p vS vL S L g w h).mono ?_
  rintro e w' ⟨he, h1, h2⟩
  refine ⟨he, _, ⟨vS, _, rfl, h1, Fit.nil _⟩, h2, fun k hk => ?_⟩
  rcases hk with e | e | e
  · exact .inl (.inl e)
  · exact .inl (.inr (.inl e))
  · simp [Value.ownBlock] at e
theorem rv_rot (n i : Int) (u : UInt8) (h : Rv w F p S L g) : Calls Tryz.prog 108 #[.pointer (some ⟨p, 0, none⟩), .int .i64 n, .int .i64 i, .int .u8 (u.toNat : Int)] w fun e w' => e = .returned (.int .i64 (rotE S g n i)) ∧ ∃ F', Rv w' F' p (rotS S g n i u) L g ∧ Only F w w' ∧ Grow w F F' := by
  obtain ⟨vS, vL, rfl, h, hF⟩ := h
  refine (r_rot p n i u vS vL S L g w h).mono ?_
  rintro e w' ⟨he, h1, h2⟩
  exact ⟨he, _, ⟨vS, vL, rfl, h1, hF.len (rotS_len _ _ _ _ _)⟩, h2, Grow.same _ _⟩
theorem rv_crash {A : Option Addr} {n c : Nat} {P : List Int} (hP : RdE dq w w.heap.size A n P) (hN : ∀ x, A = some x → 0 < n → ¬ F x.block) (h : Rv w F p S L g) : Calls Tryz.prog 107 #[.pointer (some ⟨p, 0, none⟩), .slice A n c] w fun e w' => e = .returned (.int .i64 ((min L.length n : Nat) : Int)) ∧ ∃ F', Rv w' F' p (crI S L P L.length) [] g ∧ Only F w w' ∧ Grow w F F' := by
  obtain ⟨vS, vL, rfl, h, hF⟩ := h
  refine (r_crash p vS vL S L g A n c P w h hF hP hN).mono ?_
  rintro e w' ⟨he, h1, h2⟩
  refine ⟨he, _, ⟨vS, _, rfl, h1, Fit.nil _⟩, h2, fun k hk => ?_⟩
  rcases hk with e | e | e
  · exact .inl (.inl e)
  · exact .inl (.inr (.inl e))
  · simp [Value.ownBlock] at e
theorem rv_new (k : Nat) (w : World) (h1 : 1 ≤ k) (h2 : k ≤ 512) : Calls Tryz.prog 104 #[.int .i64 k] w fun e w' => ∃ p F, e = .returned (.tuple #[.pointer (some ⟨p, 0, none⟩), .int .i64 0]) ∧ Rv w' F p (List.replicate k al) [] false ∧ Below w.heap.size w w' ∧ ∀ b, F b → w.heap.size ≤ b := by
  refine (r_new_ok k w h1 h2).mono ?_
  rintro e w' ⟨p, vS, he, hr, hb, hf⟩
  exact ⟨p, _, he, ⟨vS, _, rfl, hr, Fit.nil _⟩, hb, hf⟩
end
def bH : BKind where
  K := ⟨Rv, Rv.lt, Rv.only⟩
  s := 134
  t := 133
  und := Tryz.underlying134
  info := by kernel_rfl
  o := 136
  cs := fun v left bY steps => #[v, .int .i64 left, .bool bY, .int .i64 steps]
  ne := by decide
theorem r4cells {w : World} {b : Nat} {t : TypeId} {x y z u : Value} (h : w.heap[b]? = some (.cells #[x, y, z, u] t (0, 0))) : w.cell? ⟨b, 0, none⟩ = some x ∧ w.cell? ⟨b, 1, none⟩ = some y ∧ w.cell? ⟨b, 2, none⟩ = some z ∧ w.cell? ⟨b, 3, none⟩ = some u := by
  refine ⟨?_, ?_, ?_, ?_⟩
  · rw [cell_of_row w b 0 _ t (0, 0) h]; rfl
  · rw [cell_of_row w b 1 _ t (0, 0) h]; rfl
  · rw [cell_of_row w b 2 _ t (0, 0) h]; rfl
  · rw [cell_of_row w b 3 _ t (0, 0) h]; rfl
theorem rv_asks {w : World} {F : Nat → Prop} {p : Nat} {S : List Blk} {L : List (Int × Blk)} {g : Bool} (n : Int) (h : Rv w F p S L g) : Calls Tryz.prog 84 #[.pointer (some ⟨p, 0, none⟩), .int .i64 n] w fun e w' => e = .returned (.int .i64 (ce S g n)) ∧ w = w' := by
  obtain ⟨vS, vL, rfl, h, _⟩ := h
  exact r_asks p vS vL S L g n w h
theorem rv_cells {w : World} {F : Nat → Prop} {p : Nat} {S : List Blk} {L : List (Int × Blk)} {g : Bool} (h : Rv w F p S L g) : ∃ A c, w.cell? ⟨p, 0, none⟩ = some (.slice A S.length c) ∧ w.cell? ⟨p, 2, none⟩ = some (.bool g) := by
  obtain ⟨vS, vL, rfl, h, _⟩ := h
  obtain ⟨c0, c1, c2⟩ := cells3 h.at_
  obtain ⟨A, c, rfl, _, _⟩ := h.S_.form
  exact ⟨A, c, c0, c2⟩
section
variable {w w' : World} {p : Nat} {v : Value} {Fs : Nat → Nat → Prop} {ps : List Nat} {M : BenS}
theorem BenAt.di (h : BenAt bH w p v Fs ps M) : w.cell? ⟨p, 0, none⟩ = some v ∧ w.cell? ⟨p, 1, none⟩ = some (.int .i64 M.left) ∧ w.cell? ⟨p, 2, none⟩ = some (.bool M.bY) ∧ w.cell? ⟨p, 3, none⟩ = some (.int .i64 M.steps) := r4cells h.at_
theorem c_dark (h : BenAt bH w p v Fs ps M) :
    Calls Tryz.prog 54 #[.pointer (some ⟨p, 0, none⟩)] w fun e w' => e = .returned (.bool M.bY) ∧ w = w' := by
  obtain ⟨c0, c1, c2, c3⟩ := h.di
  go_enter Tryz.func54, Tryz.ntmps54
  go_wp2
  go_ret
  exact ⟨rfl, rfl⟩
theorem c_steps (h : BenAt bH w p v Fs ps M) :
    Calls Tryz.prog 53 #[.pointer (some ⟨p, 0, none⟩)] w fun e w' => e = .returned (.int .i64 (M.steps : Int)) ∧ w = w' := by
  obtain ⟨c0, c1, c2, c3⟩ := h.di
  go_enter Tryz.func53, Tryz.ntmps53
  go_wp2
  go_ret
  exact ⟨rfl, rfl⟩
theorem c_has_no (h : BenAt bH w p v Fs ps M) {d : Int} (hd : ¬(0 ≤ d ∧ d < M.ds.length)) :
    Calls Tryz.prog 87 #[.pointer (some ⟨p, 0, none⟩), .int .i64 d] w fun e w' => e = .returned (.bool false) ∧ w = w' := by
  obtain ⟨g, c, rfl, _, _⟩ := h.slice
  obtain ⟨c0, c1, c2, c3⟩ := h.di
  clear h
  by_cases h0 : 0 ≤ d
  · have h1 : ¬(d < (M.ds.length : Int)) := by omega
    clear hd
    go_enter Tryz.func87, Tryz.ntmps87
    go_wp2
    go_ret
    exact ⟨rfl, rfl⟩
  · clear hd
    go_enter Tryz.func87, Tryz.ntmps87
    go_wp2
    go_ret
    exact ⟨rfl, rfl⟩
theorem c_has_ok (h : BenAt bH w p v Fs ps M) {k : Nat} (hk : k < M.ds.length) :
    Calls Tryz.prog 87 #[.pointer (some ⟨p, 0, none⟩), .int .i64 k] w fun e w' => e = .returned (.bool true) ∧ w = w' := by
  obtain ⟨g, c, rfl, _, _⟩ := h.slice
  obtain ⟨c0, c1, c2, c3⟩ := h.di
  clear h
  go_enter Tryz.func87, Tryz.ntmps87
  go_wp2
  go_ret
  exact ⟨rfl, rfl⟩
theorem c_asks (d : Int) (h : BenAt bH w p v Fs ps M) :
    Calls Tryz.prog 83 #[.pointer (some ⟨p, 0, none⟩), .int .i64 d] w fun e w' => e = .returned (.int .i64 (cN M d)) ∧ w = w' := by
  obtain ⟨c0, c1, c2, c3⟩ := h.di
  rcases cG M d with ⟨e, hdk⟩ | ⟨e, hdk, ho⟩ | ⟨e, hdk, k, rfl, hk⟩
  · rw [e]
    rw [hdk] at c2
    clear e hdk h
    go_enter Tryz.func83, Tryz.ntmps83
    go_wp2
    go_ret
    exact ⟨rfl, rfl⟩
  · rw [e]
    rw [hdk] at c2
    have HO := Lib.hid (c_has_no h ho)
    clear e hdk h ho
    go_enter Tryz.func83, Tryz.ntmps83
    go_wp2_with fail
    refine HO.out.mono ?_
    rintro e w1 ⟨rfl, rfl⟩
    go_wp2_with fail
    go_ret
    exact ⟨rfl, rfl⟩
  · rw [e]
    rw [hdk] at c2
    have HO := Lib.hid (c_has_ok h hk)
    clear e hdk h hk
    go_enter Tryz.func83, Tryz.ntmps83
    go_wp2_with fail
    refine HO.out.mono ?_
    rintro e w1 ⟨rfl, rfl⟩
    go_wp2_with fail
    go_ret
    exact ⟨rfl, rfl⟩
theorem c_sectors (d : Int) (h : BenAt bH w p v Fs ps M) :
    Calls Tryz.prog 49 #[.pointer (some ⟨p, 0, none⟩), .int .i64 d] w fun e w' => e = .returned (.int .i64 (ca M d)) ∧ w = w' := by
  rcases dF M d with ⟨e, ho⟩ | ⟨e, k, rfl, hk⟩
  · have HS : Hid (ca M d = 0) := Lib.hid (by unfold ca; rw [if_neg (by omega)])
    have HO := Lib.hid (c_has_no h ho)
    clear e h ho
    go_enter Tryz.func49, Tryz.ntmps49
    go_wp2_with fail
    refine HO.out.mono ?_
    rintro e w1 ⟨rfl, rfl⟩
    go_wp2_with fail
    go_ret
    exact ⟨aQ HS.out.symm, rfl⟩
  · obtain ⟨x, hx⟩ : ∃ x, M.ds.getD k bp = x := ⟨_, rfl⟩
    have hat := h.devs.at_ k hk
    rw [hx] at hat
    have HS : Hid (ca M (k : Int) = (x.S.length : Int)) := Lib.hid (by unfold ca; rw [if_pos e, M.dev_nat, hx])
    have HO := Lib.hid (c_has_ok h hk)
    obtain ⟨g, c, rfl, _, _⟩ := h.slice
    obtain ⟨c0, c1, c2, c3⟩ := h.di
    have ck := h.cell hk
    obtain ⟨AS, cS, d0, d2⟩ := rv_cells hat
    clear e h hat hx
    generalize ps.getD k 0 = q at *
    go_enter Tryz.func49, Tryz.ntmps49
    go_wp2_with fail
    refine HO.out.mono ?_
    rintro e w1 ⟨rfl, rfl⟩
    go_wp2_with fail
    go_ret
    exact ⟨aQ HS.out.symm, rfl⟩
set_option maxHeartbeats 1000000 in
theorem c_read (d n : Int) (h : BenAt bH w p v Fs ps M) :
    Calls Tryz.prog 88 #[.pointer (some ⟨p, 0, none⟩), .int .i64 d, .int .i64 n] w fun e w' => e = .returned (.tuple #[blk (cC M d n), .int .i64 (bX M d n)]) ∧ Below w.heap.size w w' := by
  have hA := (Below.refl w.heap.size w).alloc (Nat.le_refl _) (.cells (cel al).toArray 65)
  have h1 := h.below hA
  have HT := Lib.hid (db w al 65)
  have HA := Lib.hid hA
  have HO := Lib.hid (c_asks d h1)
  by_cases hl : cN M d = 0
  · rcases cG M d with ⟨e, _⟩ | ⟨e, _⟩ | ⟨e, hdk, k, rfl, hk⟩
    · omega
    · omega
    obtain ⟨x, hx⟩ : ∃ x, M.ds.getD k bp = x := ⟨_, rfl⟩
    have hat := h1.devs.at_ k hk
    rw [hx] at hat
    have HB : Hid (cC M (k : Int) n = ed x.S x.L x.g n) := Lib.hid (by unfold cC; rw [if_pos e, ← hx]; rfl)
    have HE : Hid (bX M (k : Int) n = ce x.S x.g n) := Lib.hid (by unfold bX; rw [if_pos e, ← hx]; rfl)
    rw [e] at HO
    have HD := Lib.hid (rv_read n hat)
    have HSZ := Lib.hid (World.size_alloc w (.cells (cel al).toArray 65))
    obtain ⟨g, c, rfl, _, _⟩ := h1.slice
    obtain ⟨c0, c1, c2, c3⟩ := h1.di
    have ck := h1.cell hk
    clear e h h1 hat hx hdk hA hl
    rw [HB.out, HE.out]
    clear HB HE
    generalize ed x.S x.L x.g n = y at *
    generalize ce x.S x.g n = z at *
    generalize ps.getD k 0 = q at *
    go_enter Tryz.func88, Tryz.ntmps88
    go_wp2_with (first | (refine ai rfl (aK rfl) ?_) | fail)
    refine HO.out.mono ?_
    rintro e w1 ⟨rfl, rfl⟩
    go_wp2_with fail
    refine HD.out.mono ?_
    rintro e w2 ⟨rfl, hb⟩
    have HT2 := Lib.hid (aL HT.out (by rw [HSZ.out]; omega) hb)
    have HB2 := Lib.hid (HA.out.trans (hb.mono (by rw [HSZ.out]; omega)))
    clear hb
    go_wp2_with (first | (refine aF rfl (aH rfl rfl rfl HT2.out) ?_) | fail)
    exact bodyPost_ret (bN rfl _ _ _ rfl (World.rangeAt_setCells_same _ _ _ _ (by rw [ax]; exact HT2.out))) rfl ⟨rfl, below_setCells HB2.out (Nat.le_refl _) _⟩
  · have HB : Hid (cC M d n = al) := Lib.hid (by unfold cC; rw [if_neg hl])
    have HE : Hid (bX M d n = cN M d) := Lib.hid (by unfold bX; rw [if_neg hl])
    clear h h1 hA
    rw [HB.out, HE.out]
    rcases cG M d with ⟨e, _⟩ | ⟨e, _⟩ | ⟨e, _⟩
    rotate_right 1
    · exact absurd e hl
    all_goals
      rw [e] at HO ⊢
      clear e hl
      go_enter Tryz.func88, Tryz.ntmps88
      go_wp2_with (first | (refine ai rfl (aK rfl) ?_) | fail)
      refine HO.out.mono ?_
      rintro e w1 ⟨rfl, rfl⟩
      go_wp2_with (first | (refine ai rfl (bU (c := al) (parts := []) rfl rfl) ?_) | (refine aF rfl (aH rfl rfl rfl HT.out) ?_))
      exact bodyPost_ret (bN rfl _ _ _ rfl (World.rangeAt_setCells_same _ _ _ _ (by rw [ax]; exact HT.out))) rfl ⟨rfl, below_setCells HA.out (Nat.le_refl _) _⟩
set_option maxHeartbeats 1000000 in
theorem c_sure (d n : Int) (h : BenAt bH w p v Fs ps M) :
    Calls Tryz.prog 51 #[.pointer (some ⟨p, 0, none⟩), .int .i64 d, .int .i64 n] w fun e w' => e = .returned (.tuple #[blk (suB6 M d n), .int .i64 (suE6 M d n)]) ∧ Below w.heap.size w w' := by
  have hA := (Below.refl w.heap.size w).alloc (Nat.le_refl _) (.cells (cel al).toArray 65)
  have h1 := h.below hA
  have HT := Lib.hid (db w al 65)
  have HA := Lib.hid hA
  rcases dF M d with ⟨e, ho⟩ | ⟨e, k, rfl, hk⟩
  · have HB : Hid (suB6 M d n = al) := Lib.hid (by unfold suB6; rw [if_neg (by omega)])
    have HE : Hid (suE6 M d n = 2) := Lib.hid (by unfold suE6; rw [if_neg (by omega), e])
    have HO := Lib.hid (c_has_no h1 ho)
    clear e h h1 ho hA
    rw [HB.out, HE.out]
    go_enter Tryz.func51, Tryz.ntmps51
    go_wp2_with (first | (refine ai rfl (aK rfl) ?_) | fail)
    refine HO.out.mono ?_
    rintro e w1 ⟨rfl, rfl⟩
    go_wp2_with (first | (refine ai rfl (bU (c := al) (parts := []) rfl rfl) ?_) | (refine aF rfl (aH rfl rfl rfl HT.out) ?_))
    exact bodyPost_ret (bN rfl _ _ _ rfl (World.rangeAt_setCells_same _ _ _ _ (by rw [ax]; exact HT.out))) rfl ⟨rfl, below_setCells HA.out (Nat.le_refl _) _⟩
  · obtain ⟨x, hx⟩ : ∃ x, M.ds.getD k bp = x := ⟨_, rfl⟩
    have hat := h1.devs.at_ k hk
    rw [hx] at hat
    have HB : Hid (suB6 M (k : Int) n = sureB x.S x.g n) := Lib.hid (by unfold suB6; rw [if_pos e, ← hx]; rfl)
    have HE : Hid (suE6 M (k : Int) n = ce x.S x.g n) := Lib.hid (by unfold suE6; rw [if_pos e, ← hx]; rfl)
    have HO := Lib.hid (c_has_ok h1 hk)
    have HD := Lib.hid (rv_sure n hat)
    have HSZ := Lib.hid (World.size_alloc w (.cells (cel al).toArray 65))
    obtain ⟨g, c, rfl, _, _⟩ := h1.slice
    obtain ⟨c0, c1, c2, c3⟩ := h1.di
    have ck := h1.cell hk
    clear e h h1 hat hx hA
    rw [HB.out, HE.out]
    clear HB HE
    generalize sureB x.S x.g n = y at *
    generalize ce x.S x.g n = z at *
    generalize ps.getD k 0 = q at *
    go_enter Tryz.func51, Tryz.ntmps51
    go_wp2_with (first | (refine ai rfl (aK rfl) ?_) | fail)
    refine HO.out.mono ?_
    rintro e w1 ⟨rfl, rfl⟩
    go_wp2_with fail
    refine HD.out.mono ?_
    rintro e w2 ⟨rfl, hb⟩
    have HT2 := Lib.hid (aL HT.out (by rw [HSZ.out]; omega) hb)
    have HB2 := Lib.hid (HA.out.trans (hb.mono (by rw [HSZ.out]; omega)))
    clear hb
    go_wp2_with (first | (refine aF rfl (aH rfl rfl rfl HT2.out) ?_) | fail)
    exact bodyPost_ret (bN rfl _ _ _ rfl (World.rangeAt_setCells_same _ _ _ _ (by rw [ax]; exact HT2.out))) rfl ⟨rfl, below_setCells HB2.out (Nat.le_refl _) _⟩
theorem c_arm (n : Int) (h : BenAt bH w p v Fs ps M) :
    Calls Tryz.prog 40 #[.pointer (some ⟨p, 0, none⟩), .int .i64 n] w fun e w' => e = .returned (.int .i64 (arE6 M n)) ∧ BenAt bH w' p v Fs ps (arS6 M n) ∧ Only (fun b => b = p) w w' := by
  obtain ⟨c0, c1, c2, c3⟩ := h.di
  have f1 := frozen_of_row w p 1 _ _ h.at_
  have HH := Lib.hid h
  cases hdk : M.bY
  · rw [hdk] at c2
    by_cases hn : n < 0
    · have HE : Hid (arE6 M n = 2) := Lib.hid (by unfold arE6; rw [if_neg (by rw [hdk]; decide), if_pos hn])
      have HS : Hid (arS6 M n = M) := Lib.hid (by unfold arS6; rw [HE.out, if_neg (by decide)])
      clear h hdk
      go_enter Tryz.func40, Tryz.ntmps40
      go_wp2_with fail
      go_ret
      exact ⟨aQ HE.out.symm, by rw [HS.out]; exact HH.out, Only.refl _ _⟩
    · have HE : Hid (arE6 M n = 0) := Lib.hid (by unfold arE6; rw [if_neg (by rw [hdk]; decide), if_neg hn])
      have HS : Hid (arS6 M n = ⟨M.ds, n.toNat, M.bY, M.steps⟩) := Lib.hid (by unfold arS6; rw [HE.out, if_pos rfl])
      have HN : Hid (((n.toNat : Nat) : Int) = n) := Lib.hid (by omega)
      clear h hdk
      go_enter Tryz.func40, Tryz.ntmps40
      go_wp2_with fail
      go_ret
      have ho := ct w p 1 (.int .i64 n)
      refine ⟨aQ HE.out.symm, ?_, ho⟩
      rw [HS.out]
      refine HH.out.obj _ _ _ ho ?_
      have := heap_setCell_same w p 1 _ _ (.int .i64 n) HH.out.at_
      simpa [bH, HN.out] using this
  · have HE : Hid (arE6 M n = 8) := Lib.hid (by unfold arE6; rw [if_pos hdk])
    have HS : Hid (arS6 M n = M) := Lib.hid (by unfold arS6; rw [HE.out, if_neg (by decide)])
    rw [hdk] at c2
    clear h hdk
    go_enter Tryz.func40, Tryz.ntmps40
    go_wp2_with fail
    go_ret
    exact ⟨aQ HE.out.symm, by rw [HS.out]; exact HH.out, Only.refl _ _⟩
theorem c_fail (d : Int) (h : BenAt bH w p v Fs ps M) :
    Calls Tryz.prog 44 #[.pointer (some ⟨p, 0, none⟩), .int .i64 d] w fun e w' => e = .returned (.int .i64 (dx M d)) ∧ Left bH w p v Fs ps M.ds.length (faS6 M d) w' := by
  rcases dF M d with ⟨e, ho⟩ | ⟨e, k, rfl, hk⟩
  · have HL := Lib.hid (Left.same h (M' := faS6 M d) (by unfold faS6; rw [if_neg (by omega)]))
    have HO := Lib.hid (c_has_no h ho)
    have HE := Lib.hid e
    clear e h ho
    go_enter Tryz.func44, Tryz.ntmps44
    go_wp2_with fail
    refine HO.out.mono ?_
    rintro e w1 ⟨rfl, rfl⟩
    go_wp2_with fail
    go_ret
    exact ⟨aQ HE.out.symm, HL.out⟩
  · obtain ⟨x, hx⟩ : ∃ x, M.ds.getD k bp = x := ⟨_, rfl⟩
    have hat := h.devs.at_ k hk
    rw [hx] at hat
    have HS : Hid (faS6 M (k : Int) = M.put k ⟨x.S, [], true⟩) := Lib.hid (by unfold faS6; rw [if_pos e, ← hx]; rfl)
    have HO := Lib.hid (c_has_ok h hk)
    have HD := Lib.hid (rv_fail hat)
    have HE := Lib.hid e
    have HH := Lib.hid h
    obtain ⟨g, c, rfl, _, _⟩ := h.slice
    obtain ⟨c0, c1, c2, c3⟩ := h.di
    have ck := h.cell hk
    obtain ⟨q, hq⟩ : ∃ q, ps.getD k 0 = q := ⟨_, rfl⟩
    rw [hq] at ck HD
    have HQ := Lib.hid hq
    clear e h hat hx hq
    go_enter Tryz.func44, Tryz.ntmps44
    go_wp2_with fail
    refine HO.out.mono ?_
    rintro e w1 ⟨rfl, rfl⟩
    go_wp2_with fail
    refine HD.out.mono ?_
    rintro e w2 ⟨⟨z, rfl⟩, F', h1, h2, h3⟩
    go_wp2_with fail
    go_ret
    exact ⟨aQ HE.out.symm, Left.turn HH.out hk h2 h3 (d := ⟨x.S, [], true⟩) (by rw [HQ.out]; exact h1) HS.out⟩
theorem c_rot (d n i : Int) (u : UInt8) (h : BenAt bH w p v Fs ps M) :
    Calls Tryz.prog 42 #[.pointer (some ⟨p, 0, none⟩), .int .i64 d, .int .i64 n, .int .i64 i, .int .u8 (u.toNat : Int)] w fun e w' => e = .returned (.int .i64 (roE6 M d n i)) ∧ Left bH w p v Fs ps M.ds.length (roS6 M d n i u) w' := by
  rcases dF M d with ⟨e, ho⟩ | ⟨e, k, rfl, hk⟩
  · have HL := Lib.hid (Left.same h (M' := roS6 M d n i u) (by unfold roS6; rw [if_neg (by omega)]))
    have HO := Lib.hid (c_has_no h ho)
    have HE : Hid (roE6 M d n i = 2) := Lib.hid (by unfold roE6; rw [if_neg (by omega), e])
    clear e h ho
    go_enter Tryz.func42, Tryz.ntmps42
    go_wp2_with fail
    refine HO.out.mono ?_
    rintro e w1 ⟨rfl, rfl⟩
    go_wp2_with fail
    go_ret
    exact ⟨aQ HE.out.symm, HL.out⟩
  · obtain ⟨x, hx⟩ : ∃ x, M.ds.getD k bp = x := ⟨_, rfl⟩
    have hat := h.devs.at_ k hk
    rw [hx] at hat
    have HS : Hid (roS6 M (k : Int) n i u = M.put k ⟨rotS x.S x.g n i u, x.L, x.g⟩) := Lib.hid (by unfold roS6; rw [if_pos e, ← hx]; rfl)
    have HO := Lib.hid (c_has_ok h hk)
    have HD := Lib.hid (rv_rot n i u hat)
    have HE : Hid (roE6 M (k : Int) n i = rotE x.S x.g n i) := Lib.hid (by unfold roE6; rw [if_pos e, ← hx]; rfl)
    have HH := Lib.hid h
    obtain ⟨g, c, rfl, _, _⟩ := h.slice
    obtain ⟨c0, c1, c2, c3⟩ := h.di
    have ck := h.cell hk
    obtain ⟨q, hq⟩ : ∃ q, ps.getD k 0 = q := ⟨_, rfl⟩
    rw [hq] at ck HD
    have HQ := Lib.hid hq
    clear e h hat hx hq
    go_enter Tryz.func42, Tryz.ntmps42
    go_wp2_with fail
    refine HO.out.mono ?_
    rintro e w1 ⟨rfl, rfl⟩
    go_wp2_with fail
    refine HD.out.mono ?_
    rintro e w2 ⟨rfl, F', h1, h2, h3⟩
    go_wp2_with fail
    go_ret
    exact ⟨aQ HE.out.symm, Left.turn HH.out hk h2 h3 (d := ⟨rotS x.S x.g n i u, x.L, x.g⟩) (by rw [HQ.out]; exact h1) HS.out⟩
def BenS.step (M : BenS) : BenS := if M.left = 1 then M.night else M.done
theorem c_step (h : BenAt bH w p v Fs ps M) (hs : M.steps < 1000000) (hll : M.left < 9223372036854775808) :
    Calls Tryz.prog 85 #[.pointer (some ⟨p, 0, none⟩)] w fun e w' => e = .returned (.int .i64 M.dB) ∧ BenAt bH w' p v Fs ps M.step ∧ Only (fun b => b = p) w w' := by
  obtain ⟨c0, c1, c2, c3⟩ := h.di
  have f1 := frozen_of_row w p 1 _ _ h.at_
  have f2 := frozen_of_row w p 2 _ _ h.at_
  have f3 := frozen_of_row w p 3 _ _ h.at_
  have HH := Lib.hid h
  clear h
  by_cases h1 : M.left = 1
  · have HE : Hid (M.dB = 8) := Lib.hid (by unfold BenS.dB; rw [if_pos h1])
    have HS : Hid (M.step = M.night) := Lib.hid (by unfold BenS.step; rw [if_pos h1])
    rw [h1] at c1
    clear h1 hs hll
    go_enter Tryz.func85, Tryz.ntmps85
    go_wp2_with fail
    go_ret
    have ho := ct w p 2 (.bool true)
    refine ⟨aQ HE.out.symm, ?_, ho⟩
    rw [HS.out]
    refine HH.out.obj _ _ _ ho ?_
    have := heap_setCell_same w p 2 _ _ (.bool true) HH.out.at_
    simpa [bH] using this
  · have HE : Hid (M.dB = 0) := Lib.hid (by unfold BenS.dB; rw [if_neg h1])
    have HS : Hid (M.step = M.done) := Lib.hid (by unfold BenS.step; rw [if_neg h1])
    by_cases h2 : 1 < M.left
    · have hl1 : ((M.left : Int) == 1) = false := by simpa using (by omega : ¬ (M.left : Int) = 1)
      go_enter Tryz.func85, Tryz.ntmps85
      go_wp2_with fail
      go_ret
      have ho := (ct w p 1 (.int .i64 ((M.left : Int) - 1))).setCell (p := ⟨p, 3, none⟩) (.inl rfl) (.int .i64 ((M.steps : Int) + 1))
      refine ⟨aQ HE.out.symm, ?_, ho⟩
      rw [HS.out]
      refine HH.out.obj _ _ _ ho ?_
      have h3 := heap_setCell_same _ p 3 _ _ (.int .i64 ((M.steps : Int) + 1)) (heap_setCell_same w p 1 _ _ (.int .i64 ((M.left : Int) - 1)) HH.out.at_)
      have e : ((M.left - 1 : Nat) : Int) = (M.left : Int) - 1 := by omega
      simpa [bH, e] using h3
    · have hl0 : M.left = 0 := by omega
      have HL0 := Lib.hid hl0
      rw [hl0] at c1
      clear h1 hll h2 hl0
      go_enter Tryz.func85, Tryz.ntmps85
      go_wp2_with fail
      go_ret
      have ho := ct w p 3 (.int .i64 ((M.steps : Int) + 1))
      refine ⟨aQ HE.out.symm, ?_, ho⟩
      rw [HS.out]
      refine HH.out.obj _ _ _ ho ?_
      have h3 := heap_setCell_same w p 3 _ _ (.int .i64 ((M.steps : Int) + 1)) HH.out.at_
      simpa [bH, HL0.out] using h3
end
section
variable {w w' : World} {p : Nat} {v : Value} {Fs : Nat → Nat → Prop} {ps : List Nat} {M : BenS}
theorem c_lit_no {d : Int} (h0 : cN M d ≠ 0) : cN M d = 8 ∨ cN M d = 2 := by
  rcases cG M d with ⟨e, _⟩ | ⟨e, _⟩ | ⟨e, _⟩
  · exact .inl e
  · exact .inr e
  · exact absurd e h0
theorem c_flush_no (d : Int) (h : BenAt bH w p v Fs ps M) (hl : flA6 M d ≠ 0) :
    Calls Tryz.prog 105 #[.pointer (some ⟨p, 0, none⟩), .int .i64 d] w fun e w' => e = .returned (.int .i64 (flE6 M d)) ∧ Left bH w p v Fs ps M.ds.length (flS6 M d) w' := by
  have HE : Hid (flE6 M d = flA6 M d) := Lib.hid (by unfold flE6; rw [if_neg hl])
  have HL := Lib.hid (Left.same h (M' := flS6 M d) (by unfold flS6; rw [if_neg hl]))
  have HO := Lib.hid (c_asks d h)
  by_cases h0 : cN M d = 0
  · rcases cG M d with ⟨e, _⟩ | ⟨e, _⟩ | ⟨e, hdk, k, rfl, hk⟩
    · omega
    · omega
    obtain ⟨x, hx⟩ : ∃ x, M.ds.getD k bp = x := ⟨_, rfl⟩
    have hat := h.devs.at_ k hk
    rw [hx] at hat
    have hg : x.g = true := by
      cases hg : x.g
      · exfalso; apply hl; unfold flA6; rw [if_pos e, show M.dev (k : Int) = x from hx, hg, if_neg (by decide)]
      · rfl
    have H9 : Hid (flA6 M (k : Int) = 9) := Lib.hid (by unfold flA6; rw [if_pos e, show M.dev (k : Int) = x from hx, hg, if_pos rfl])
    obtain ⟨g, c, rfl, _, _⟩ := h.slice
    obtain ⟨c0, c1, c2, c3⟩ := h.di
    have ck := h.cell hk
    obtain ⟨AS, cS, d0, d2⟩ := rv_cells hat
    rw [hg] at d2
    rw [e] at HO
    clear e h hat hx hdk hl h0 hg
    generalize ps.getD k 0 = q at *
    go_enter Tryz.func105, Tryz.ntmps105
    go_wp2_with fail
    refine HO.out.mono ?_
    rintro e w1 ⟨rfl, rfl⟩
    go_wp2_with fail
    go_ret
    exact ⟨aQ (by rw [HE.out, H9.out]), HL.out⟩
  · have HA : Hid (flA6 M d = cN M d) := Lib.hid (by unfold flA6; rw [if_neg h0])
    clear h hl
    rw [HE.out, HA.out]
    rcases c_lit_no h0 with e | e
    all_goals
      rw [e] at HO ⊢
      clear e h0
      go_enter Tryz.func105, Tryz.ntmps105
      go_wp2_with fail
      refine HO.out.mono ?_
      rintro e w1 ⟨rfl, rfl⟩
      go_wp2_with fail
      go_ret
      exact ⟨rfl, HL.out⟩
theorem c_flush (d : Int) (h : BenAt bH w p v Fs ps M) (hs : M.steps < 1000000) (hll : M.left < 9223372036854775808) :
    Calls Tryz.prog 105 #[.pointer (some ⟨p, 0, none⟩), .int .i64 d] w fun e w' => e = .returned (.int .i64 (flE6 M d)) ∧ Left bH w p v Fs ps M.ds.length (flS6 M d) w' := by
  by_cases hl : flA6 M d = 0
  rotate_left 1
  · exact c_flush_no d h hl
  have hlit : cN M d = 0 := by
    unfold flA6 at hl
    by_cases h0 : cN M d = 0
    · exact h0
    · rw [if_neg h0] at hl; exact hl
  rcases cG M d with ⟨e, _⟩ | ⟨e, _⟩ | ⟨e, hdk, k, rfl, hk⟩
  · omega
  · omega
  obtain ⟨x, hx⟩ : ∃ x, M.ds.getD k bp = x := ⟨_, rfl⟩
  have hat := h.devs.at_ k hk
  rw [hx] at hat
  have hg : x.g = false := by
    cases hg : x.g
    · rfl
    · exfalso; unfold flA6 at hl; rw [if_pos e, show M.dev (k : Int) = x from hx, hg, if_pos rfl] at hl; omega
  have HEE : Hid (flE6 M (k : Int) = M.dB) := Lib.hid (by unfold flE6; rw [if_pos hl])
  have HO := Lib.hid (c_asks (k : Int) h)
  rw [e] at HO
  have HST := Lib.hid (c_step h hs hll)
  obtain ⟨q, hq⟩ : ∃ q, ps.getD k 0 = q := ⟨_, rfl⟩
  obtain ⟨g, c, rfl, _, _⟩ := h.slice
  obtain ⟨c0, c1, c2, c3⟩ := h.di
  have ck := h.cell hk
  obtain ⟨AS, cS, d0, d2⟩ := rv_cells hat
  rw [hg] at d2
  rw [hq] at ck d2 d0
  by_cases h1 : M.left = 1
  · have HE : Hid (M.dB = 8) := Lib.hid (by unfold BenS.dB; rw [if_pos h1])
    have HN : Hid (M.step = M.night) := Lib.hid (by unfold BenS.step; rw [if_pos h1])
    have HS : Hid (flS6 M (k : Int) = M.night) := Lib.hid (by unfold flS6; rw [if_pos hl, if_pos h1])
    clear e h hat hx hdk hl hg h1 hlit hs hll hq
    go_enter Tryz.func105, Tryz.ntmps105
    go_wp2_with fail
    refine HO.out.mono ?_
    rintro e w1 ⟨rfl, rfl⟩
    go_wp2_with fail
    refine HST.out.mono ?_
    rintro e w2 ⟨rfl, h2, ho2⟩
    rw [HE.out]
    have H2 := Lib.hid h2
    have HO2 := Lib.hid ho2
    clear h2 ho2
    go_wp2_with fail
    go_ret
    refine ⟨aQ (by rw [HEE.out, HE.out]), ?_⟩
    rw [HS.out, ← HN.out]
    exact Left.obj H2.out HO2.out (by rw [HN.out]; rfl)
  · have HE : Hid (M.dB = 0) := Lib.hid (by unfold BenS.dB; rw [if_neg h1])
    have HN : Hid (M.step = M.done) := Lib.hid (by unfold BenS.step; rw [if_neg h1])
    have HS : Hid (flS6 M (k : Int) = M.done.put k ⟨flS x.S x.L, [], x.g⟩) := Lib.hid (by unfold flS6; rw [if_pos hl, if_neg h1, show M.dev (k : Int) = x from hx]; rfl)
    have HX := Lib.hid hx
    have HG := Lib.hid hg
    have HQ := Lib.hid hq
    clear e h hat hx hdk hl hg h1 hlit hs hll hq
    go_enter Tryz.func105, Tryz.ntmps105
    go_wp2_with fail
    refine HO.out.mono ?_
    rintro e w1 ⟨rfl, rfl⟩
    go_wp2_with fail
    refine HST.out.mono ?_
    rintro e w2 ⟨rfl, h2, ho2⟩
    rw [HE.out]
    rw [HN.out] at h2
    obtain ⟨e0, e1, e2, e3⟩ := h2.di
    have ek := BenAt.cell (M := M.done) h2 (i := k) hk
    rw [HQ.out] at ek
    have hat2 := h2.devs.at_ k hk
    rw [show M.done.ds.getD k bp = x from HX.out, HQ.out] at hat2
    have HD := Lib.hid (rv_flush hat2)
    have H2 := Lib.hid h2
    have HO2 := Lib.hid ho2
    clear h2 ho2 hat2 c0 c1 c2 c3 ck d0 d2
    go_wp2_with fail
    refine HD.out.mono ?_
    rintro e w3 ⟨rfl, F', g1, g2, g3⟩
    rw [HG.out]
    have HL := Lib.hid (Left.behind HO2.out (Left.turn H2.out (i := k) hk g2 g3 (d := ⟨flS x.S x.L, [], x.g⟩) (show Rv _ _ _ _ _ _ by rw [HQ.out]; simpa [HG.out] using g1) HS.out))
    clear g1 g2 g3
    go_wp2_with fail
    go_ret
    exact ⟨aQ (by rw [HEE.out, HE.out]), HL.out⟩
set_option maxHeartbeats 1000000 in
theorem c_insert (d : Int) (h : BenAt bH w p v Fs ps M) (hcap : ∀ i, i < M.ds.length → 1 ≤ (M.ds.getD i bp).S.length ∧ (M.ds.getD i bp).S.length ≤ 512) :
    Calls Tryz.prog 46 #[.pointer (some ⟨p, 0, none⟩), .int .i64 d] w fun e w' => e = .returned (.int .i64 (inE6 M d)) ∧ Left bH w p v Fs ps M.ds.length (inS6 M d) w' := by
  have HO := Lib.hid (c_asks d h)
  by_cases h0 : cN M d = 0
  · rcases cG M d with ⟨e, _⟩ | ⟨e, _⟩ | ⟨e, hdk, k, rfl, hk⟩
    · omega
    · omega
    obtain ⟨x, hx⟩ : ∃ x, M.ds.getD k bp = x := ⟨_, rfl⟩
    have hat := h.devs.at_ k hk
    have hS := hcap k hk
    rw [hx] at hat hS
    obtain ⟨g, c, rfl, _, _⟩ := h.slice
    obtain ⟨c0, c1, c2, c3⟩ := h.di
    have ck := h.cell hk
    have fk := h.frozen k
    obtain ⟨AS, cS, d0, d2⟩ := rv_cells hat
    obtain ⟨q, hq⟩ : ∃ q, ps.getD k 0 = q := ⟨_, rfl⟩
    rw [hq] at ck d2 d0
    rw [e] at HO
    cases hg : x.g
    · have HE : Hid (inE6 M (k : Int) = 17) := Lib.hid (by unfold inE6; rw [if_pos e, show M.dev (k : Int) = x from hx, hg, if_neg (by decide)])
      have HL := Lib.hid (Left.same h (M' := inS6 M (k : Int)) (by unfold inS6; rw [HE.out, if_neg (by decide)]))
      rw [hg] at d2
      clear e h hat hx hdk h0 hg hq hS hcap
      go_enter Tryz.func46, Tryz.ntmps46
      go_wp2_with fail
      refine HO.out.mono ?_
      rintro e w1 ⟨rfl, rfl⟩
      go_wp2_with fail
      go_ret
      exact ⟨aQ HE.out.symm, HL.out⟩
    · have HE : Hid (inE6 M (k : Int) = 0) := Lib.hid (by unfold inE6; rw [if_pos e, show M.dev (k : Int) = x from hx, hg, if_pos rfl])
      have HS : Hid (inS6 M (k : Int) = M.put k ⟨List.replicate x.S.length al, [], false⟩) := Lib.hid (by unfold inS6; rw [HE.out, if_pos rfl, show M.dev (k : Int) = x from hx]; rfl)
      obtain ⟨hS1, hS2⟩ := hS
      have HH := Lib.hid h
      rw [hg] at d2
      clear e h hat hx hdk h0 hg hq hcap
      go_enter Tryz.func46, Tryz.ntmps46
      go_wp2_with fail
      refine HO.out.mono ?_
      rintro e w1 ⟨rfl, rfl⟩
      go_wp2_with fail
      refine (rv_new x.S.length w hS1 hS2).mono ?_
      rintro e w4 ⟨p', F', rfl, hd4, hb4, hF4⟩
      have h4 := HH.out.below hb4
      have HSW := Lib.hid (HH.out.swap hk hb4 hF4 (d := ⟨List.replicate x.S.length al, [], false⟩) hd4)
      have HB4 := Lib.hid hb4
      have HF4 := Lib.hid hF4
      obtain ⟨e0, e1, e2, e3⟩ := h4.di
      have ek := h4.cell hk
      have efk := h4.frozen k
      clear hd4 hb4 hF4 h4 c0 c1 c2 c3 ck fk d0 d2
      go_wp2_with fail
      go_ret
      refine ⟨aQ HE.out.symm, ?_⟩
      rw [HS.out]
      refine ⟨_, _, HSW.out, ((Only.of_below _ HB4.out).setCell (p := ⟨g, k, none⟩) (.inl (.inr (.inl rfl))) _), fun b hb => ?_⟩
      rcases hb with e | e | ⟨j, hj, e | e⟩
      · exact .inl (.inl e)
      · exact .inl (.inr (.inl e))
      · exact .inr (HF4.out b e.2)
      · exact .inl (.inr (.inr ⟨j, by rwa [M.put_len] at hj, e.2⟩))
  · have HA : Hid (inE6 M d = cN M d) := Lib.hid (by unfold inE6; rw [if_neg h0])
    have HL := Lib.hid (Left.same h (M' := inS6 M d) (by unfold inS6; rw [HA.out, if_neg h0]))
    clear h hcap
    rw [HA.out]
    rcases c_lit_no h0 with e | e
    all_goals
      rw [e] at HO ⊢
      clear e h0
      go_enter Tryz.func46, Tryz.ntmps46
      go_wp2_with fail
      refine HO.out.mono ?_
      rintro e w1 ⟨rfl, rfl⟩
      go_wp2_with fail
      go_ret
      exact ⟨rfl, HL.out⟩
end
section
variable {w w' : World} {p : Nat} {v : Value} {Fs : Nat → Nat → Prop} {ps : List Nat} {M : BenS}
theorem faRb0 {b : Nat} : (Instr.fieldAt 136 (.pointer (some ⟨b, 0, none⟩)) 0).run Tryz.prog w = .ok (.pointer (some ⟨b, 0, none⟩)) w := by kernel_rfl
theorem ldRs {a : Addr} {A : Option Addr} {n c : Nat} (h : w.cell? a = some (.slice A n c)) : (Instr.loadAt 134 (.pointer (some a))).run Tryz.prog w = .ok (.slice A n c) w := by simp [go_sem, h]
theorem ldRp {a : Addr} {A : Option Addr} (h : w.cell? a = some (.pointer A)) : (Instr.loadAt 133 (.pointer (some a))).run Tryz.prog w = .ok (.pointer A) w := by simp [go_sem, h]
theorem exec_ixR {k : BKind} {ρ : Operand → Value} {o : Oper} {x y : Operand} {w : World} {b n c j : Nat} (ho : o.op = .indexAddr k.E.s x y) (hx : ρ x = .slice (some ⟨b, 0, none⟩) n c) (hy : ρ y = .int .i64 (j : Int)) (hj : j < n) : (execOp ρ o).run Tryz.prog w = .ok (.value (.pointer (some ⟨b, j, none⟩))) w := by
  have h := a8 (E := k.E) (w := w) ho hx hy hj
  rwa [show 0 + j * k.E.n = j from by show 0 + j * 1 = j; omega] at h
set_option maxHeartbeats 1000000 in
theorem c_write_no (d n : Int) (x : Blk) (h : BenAt bH w p v Fs ps M) (hr : bX M d n ≠ 0) :
    Calls Tryz.prog 28 #[.pointer (some ⟨p, 0, none⟩), .int .i64 d, .int .i64 n, blk x] w fun e w' => e = .returned (.int .i64 (bX M d n)) ∧ Below w.heap.size w w' := by
  have hA := (Below.refl w.heap.size w).alloc (Nat.le_refl _) (.cells (cel x).toArray 65)
  have h1 := h.below hA
  have HO := Lib.hid (c_asks d h1)
  have HA := Lib.hid hA
  by_cases h0 : cN M d = 0
  · rcases cG M d with ⟨e, _⟩ | ⟨e, _⟩ | ⟨e, hdk, k, rfl, hk⟩
    · omega
    · omega
    obtain ⟨y, hy⟩ : ∃ y, M.ds.getD k bp = y := ⟨_, rfl⟩
    have hat := h1.devs.at_ k hk
    rw [hy] at hat
    have hr0 : bX M (k : Int) n = ce y.S y.g n := by unfold bX; rw [if_pos e, M.dev_nat, hy]
    rw [hr0] at hr ⊢
    have HD := Lib.hid (rv_asks n hat)
    obtain ⟨g, c, rfl, _, _⟩ := h1.slice
    obtain ⟨c0, c1, c2, c3⟩ := h1.di
    have ck := h1.cell hk
    rw [e] at HO
    clear e h h1 hA hat hy hdk h0 hr0
    generalize ps.getD k 0 = q at *
    rcases dU (S := y.S) (g := y.g) (n := n) with e | e | ⟨e, _⟩
    rotate_right 1
    · exact absurd e hr
    all_goals
      rw [e] at HD ⊢
      clear e hr
      go_enter Tryz.func28, Tryz.ntmps28
      go_wp2_with (first | (refine ai rfl (bD rfl rfl) ?_) | fail)
      refine HO.out.mono ?_
      rintro e w1 ⟨rfl, rfl⟩
      go_wp2_with fail
      refine HD.out.mono ?_
      rintro e w2 ⟨rfl, rfl⟩
      go_wp2_with fail
      go_ret
      exact ⟨rfl, HA.out⟩
  · have hr0 : bX M d n = cN M d := by unfold bX; rw [if_neg h0]
    rw [hr0]
    clear h h1 hA hr hr0
    rcases c_lit_no h0 with e | e
    all_goals
      rw [e] at HO ⊢
      clear e h0
      go_enter Tryz.func28, Tryz.ntmps28
      go_wp2_with (first | (refine ai rfl (bD rfl rfl) ?_) | fail)
      refine HO.out.mono ?_
      rintro e w1 ⟨rfl, rfl⟩
      go_wp2_with fail
      go_ret
      exact ⟨rfl, HA.out⟩
set_option maxHeartbeats 2000000 in
theorem c_write_do (n : Int) (x : Blk) (h : BenAt bH w p v Fs ps M) {k : Nat} (hdk : M.bY = false) (hk : k < M.ds.length) (he : ce (M.ds.getD k bp).S (M.ds.getD k bp).g n = 0) (hs : M.steps < 1000000) (hll : M.left < 9223372036854775808) (hL : (M.ds.getD k bp).L.length < 1000000) :
    Calls Tryz.prog 28 #[.pointer (some ⟨p, 0, none⟩), .int .i64 k, .int .i64 n, blk x] w fun e w' => e = .returned (.int .i64 M.dB) ∧ Left bH w p v Fs ps M.ds.length (wrS6 M (k : Int) n x) w' := by
  obtain ⟨y, hy⟩ : ∃ y, M.ds.getD k bp = y := ⟨_, rfl⟩
  obtain ⟨q, hq⟩ : ∃ q, ps.getD k 0 = q := ⟨_, rfl⟩
  have hA := (Below.refl w.heap.size w).alloc (Nat.le_refl _) (.cells (cel x).toArray 65)
  have h1 := h.below hA
  have HO := Lib.hid (c_asks (k : Int) h1)
  rw [litE_ok hdk hk] at HO
  have hat := h1.devs.at_ k hk
  have hr0 : bX M (k : Int) n = 0 := by unfold bX; rw [if_pos (litE_ok hdk hk), M.dev_nat]; exact he
  rw [hy, hq] at hat
  rw [hy] at he hL
  have HD := Lib.hid (rv_asks n hat)
  rw [he] at HD
  have HST := Lib.hid (c_step h1 hs hll)
  obtain ⟨g, c, rfl, _, _⟩ := h1.slice
  obtain ⟨c0, c1, c2, c3⟩ := h1.di
  have ck := h1.cell hk
  rw [hq] at ck
  have HA := Lib.hid hA
  have HE := Lib.hid he
  have HL := Lib.hid hL
  have HY := Lib.hid hy
  have HQ := Lib.hid hq
  have HR := Lib.hid hr0
  have HB := Lib.hid (new1 w (cel x).toArray 65)
  have HPW := Lib.hid (aV h.at_)
  by_cases h2 : M.left = 1
  · have HE1 : Hid (M.dB = 8) := Lib.hid (by unfold BenS.dB; rw [if_pos h2])
    have HN : Hid (M.step = M.night) := Lib.hid (by unfold BenS.step; rw [if_pos h2])
    have HW : Hid (wrS6 M (k : Int) n x = M.night) := Lib.hid (by unfold wrS6; rw [if_pos hr0, if_pos h2])
    clear h h1 h2 hA hat hr0 hy hq hdk he hs hll hL
    go_enter Tryz.func28, Tryz.ntmps28
    go_wp2_with (first | (refine ai rfl (bD rfl rfl) ?_) | fail)
    refine HO.out.mono ?_
    rintro e w1 ⟨rfl, rfl⟩
    go_wp2_with fail
    refine HD.out.mono ?_
    rintro e w2 ⟨rfl, rfl⟩
    go_wp2_with fail
    refine HST.out.mono ?_
    rintro e w3 ⟨rfl, h3, ho3⟩
    rw [HE1.out]
    have HLL := Lib.hid (Left.above HA.out (Left.obj h3 ho3 (n := M.ds.length) (by rw [HN.out]; rfl)))
    clear h3 ho3
    go_wp2_with fail
    go_ret
    exact ⟨aQ HE1.out.symm, by rw [HW.out, ← HN.out]; exact HLL.out⟩
  · have HE1 : Hid (M.dB = 0) := Lib.hid (by unfold BenS.dB; rw [if_neg h2])
    have HN : Hid (M.step = M.done) := Lib.hid (by unfold BenS.step; rw [if_neg h2])
    have HW : Hid (wrS6 M (k : Int) n x = M.done.put k ⟨y.S, wrL y.S y.L y.g n x, y.g⟩) := Lib.hid (by unfold wrS6; rw [if_pos hr0, if_neg h2, show M.dev (k : Int) = y from hy]; rfl)
    clear h h1 h2 hA hat hr0 hy hq hdk he hs hll hL
    go_enter Tryz.func28, Tryz.ntmps28
    go_wp2_with (first | (refine ai rfl (bD rfl rfl) ?_) | fail)
    refine HO.out.mono ?_
    rintro e w1 ⟨rfl, rfl⟩
    go_wp2_with fail
    refine HD.out.mono ?_
    rintro e w2 ⟨rfl, rfl⟩
    go_wp2_with fail
    refine HST.out.mono ?_
    rintro e w3 ⟨rfl, h3, ho3⟩
    rw [HE1.out]
    rw [HN.out] at h3
    have hb3 := ho3.keep HB.out (fun e => by have := HPW.out; omega)
    have H3 := Lib.hid h3
    have HB3 := Lib.hid hb3
    have HO3 := Lib.hid (Only.trans (Only.of_below (fun b => b = p) HA.out) ho3 fun b hb => .inl hb)
    clear h3 ho3 hb3 c0 c1 c2 c3 ck
    go_wp2_with fail
    have hdr : BenAt bH w3.drew p (.slice (some ⟨g, 0, none⟩) M.ds.length c) Fs ps M.done := H3.out.below (bd (Below.refl _ _))
    refine wp_region_still_tail 9 (by kernel_rfl) (by kernel_rfl) ?_
    simp only [List.take_succ_cons, List.take_zero, List.drop_succ_cons, List.drop_zero]
    refine aw rfl (ah rfl (ev rfl)) ?_
    simp only [Act.put, aa, ae, af]
    refine aw rfl (az rfl (ev rfl)) ?_
    simp only [Act.put, aa, ae, af]
    refine aw rfl (ak rfl (ev rfl) faRb0) ?_
    simp only [Act.put, aa, ae, af]
    refine aw rfl (av rfl (ev rfl) (ldRs hdr.di.1)) ?_
    simp only [Act.put, aa, ae, af]
    refine aw rfl (ah rfl (ev rfl)) ?_
    simp only [Act.put, aa, ae, af]
    refine aw rfl (exec_ixR (k := bH) rfl (ev rfl) (ev rfl) hk) ?_
    simp only [Act.put, aa, ae, af]
    refine aw rfl (av rfl (ev rfl) (ldRp (BenAt.cell (M := M.done) hdr (i := k) hk))) ?_
    simp only [Act.put, aa, ae, af]
    refine aw rfl (ah rfl (ev rfl)) ?_
    simp only [Act.put, aa, ae, af]
    refine aw rfl (aJ rfl (ev rfl) (blk_range HB3.out)) ?_
    simp only [Act.put, aa, ae, af]
    refine wpStill_nil ?_
    change wpList _ _ _ _ _ w3.drew
    rw [HQ.out]
    have hat3 := hdr.devs.at_ k hk
    rw [show M.done.ds.getD k bp = y from HY.out, HQ.out] at hat3
    have HDR := Lib.hid hdr
    have HD3 := Lib.hid (rv_write n x HL.out hat3)
    clear hdr hat3
    go_wp2_with fail
    refine HD3.out.mono ?_
    rintro e w4 ⟨rfl, F', g1, g2, g3⟩
    rw [HE.out]
    have HLT := Lib.hid (Left.behind (HO3.out.drew) (Left.turn HDR.out (i := k) hk g2 g3 (d := ⟨y.S, wrL y.S y.L y.g n x, y.g⟩) (show Rv _ _ _ _ _ _ by rw [HQ.out]; exact g1) HW.out))
    clear g1 g2 g3
    go_wp2_with fail
    go_ret
    exact ⟨aQ HE1.out.symm, HLT.out⟩
theorem c_write (d n : Int) (x : Blk) (h : BenAt bH w p v Fs ps M) (hr : ∀ i, i < M.ds.length → (M.ds.getD i bp).L.length < 1000000) (hs : M.steps < 1000000) (hll : M.left < 9223372036854775808) :
    Calls Tryz.prog 28 #[.pointer (some ⟨p, 0, none⟩), .int .i64 d, .int .i64 n, blk x] w fun e w' => e = .returned (.int .i64 (wrE6 M d n)) ∧ Left bH w p v Fs ps M.ds.length (wrS6 M d n x) w' := by
  by_cases hr0 : bX M d n = 0
  · have hlit : cN M d = 0 := by
      by_cases h0 : cN M d = 0
      · exact h0
      · unfold bX at hr0; rw [if_neg h0] at hr0; exact hr0
    rcases cG M d with ⟨e, _⟩ | ⟨e, _⟩ | ⟨e, hdk, k, rfl, hk⟩
    · omega
    · omega
    have he : ce (M.ds.getD k bp).S (M.ds.getD k bp).g n = 0 := by unfold bX at hr0; rwa [if_pos e, M.dev_nat] at hr0
    refine (c_write_do n x h hdk hk he hs hll (hr k hk)).mono ?_
    rintro e w' ⟨rfl, hl⟩
    exact ⟨by unfold wrE6; rw [if_pos hr0], hl⟩
  · refine (c_write_no d n x h hr0).mono ?_
    rintro e w' ⟨rfl, hb⟩
    exact ⟨by unfold wrE6; rw [if_neg hr0], Left.below_ h hb (by unfold wrS6; rw [if_neg hr0])⟩
set_option maxHeartbeats 2000000 in
theorem c_crash {A : Option Addr} {n c : Nat} {P : List Int} (h : BenAt bH w p v Fs ps M) (hP : Pk w (dL p v Fs M.ds.length) A n c P) :
    Calls Tryz.prog 41 #[.pointer (some ⟨p, 0, none⟩), .slice A n c] w fun e w' => e = .returned (.int .i64 0) ∧ Left bH w p v Fs ps M.ds.length (crS6 M P) w' := by
  obtain ⟨g, cc, rfl, _, hcm⟩ := h.slice
  unfold maxLen at hcm
  have HH := Lib.hid h
  have HP := Lib.hid hP
  have hlen : M.ds.length ≤ 17 := h.cap
  clear h hP
  go_enter Tryz.func41, Tryz.ntmps41
  go_wp2_with fail
  go_loopw [1, 5] (fun pk i wr => ∃ (j : Nat) (A' : Option Addr) (n' c' : Nat) (Fs' : Nat → Nat → Prop), j ≤ M.ds.length ∧ i = .int .i64 j ∧ pk = .slice A' n' c' ∧ Pk w (dL p (.slice (some ⟨g, 0, none⟩) M.ds.length cc) Fs M.ds.length) A' n' c' (cX M.ds P j).2 ∧ eE bH w wr p (.slice (some ⟨g, 0, none⟩) M.ds.length cc) Fs ps M P j Fs') (fun _ i _ => M.ds.length - (intOf i).toNat)
  case atStart => exact ⟨0, A, n, c, Fs, Nat.zero_le _, rfl, rfl, by rw [show (cX M.ds P 0).2 = P from by rw [cX]]; exact HP.out, eE.zero HH.out P⟩
  case round =>
    obtain ⟨j, A', n', c', Fs', hj, rfl, rfl, hpk, hct⟩ := hrel
    obtain ⟨c0, c1, c2, c3⟩ := hct.1.di
    by_cases hlt : j < M.ds.length
    · have hlj : (j : Int) < (M.ds.length : Int) := by omega
      have hcell : wr.cell? ⟨g, j, none⟩ = some (.pointer (some ⟨ps.getD j 0, 0, none⟩)) := by
        have h1 := hct.1
        have hl : (cX M.ds P j).1.length = M.ds.length := fj j M.ds P
        have h2 : BenAt bH wr p (.slice (some ⟨g, 0, none⟩) (⟨(cX M.ds P j).1, M.left, M.bY, M.steps⟩ : BenS).ds.length cc) Fs' ps ⟨(cX M.ds P j).1, M.left, M.bY, M.steps⟩ := by
          rw [show (⟨(cX M.ds P j).1, M.left, M.bY, M.steps⟩ : BenS).ds.length = M.ds.length from hl]; exact h1
        exact h2.cell (by show j < (cX M.ds P j).1.length; rw [hl]; exact hlt)
      obtain ⟨x, hx⟩ : ∃ x, M.ds.getD j bp = x := ⟨_, rfl⟩
      obtain ⟨Q, hQ⟩ : ∃ Q, (cX M.ds P j).2 = Q := ⟨_, rfl⟩
      have hdv := hct.dev hlt
      rw [hx] at hdv
      rw [hQ] at hpk
      have hnx := (crIn_succ j M.ds P hlt).2
      rw [hx, hQ] at hnx
      have hrd := hpk.only hct.2.1
      have HC := Lib.hid (rv_crash (c := c') hrd (hpk.grown (w' := w) fun b hb => hct.2.2 b (.inr (.inr ⟨j, hlt, hb⟩))) hdv)
      have HCT := Lib.hid hct
      have HPK := Lib.hid hpk
      have HX := Lib.hid hx
      have HQ := Lib.hid hQ
      have HNX := Lib.hid hnx
      have hql : (min x.L.length n' : Nat) ≤ n' := Nat.min_le_right _ _
      have hpl := hpk.len
      have HPL := Lib.hid hpl
      clear hx hQ hdv hrd hct hpk hnx hpl
      generalize hqq : ps.getD j 0 = q at *
      have HQQ := Lib.hid hqq
      clear hqq
      generalize hmm : min x.L.length n' = m at *
      have HMM := Lib.hid hmm
      clear hmm
      go_wp2_with fail
      refine HC.out.mono ?_
      rintro e w2 ⟨rfl, F'', g1, g2, g3⟩
      go_wp2_with (first | (refine ai rfl (exec_tailI rfl rfl rfl hql) ?_) | fail)
      go_roundw
      case rel => exact ⟨j + 1, _, _, _, _, by omega, by go_num, rfl, by rw [HNX.out, HPL.out, HMM.out]; exact HPK.out.tail hql, HCT.out.next hlt g2 g3 (by rw [HQQ.out, HX.out, HQ.out]; exact g1)⟩
      case measure => simp [intOf]; omega
    · have hjn : j = M.ds.length := by omega
      subst hjn
      have hlj : ¬((M.ds.length : Int) < (M.ds.length : Int)) := by omega
      have h1 := hct.1
      rw [crIn_all] at h1
      have f1 := frozen_of_row wr p 1 _ _ h1.at_
      have f2 := frozen_of_row wr p 2 _ _ h1.at_
      have HH1 := Lib.hid h1
      have HCT := Lib.hid hct
      clear h1 hct hpk
      go_wp2_with fail
      go_ret
      have ho : Only (fun b => b = p) wr ((wr.setCell ⟨p, 1, none⟩ (.int .i64 0)).setCell ⟨p, 2, none⟩ (.bool false)) := (ct wr p 1 (.int .i64 0)).setCell (p := ⟨p, 2, none⟩) (.inl rfl) (.bool false)
      have h3 := heap_setCell_same _ p 2 _ _ (.bool false) (heap_setCell_same wr p 1 _ _ (.int .i64 0) HH1.out.at_)
      refine ⟨rfl, Fs', ps, HH1.out.obj 0 false M.steps ho (by simpa [bH] using h3), HCT.out.2.1.trans ho fun b hb => .inl (.inl hb), ?_⟩
      have hl : (crAll M.ds P).length = M.ds.length := by rw [← crIn_all, fj]
      show Grow w _ (dL p _ Fs' (crAll M.ds P).length)
      rw [hl]
      exact HCT.out.2.2
end
end Go.Proofs.YtcafafdimcecpaaGreatDoor
