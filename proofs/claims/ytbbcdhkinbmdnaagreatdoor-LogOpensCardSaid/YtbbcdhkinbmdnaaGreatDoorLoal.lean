import Derived.Test.YtbbcdhkinbmdnaaGreatDoorLoak
import Derived.Test.YtbbcdhkinbmdnaaGreatDoorLoac
import Derived.Test.YtbbcdhkinbmdnaaGreatDoorLoaf
import Derived.Deep.DeepCutAuto
import Derived.Test.YtbbcdhkinbmdnaaGreatDoorLoad
import Derived.Test.YtbbcdhkinbmdnaaGreatDoorLoZ
namespace Go.Proofs.YtbbcdhkinbmdnaaGreatDoor
open Go.RowKit
set_option linter.unusedVariables false
set_option maxRecDepth 100000
def Rv (w : World) (F : Nat → Prop) (p : Nat) (S : List Blk) (L : List (Int × Blk)) (g : Bool) : Prop := ∃ vS vL, F = foot p vS vL ∧ RefD w p vS vL S L g ∧ Fit S L
section
variable {w w' : World} {F G : Nat → Prop} {p : Nat} {S : List Blk} {L : List (Int × Blk)} {g : Bool}
theorem Rv.lt (h : Rv w F p S L g) : ∀ b, F b → b < w.heap.size := by
 obtain ⟨vS, vL, rfl, h, _⟩ := h
 exact h.lt
theorem Rv.only (h : Rv w F p S L g) (k : Only G w w') (hn : ∀ b, F b → ¬ G b) : Rv w' F p S L g := by
 obtain ⟨vS, vL, rfl, h, hF⟩ := h
 exact ⟨vS, vL, rfl, h.only k hn, hF⟩
end
section
variable {w : World} {F : Nat → Prop} {p : Nat} {S : List Blk} {L : List (Int × Blk)} {g : Bool}
theorem rv_read (n : Int) (h : Rv w F p S L g) : Calls Tryz.prog 74 #[.pointer (some ⟨p, 0, none⟩), .int .i64 n] w fun e w' => e = .returned (.tuple #[blk (eR S L g n), .int .i64 (cR S g n)]) ∧ Below w.heap.size w w' := by
 obtain ⟨vS, vL, rfl, h, _⟩ := h
 exact r_read p vS vL S L g n w h
theorem rv_write (n : Int) (b : Blk) (hL : L.length < 1000000) (h : Rv w F p S L g) : Calls Tryz.prog 25 #[.pointer (some ⟨p, 0, none⟩), .int .i64 n, blk b] w fun e w' => e = .returned (.int .i64 (cR S g n)) ∧ ∃ F', Rv w' F' p S (wrL S L g n b) g ∧ Only F w w' ∧ Grow w F F' := by
 obtain ⟨vS, vL, rfl, h, hF⟩ := h
 refine (r_write p vS vL S L g n b w h hL).mono ?_
 rintro e w' ⟨he, vL', h1, h2, h3⟩
 refine ⟨he, _, ⟨vS, vL', rfl, h1, hF.wr g n b⟩, h2, fun k hk => ?_⟩
 rcases hk with e | e | e
 ·exact .inl (.inl e)
 ·exact .inl (.inr (.inl e))
 ·rcases h3 k e with e | e
  ·exact .inl (.inr (.inr e))
  ·exact .inr e
theorem rv_flush (h : Rv w F p S L g) : Calls Tryz.prog 131 #[.pointer (some ⟨p, 0, none⟩)] w fun e w' => e = .returned (.int .i64 (if g = true then 9 else 0)) ∧ ∃ F', Rv w' F' p (if g = true then S else flS S L) (if g = true then L else []) g ∧ Only F w w' ∧ Grow w F F' := by
 obtain ⟨vS, vL, rfl, h, hF⟩ := h
 cases g
 ·refine (r_flush_ok p vS vL S L w h hF).mono ?_
  rintro e w' ⟨he, h1, h2⟩
  refine ⟨he, _, ⟨vS, _, rfl, h1, Fit.nil _⟩, h2, fun k hk => ?_⟩
  rcases hk with e | e | e
  ·exact .inl (.inl e)
  ·exact .inl (.inr (.inl e))
  ·simp [Value.ownBlock] at e
 ·refine (r_flush_dead p vS vL S L w h).mono ?_
  rintro e w' ⟨he, rfl⟩
  exact ⟨he, _, ⟨vS, vL, rfl, h, hF⟩, Only.refl _ _, Grow.same _ _⟩
theorem rv_new (k : Nat) (w : World) (h1 : 1 ≤ k) (h2 : k ≤ 512) : Calls Tryz.prog 57 #[.int .i64 k] w fun e w' => ∃ p F, e = .returned (.tuple #[.pointer (some ⟨p, 0, none⟩), .int .i64 0]) ∧ Rv w' F p (List.replicate k ap) [] false ∧ Below w.heap.size w w' ∧ ∀ b, F b → w.heap.size ≤ b := by
 refine (r_new_ok k w h1 h2).mono ?_
 rintro e w' ⟨p, vS, he, hr, hb, hf⟩
 exact ⟨p, _, he, ⟨vS, _, rfl, hr, Fit.nil _⟩, hb, hf⟩
end
def cU : BKind where
 K := ⟨Rv, Rv.lt, Rv.only⟩
 s := 73
 t := 72
 und := Tryz.underlying73
 info := by kernel_rfl
 o := 75
 cs := fun v left dark steps => #[v, .int .i64 left, .bool dark, .int .i64 steps]
 ne := by decide
theorem r4cells {w : World} {b : Nat} {t : TypeId} {x y z u : Value} (h : w.heap[b]? = some (.cells #[x, y, z, u] t (0, 0))) : w.cell? ⟨b, 0, none⟩ = some x ∧ w.cell? ⟨b, 1, none⟩ = some y ∧ w.cell? ⟨b, 2, none⟩ = some z ∧ w.cell? ⟨b, 3, none⟩ = some u := by
 refine ⟨?_, ?_, ?_, ?_⟩
 ·rw [cell_of_row w b 0 _ t (0, 0) h]; rfl
 ·rw [cell_of_row w b 1 _ t (0, 0) h]; rfl
 ·rw [cell_of_row w b 2 _ t (0, 0) h]; rfl
 ·rw [cell_of_row w b 3 _ t (0, 0) h]; rfl
theorem rv_asks {w : World} {F : Nat → Prop} {p : Nat} {S : List Blk} {L : List (Int × Blk)} {g : Bool} (n : Int) (h : Rv w F p S L g) : Calls Tryz.prog 23 #[.pointer (some ⟨p, 0, none⟩), .int .i64 n] w fun e w' => e = .returned (.int .i64 (cR S g n)) ∧ w = w' := by
 obtain ⟨vS, vL, rfl, h, _⟩ := h
 exact r_asks p vS vL S L g n w h
theorem rv_cells {w : World} {F : Nat → Prop} {p : Nat} {S : List Blk} {L : List (Int × Blk)} {g : Bool} (h : Rv w F p S L g) : ∃ A c, w.cell? ⟨p, 0, none⟩ = some (.slice A S.length c) ∧ w.cell? ⟨p, 2, none⟩ = some (.bool g) := by
 obtain ⟨vS, vL, rfl, h, _⟩ := h
 obtain ⟨c0, c1, c2⟩ := cells3 h.at_
 obtain ⟨A, c, rfl, _, _⟩ := h.S_.form
 exact ⟨A, c, c0, c2⟩
section
variable {w w' : World} {p : Nat} {v : Value} {Fs : Nat → Nat → Prop} {ps : List Nat} {M : BenS}
theorem BenAt.rcells (h : BenAt cU w p v Fs ps M) : w.cell? ⟨p, 0, none⟩ = some v ∧ w.cell? ⟨p, 1, none⟩ = some (.int .i64 M.left) ∧ w.cell? ⟨p, 2, none⟩ = some (.bool M.dark) ∧ w.cell? ⟨p, 3, none⟩ = some (.int .i64 M.steps) := r4cells h.at_
theorem c_has_no (h : BenAt cU w p v Fs ps M) {d : Int} (hd : ¬(0 ≤ d ∧ d < M.ds.length)) :
  Calls Tryz.prog 31 #[.pointer (some ⟨p, 0, none⟩), .int .i64 d] w fun e w' => e = .returned (.bool false) ∧ w = w' := by
 obtain ⟨g, c, rfl, _, _⟩ := h.slice
 obtain ⟨c0, c1, c2, c3⟩ := h.rcells
 clear h
 by_cases h0 : 0 ≤ d
 ·have h1 : ¬(d < (M.ds.length : Int)) := by omega
  clear hd
  go_enter Tryz.func31, Tryz.ntmps31
  go_wp2
  go_ret
  exact ⟨rfl, rfl⟩
 ·clear hd
  go_enter Tryz.func31, Tryz.ntmps31
  go_wp2
  go_ret
  exact ⟨rfl, rfl⟩
theorem c_has_ok (h : BenAt cU w p v Fs ps M) {k : Nat} (hk : k < M.ds.length) :
  Calls Tryz.prog 31 #[.pointer (some ⟨p, 0, none⟩), .int .i64 k] w fun e w' => e = .returned (.bool true) ∧ w = w' := by
 obtain ⟨g, c, rfl, _, _⟩ := h.slice
 obtain ⟨c0, c1, c2, c3⟩ := h.rcells
 clear h
 go_enter Tryz.func31, Tryz.ntmps31
 go_wp2
 go_ret
 exact ⟨rfl, rfl⟩
theorem c_asks (d : Int) (h : BenAt cU w p v Fs ps M) :
  Calls Tryz.prog 22 #[.pointer (some ⟨p, 0, none⟩), .int .i64 d] w fun e w' => e = .returned (.int .i64 (dF M d)) ∧ w = w' := by
 obtain ⟨c0, c1, c2, c3⟩ := h.rcells
 rcases dB M d with ⟨e, hdk⟩ | ⟨e, hdk, ho⟩ | ⟨e, hdk, k, rfl, hk⟩
 ·rw [e]
  rw [hdk] at c2
  clear e hdk h
  go_enter Tryz.func22, Tryz.ntmps22
  go_wp2
  go_ret
  exact ⟨rfl, rfl⟩
 ·rw [e]
  rw [hdk] at c2
  have HO := af (c_has_no h ho)
  clear e hdk h ho
  go_enter Tryz.func22, Tryz.ntmps22
  go_wp2_with fail
  refine HO.out.mono ?_
  rintro e w1 ⟨rfl, rfl⟩
  go_wp2_with fail
  go_ret
  exact ⟨rfl, rfl⟩
 ·rw [e]
  rw [hdk] at c2
  have HO := af (c_has_ok h hk)
  clear e hdk h hk
  go_enter Tryz.func22, Tryz.ntmps22
  go_wp2_with fail
  refine HO.out.mono ?_
  rintro e w1 ⟨rfl, rfl⟩
  go_wp2_with fail
  go_ret
  exact ⟨rfl, rfl⟩
theorem c_sectors (d : Int) (h : BenAt cU w p v Fs ps M) :
  Calls Tryz.prog 32 #[.pointer (some ⟨p, 0, none⟩), .int .i64 d] w fun e w' => e = .returned (.int .i64 (bO M d)) ∧ w = w' := by
 rcases e9 M d with ⟨e, ho⟩ | ⟨e, k, rfl, hk⟩
 ·have HS : Hid (bO M d = 0) := af (by unfold bO; rw [if_neg (by omega)])
  have HO := af (c_has_no h ho)
  clear e h ho
  go_enter Tryz.func32, Tryz.ntmps32
  go_wp2_with fail
  refine HO.out.mono ?_
  rintro e w1 ⟨rfl, rfl⟩
  go_wp2_with fail
  go_ret
  exact ⟨bD HS.out.symm, rfl⟩
 ·obtain ⟨x, hx⟩ : ∃ x, M.ds.getD k cJ = x := ⟨_, rfl⟩
  have hat := h.devs.at_ k hk
  rw [hx] at hat
  have HS : Hid (bO M (k : Int) = (x.S.length : Int)) := af (by unfold bO; rw [if_pos e, M.dev_nat, hx])
  have HO := af (c_has_ok h hk)
  obtain ⟨g, c, rfl, _, _⟩ := h.slice
  obtain ⟨c0, c1, c2, c3⟩ := h.rcells
  have ck := h.cell hk
  obtain ⟨AS, cS, d0, d2⟩ := rv_cells hat
  clear e h hat hx
  generalize ps.getD k 0 = q at *
  go_enter Tryz.func32, Tryz.ntmps32
  go_wp2_with fail
  refine HO.out.mono ?_
  rintro e w1 ⟨rfl, rfl⟩
  go_wp2_with fail
  go_ret
  exact ⟨bD HS.out.symm, rfl⟩
set_option maxHeartbeats 1000000 in
theorem c_read (d n : Int) (h : BenAt cU w p v Fs ps M) :
  Calls Tryz.prog 33 #[.pointer (some ⟨p, 0, none⟩), .int .i64 d, .int .i64 n] w fun e w' => e = .returned (.tuple #[blk (cq M d n), .int .i64 (bT M d n)]) ∧ Below w.heap.size w w' := by
 have hA := (Below.refl w.heap.size w).alloc (Nat.le_refl _) (.cells (cel ap).toArray 29)
 have h1 := h.below hA
 have HT := af (dl w ap 29)
 have HA := af hA
 have HO := af (c_asks d h1)
 by_cases hl : dF M d = 0
 ·rcases dB M d with ⟨e, _⟩ | ⟨e, _⟩ | ⟨e, hdk, k, rfl, hk⟩
  ·omega
  ·omega
  obtain ⟨x, hx⟩ : ∃ x, M.ds.getD k cJ = x := ⟨_, rfl⟩
  have hat := h1.devs.at_ k hk
  rw [hx] at hat
  have HB : Hid (cq M (k : Int) n = eR x.S x.L x.g n) := af (by unfold cq; rw [if_pos e, ← hx]; rfl)
  have HE : Hid (bT M (k : Int) n = cR x.S x.g n) := af (by unfold bT; rw [if_pos e, ← hx]; rfl)
  rw [e] at HO
  have HD := af (rv_read n hat)
  have HSZ := af (World.size_alloc w (.cells (cel ap).toArray 29))
  obtain ⟨g, c, rfl, _, _⟩ := h1.slice
  obtain ⟨c0, c1, c2, c3⟩ := h1.rcells
  have ck := h1.cell hk
  clear e h h1 hat hx hdk hA hl
  rw [HB.out, HE.out]
  clear HB HE
  generalize eR x.S x.L x.g n = y at *
  generalize cR x.S x.g n = z at *
  generalize ps.getD k 0 = q at *
  go_enter Tryz.func33, Tryz.ntmps33
  go_wp2_with (first | (refine al rfl (aT rfl) ?_) | fail)
  refine HO.out.mono ?_
  rintro e w1 ⟨rfl, rfl⟩
  go_wp2_with fail
  refine HD.out.mono ?_
  rintro e w2 ⟨rfl, hb⟩
  have HT2 := af (aO HT.out (by rw [HSZ.out]; omega) hb)
  have HB2 := af (HA.out.trans (hb.mono (by rw [HSZ.out]; omega)))
  clear hb
  go_wp2_with (first | (refine aV rfl (aR rfl rfl rfl HT2.out) ?_) | fail)
  exact bodyPost_ret (bZ rfl _ _ _ rfl (World.rangeAt_setCells_same _ _ _ _ (by rw [aA]; exact HT2.out))) rfl ⟨rfl, below_setCells HB2.out (Nat.le_refl _) _⟩
 ·have HB : Hid (cq M d n = ap) := af (by unfold cq; rw [if_neg hl])
  have HE : Hid (bT M d n = dF M d) := af (by unfold bT; rw [if_neg hl])
  clear h h1 hA
  rw [HB.out, HE.out]
  rcases dB M d with ⟨e, _⟩ | ⟨e, _⟩ | ⟨e, _⟩
  rotate_right 1
  ·exact absurd e hl
  all_goals
   rw [e] at HO ⊢
   clear e hl
   go_enter Tryz.func33, Tryz.ntmps33
   go_wp2_with (first | (refine al rfl (aT rfl) ?_) | fail)
   refine HO.out.mono ?_
   rintro e w1 ⟨rfl, rfl⟩
   go_wp2_with (first | (refine al rfl (b8 (c := ap) (parts := []) rfl rfl) ?_) | (refine aV rfl (aR rfl rfl rfl HT.out) ?_))
   exact bodyPost_ret (bZ rfl _ _ _ rfl (World.rangeAt_setCells_same _ _ _ _ (by rw [aA]; exact HT.out))) rfl ⟨rfl, below_setCells HA.out (Nat.le_refl _) _⟩
def BenS.step (M : BenS) : BenS := if M.left = 1 then M.night else M.done
theorem c_step (h : BenAt cU w p v Fs ps M) (hs : M.steps < 1000000) (hll : M.left < 9223372036854775808) :
  Calls Tryz.prog 24 #[.pointer (some ⟨p, 0, none⟩)] w fun e w' => e = .returned (.int .i64 M.d6) ∧ BenAt cU w' p v Fs ps M.step ∧ Only (fun b => b = p) w w' := by
 obtain ⟨c0, c1, c2, c3⟩ := h.rcells
 have f1 := frozen_of_row w p 1 _ _ h.at_
 have f2 := frozen_of_row w p 2 _ _ h.at_
 have f3 := frozen_of_row w p 3 _ _ h.at_
 have HH := af h
 clear h
 by_cases h1 : M.left = 1
 ·have HE : Hid (M.d6 = 8) := af (by unfold BenS.d6; rw [if_pos h1])
  have HS : Hid (M.step = M.night) := af (by unfold BenS.step; rw [if_pos h1])
  rw [h1] at c1
  clear h1 hs hll
  go_enter Tryz.func24, Tryz.ntmps24
  go_wp2_with fail
  go_ret
  have ho := ez w p 2 (.bool true)
  refine ⟨bD HE.out.symm, ?_, ho⟩
  rw [HS.out]
  refine HH.out.obj _ _ _ ho ?_
  have := heap_setCell_same w p 2 _ _ (.bool true) HH.out.at_
  simpa [cU] using this
 ·have HE : Hid (M.d6 = 0) := af (by unfold BenS.d6; rw [if_neg h1])
  have HS : Hid (M.step = M.done) := af (by unfold BenS.step; rw [if_neg h1])
  by_cases h2 : 1 < M.left
  ·have hl1 : ((M.left : Int) == 1) = false := by simpa using (by omega : ¬ (M.left : Int) = 1)
   go_enter Tryz.func24, Tryz.ntmps24
   go_wp2_with fail
   go_ret
   have ho := (ez w p 1 (.int .i64 ((M.left : Int) - 1))).setCell (p := ⟨p, 3, none⟩) (.inl rfl) (.int .i64 ((M.steps : Int) + 1))
   refine ⟨bD HE.out.symm, ?_, ho⟩
   rw [HS.out]
   refine HH.out.obj _ _ _ ho ?_
   have h3 := heap_setCell_same _ p 3 _ _ (.int .i64 ((M.steps : Int) + 1)) (heap_setCell_same w p 1 _ _ (.int .i64 ((M.left : Int) - 1)) HH.out.at_)
   have e : ((M.left - 1 : Nat) : Int) = (M.left : Int) - 1 := by omega
   simpa [cU, e] using h3
  ·have hl0 : M.left = 0 := by omega
   have HL0 := af hl0
   rw [hl0] at c1
   clear h1 hll h2 hl0
   go_enter Tryz.func24, Tryz.ntmps24
   go_wp2_with fail
   go_ret
   have ho := ez w p 3 (.int .i64 ((M.steps : Int) + 1))
   refine ⟨bD HE.out.symm, ?_, ho⟩
   rw [HS.out]
   refine HH.out.obj _ _ _ ho ?_
   have h3 := heap_setCell_same w p 3 _ _ (.int .i64 ((M.steps : Int) + 1)) HH.out.at_
   simpa [cU, HL0.out] using h3
end
section
variable {w w' : World} {p : Nat} {v : Value} {Fs : Nat → Nat → Prop} {ps : List Nat} {M : BenS}
theorem c_lit_no {d : Int} (h0 : dF M d ≠ 0) : dF M d = 8 ∨ dF M d = 2 := by
 rcases dB M d with ⟨e, _⟩ | ⟨e, _⟩ | ⟨e, _⟩
 ·exact .inl e
 ·exact .inr e
 ·exact absurd e h0
theorem c_flush_no (d : Int) (h : BenAt cU w p v Fs ps M) (hl : flA6 M d ≠ 0) :
  Calls Tryz.prog 90 #[.pointer (some ⟨p, 0, none⟩), .int .i64 d] w fun e w' => e = .returned (.int .i64 (flE6 M d)) ∧ Left cU w p v Fs ps M.ds.length (flS6 M d) w' := by
 have HE : Hid (flE6 M d = flA6 M d) := af (by unfold flE6; rw [if_neg hl])
 have HL := af (Left.same h (M' := flS6 M d) (by unfold flS6; rw [if_neg hl]))
 have HO := af (c_asks d h)
 by_cases h0 : dF M d = 0
 ·rcases dB M d with ⟨e, _⟩ | ⟨e, _⟩ | ⟨e, hdk, k, rfl, hk⟩
  ·omega
  ·omega
  obtain ⟨x, hx⟩ : ∃ x, M.ds.getD k cJ = x := ⟨_, rfl⟩
  have hat := h.devs.at_ k hk
  rw [hx] at hat
  have hg : x.g = true := by
   cases hg : x.g
   ·exfalso; apply hl; unfold flA6; rw [if_pos e, show M.dev (k : Int) = x from hx, hg, if_neg (by decide)]
   ·rfl
  have H9 : Hid (flA6 M (k : Int) = 9) := af (by unfold flA6; rw [if_pos e, show M.dev (k : Int) = x from hx, hg, if_pos rfl])
  obtain ⟨g, c, rfl, _, _⟩ := h.slice
  obtain ⟨c0, c1, c2, c3⟩ := h.rcells
  have ck := h.cell hk
  obtain ⟨AS, cS, d0, d2⟩ := rv_cells hat
  rw [hg] at d2
  rw [e] at HO
  clear e h hat hx hdk hl h0 hg
  generalize ps.getD k 0 = q at *
  go_enter Tryz.func90, Tryz.ntmps90
  go_wp2_with fail
  refine HO.out.mono ?_
  rintro e w1 ⟨rfl, rfl⟩
  go_wp2_with fail
  go_ret
  exact ⟨bD (by rw [HE.out, H9.out]), HL.out⟩
 ·have HA : Hid (flA6 M d = dF M d) := af (by unfold flA6; rw [if_neg h0])
  clear h hl
  rw [HE.out, HA.out]
  rcases c_lit_no h0 with e | e
  all_goals
   rw [e] at HO ⊢
   clear e h0
   go_enter Tryz.func90, Tryz.ntmps90
   go_wp2_with fail
   refine HO.out.mono ?_
   rintro e w1 ⟨rfl, rfl⟩
   go_wp2_with fail
   go_ret
   exact ⟨rfl, HL.out⟩
theorem c_flush (d : Int) (h : BenAt cU w p v Fs ps M) (hs : M.steps < 1000000) (hll : M.left < 9223372036854775808) :
  Calls Tryz.prog 90 #[.pointer (some ⟨p, 0, none⟩), .int .i64 d] w fun e w' => e = .returned (.int .i64 (flE6 M d)) ∧ Left cU w p v Fs ps M.ds.length (flS6 M d) w' := by
 by_cases hl : flA6 M d = 0
 rotate_left 1
 ·exact c_flush_no d h hl
 have hlit : dF M d = 0 := by
  unfold flA6 at hl
  by_cases h0 : dF M d = 0
  ·exact h0
  ·rw [if_neg h0] at hl; exact hl
 rcases dB M d with ⟨e, _⟩ | ⟨e, _⟩ | ⟨e, hdk, k, rfl, hk⟩
 ·omega
 ·omega
 obtain ⟨x, hx⟩ : ∃ x, M.ds.getD k cJ = x := ⟨_, rfl⟩
 have hat := h.devs.at_ k hk
 rw [hx] at hat
 have hg : x.g = false := by
  cases hg : x.g
  ·rfl
  ·exfalso; unfold flA6 at hl; rw [if_pos e, show M.dev (k : Int) = x from hx, hg, if_pos rfl] at hl; omega
 have HEE : Hid (flE6 M (k : Int) = M.d6) := af (by unfold flE6; rw [if_pos hl])
 have HO := af (c_asks (k : Int) h)
 rw [e] at HO
 have HST := af (c_step h hs hll)
 obtain ⟨q, hq⟩ : ∃ q, ps.getD k 0 = q := ⟨_, rfl⟩
 obtain ⟨g, c, rfl, _, _⟩ := h.slice
 obtain ⟨c0, c1, c2, c3⟩ := h.rcells
 have ck := h.cell hk
 obtain ⟨AS, cS, d0, d2⟩ := rv_cells hat
 rw [hg] at d2
 rw [hq] at ck d2 d0
 by_cases h1 : M.left = 1
 ·have HE : Hid (M.d6 = 8) := af (by unfold BenS.d6; rw [if_pos h1])
  have HN : Hid (M.step = M.night) := af (by unfold BenS.step; rw [if_pos h1])
  have HS : Hid (flS6 M (k : Int) = M.night) := af (by unfold flS6; rw [if_pos hl, if_pos h1])
  clear e h hat hx hdk hl hg h1 hlit hs hll hq
  go_enter Tryz.func90, Tryz.ntmps90
  go_wp2_with fail
  refine HO.out.mono ?_
  rintro e w1 ⟨rfl, rfl⟩
  go_wp2_with fail
  refine HST.out.mono ?_
  rintro e w2 ⟨rfl, h2, ho2⟩
  rw [HE.out]
  have H2 := af h2
  have HO2 := af ho2
  clear h2 ho2
  go_wp2_with fail
  go_ret
  refine ⟨bD (by rw [HEE.out, HE.out]), ?_⟩
  rw [HS.out, ← HN.out]
  exact Left.obj H2.out HO2.out (by rw [HN.out]; rfl)
 ·have HE : Hid (M.d6 = 0) := af (by unfold BenS.d6; rw [if_neg h1])
  have HN : Hid (M.step = M.done) := af (by unfold BenS.step; rw [if_neg h1])
  have HS : Hid (flS6 M (k : Int) = M.done.put k ⟨flS x.S x.L, [], x.g⟩) := af (by unfold flS6; rw [if_pos hl, if_neg h1, show M.dev (k : Int) = x from hx]; rfl)
  have HX := af hx
  have HG := af hg
  have HQ := af hq
  clear e h hat hx hdk hl hg h1 hlit hs hll hq
  go_enter Tryz.func90, Tryz.ntmps90
  go_wp2_with fail
  refine HO.out.mono ?_
  rintro e w1 ⟨rfl, rfl⟩
  go_wp2_with fail
  refine HST.out.mono ?_
  rintro e w2 ⟨rfl, h2, ho2⟩
  rw [HE.out]
  rw [HN.out] at h2
  obtain ⟨e0, e1, e2, e3⟩ := h2.rcells
  have ek := BenAt.cell (M := M.done) h2 (i := k) hk
  rw [HQ.out] at ek
  have hat2 := h2.devs.at_ k hk
  rw [show M.done.ds.getD k cJ = x from HX.out, HQ.out] at hat2
  have HD := af (rv_flush hat2)
  have H2 := af h2
  have HO2 := af ho2
  clear h2 ho2 hat2 c0 c1 c2 c3 ck d0 d2
  go_wp2_with fail
  refine HD.out.mono ?_
  rintro e w3 ⟨rfl, F', g1, g2, g3⟩
  rw [HG.out]
  have HL := af (Left.behind HO2.out (Left.turn H2.out (i := k) hk g2 g3 (d := ⟨flS x.S x.L, [], x.g⟩) (show Rv _ _ _ _ _ _ by rw [HQ.out]; simpa [HG.out] using g1) HS.out))
  clear g1 g2 g3
  go_wp2_with fail
  go_ret
  exact ⟨bD (by rw [HEE.out, HE.out]), HL.out⟩
end
section
variable {w w' : World} {p : Nat} {v : Value} {Fs : Nat → Nat → Prop} {ps : List Nat} {M : BenS}
theorem faRb0 {b : Nat} : (Instr.fieldAt 75 (.pointer (some ⟨b, 0, none⟩)) 0).run Tryz.prog w = .ok (.pointer (some ⟨b, 0, none⟩)) w := by kernel_rfl
theorem ldRs {a : Addr} {A : Option Addr} {n c : Nat} (h : w.cell? a = some (.slice A n c)) : (Instr.loadAt 73 (.pointer (some a))).run Tryz.prog w = .ok (.slice A n c) w := by simp [go_sem, h]
theorem ldRp {a : Addr} {A : Option Addr} (h : w.cell? a = some (.pointer A)) : (Instr.loadAt 72 (.pointer (some a))).run Tryz.prog w = .ok (.pointer A) w := by simp [go_sem, h]
theorem exec_ixR {k : BKind} {ρ : Operand → Value} {o : Oper} {x y : Operand} {w : World} {b n c j : Nat} (ho : o.op = .indexAddr k.E.s x y) (hx : ρ x = .slice (some ⟨b, 0, none⟩) n c) (hy : ρ y = .int .i64 (j : Int)) (hj : j < n) : (execOp ρ o).run Tryz.prog w = .ok (.value (.pointer (some ⟨b, j, none⟩))) w := by
 have h := bQ (E := k.E) (w := w) ho hx hy hj
 rwa [show 0 + j * k.E.n = j from by show 0 + j * 1 = j; omega] at h
set_option maxHeartbeats 1000000 in
theorem c_write_no (d n : Int) (x : Blk) (h : BenAt cU w p v Fs ps M) (hr : bT M d n ≠ 0) :
  Calls Tryz.prog 7 #[.pointer (some ⟨p, 0, none⟩), .int .i64 d, .int .i64 n, blk x] w fun e w' => e = .returned (.int .i64 (bT M d n)) ∧ Below w.heap.size w w' := by
 have hA := (Below.refl w.heap.size w).alloc (Nat.le_refl _) (.cells (cel x).toArray 29)
 have h1 := h.below hA
 have HO := af (c_asks d h1)
 have HA := af hA
 by_cases h0 : dF M d = 0
 ·rcases dB M d with ⟨e, _⟩ | ⟨e, _⟩ | ⟨e, hdk, k, rfl, hk⟩
  ·omega
  ·omega
  obtain ⟨y, hy⟩ : ∃ y, M.ds.getD k cJ = y := ⟨_, rfl⟩
  have hat := h1.devs.at_ k hk
  rw [hy] at hat
  have hr0 : bT M (k : Int) n = cR y.S y.g n := by unfold bT; rw [if_pos e, M.dev_nat, hy]
  rw [hr0] at hr ⊢
  have HD := af (rv_asks n hat)
  obtain ⟨g, c, rfl, _, _⟩ := h1.slice
  obtain ⟨c0, c1, c2, c3⟩ := h1.rcells
  have ck := h1.cell hk
  rw [e] at HO
  clear e h h1 hA hat hy hdk h0 hr0
  generalize ps.getD k 0 = q at *
  rcases eD (S := y.S) (g := y.g) (n := n) with e | e | ⟨e, _⟩
  rotate_right 1
  ·exact absurd e hr
  all_goals
   rw [e] at HD ⊢
   clear e hr
   go_enter Tryz.func7, Tryz.ntmps7
   go_wp2_with (first | (refine al rfl (bE rfl rfl) ?_) | fail)
   refine HO.out.mono ?_
   rintro e w1 ⟨rfl, rfl⟩
   go_wp2_with fail
   refine HD.out.mono ?_
   rintro e w2 ⟨rfl, rfl⟩
   go_wp2_with fail
   go_ret
   exact ⟨rfl, HA.out⟩
 ·have hr0 : bT M d n = dF M d := by unfold bT; rw [if_neg h0]
  rw [hr0]
  clear h h1 hA hr hr0
  rcases c_lit_no h0 with e | e
  all_goals
   rw [e] at HO ⊢
   clear e h0
   go_enter Tryz.func7, Tryz.ntmps7
   go_wp2_with (first | (refine al rfl (bE rfl rfl) ?_) | fail)
   refine HO.out.mono ?_
   rintro e w1 ⟨rfl, rfl⟩
   go_wp2_with fail
   go_ret
   exact ⟨rfl, HA.out⟩
set_option maxHeartbeats 2000000 in
theorem c_write_do (n : Int) (x : Blk) (h : BenAt cU w p v Fs ps M) {k : Nat} (hdk : M.dark = false) (hk : k < M.ds.length) (he : cR (M.ds.getD k cJ).S (M.ds.getD k cJ).g n = 0) (hs : M.steps < 1000000) (hll : M.left < 9223372036854775808) (hL : (M.ds.getD k cJ).L.length < 1000000) :
  Calls Tryz.prog 7 #[.pointer (some ⟨p, 0, none⟩), .int .i64 k, .int .i64 n, blk x] w fun e w' => e = .returned (.int .i64 M.d6) ∧ Left cU w p v Fs ps M.ds.length (dK M (k : Int) n x) w' := by
 obtain ⟨y, hy⟩ : ∃ y, M.ds.getD k cJ = y := ⟨_, rfl⟩
 obtain ⟨q, hq⟩ : ∃ q, ps.getD k 0 = q := ⟨_, rfl⟩
 have hA := (Below.refl w.heap.size w).alloc (Nat.le_refl _) (.cells (cel x).toArray 29)
 have h1 := h.below hA
 have HO := af (c_asks (k : Int) h1)
 rw [litE_ok hdk hk] at HO
 have hat := h1.devs.at_ k hk
 have hr0 : bT M (k : Int) n = 0 := by unfold bT; rw [if_pos (litE_ok hdk hk), M.dev_nat]; exact he
 rw [hy, hq] at hat
 rw [hy] at he hL
 have HD := af (rv_asks n hat)
 rw [he] at HD
 have HST := af (c_step h1 hs hll)
 obtain ⟨g, c, rfl, _, _⟩ := h1.slice
 obtain ⟨c0, c1, c2, c3⟩ := h1.rcells
 have ck := h1.cell hk
 rw [hq] at ck
 have HA := af hA
 have HE := af he
 have HL := af hL
 have HY := af hy
 have HQ := af hq
 have HR := af hr0
 have HB := af (new1 w (cel x).toArray 29)
 have HPW := af (aK h.at_)
 by_cases h2 : M.left = 1
 ·have HE1 : Hid (M.d6 = 8) := af (by unfold BenS.d6; rw [if_pos h2])
  have HN : Hid (M.step = M.night) := af (by unfold BenS.step; rw [if_pos h2])
  have HW : Hid (dK M (k : Int) n x = M.night) := af (by unfold dK; rw [if_pos hr0, if_pos h2])
  clear h h1 h2 hA hat hr0 hy hq hdk he hs hll hL
  go_enter Tryz.func7, Tryz.ntmps7
  go_wp2_with (first | (refine al rfl (bE rfl rfl) ?_) | fail)
  refine HO.out.mono ?_
  rintro e w1 ⟨rfl, rfl⟩
  go_wp2_with fail
  refine HD.out.mono ?_
  rintro e w2 ⟨rfl, rfl⟩
  go_wp2_with fail
  refine HST.out.mono ?_
  rintro e w3 ⟨rfl, h3, ho3⟩
  rw [HE1.out]
  have HLL := af (Left.above HA.out (Left.obj h3 ho3 (n := M.ds.length) (by rw [HN.out]; rfl)))
  clear h3 ho3
  go_wp2_with fail
  go_ret
  exact ⟨bD HE1.out.symm, by rw [HW.out, ← HN.out]; exact HLL.out⟩
 ·have HE1 : Hid (M.d6 = 0) := af (by unfold BenS.d6; rw [if_neg h2])
  have HN : Hid (M.step = M.done) := af (by unfold BenS.step; rw [if_neg h2])
  have HW : Hid (dK M (k : Int) n x = M.done.put k ⟨y.S, wrL y.S y.L y.g n x, y.g⟩) := af (by unfold dK; rw [if_pos hr0, if_neg h2, show M.dev (k : Int) = y from hy]; rfl)
  clear h h1 h2 hA hat hr0 hy hq hdk he hs hll hL
  go_enter Tryz.func7, Tryz.ntmps7
  go_wp2_with (first | (refine al rfl (bE rfl rfl) ?_) | fail)
  refine HO.out.mono ?_
  rintro e w1 ⟨rfl, rfl⟩
  go_wp2_with fail
  refine HD.out.mono ?_
  rintro e w2 ⟨rfl, rfl⟩
  go_wp2_with fail
  refine HST.out.mono ?_
  rintro e w3 ⟨rfl, h3, ho3⟩
  rw [HE1.out]
  rw [HN.out] at h3
  have hb3 := ho3.keep HB.out (fun e => by have := HPW.out; omega)
  have H3 := af h3
  have HB3 := af hb3
  have HO3 := af (Only.trans (Only.of_below (fun b => b = p) HA.out) ho3 fun b hb => .inl hb)
  clear h3 ho3 hb3 c0 c1 c2 c3 ck
  go_wp2_with fail
  have hdr : BenAt cU w3.drew p (.slice (some ⟨g, 0, none⟩) M.ds.length c) Fs ps M.done := H3.out.below (bd (Below.refl _ _))
  refine wp_region_still_tail 9 (by kernel_rfl) (by kernel_rfl) ?_
  simp only [ae]
  refine aF rfl (aj rfl (ev rfl)) ?_;simp only [aa]
  refine aF rfl (aB rfl (ev rfl)) ?_;simp only [aa]
  refine aF rfl (am rfl (ev rfl) faRb0) ?_;simp only [aa]
  refine aF rfl (au rfl (ev rfl) (ldRs hdr.rcells.1)) ?_;simp only [aa]
  refine aF rfl (aj rfl (ev rfl)) ?_;simp only [aa]
  refine aF rfl (exec_ixR (k := cU) rfl (ev rfl) (ev rfl) hk) ?_;simp only [aa]
  refine aF rfl (au rfl (ev rfl) (ldRp (BenAt.cell (M := M.done) hdr (i := k) hk))) ?_;simp only [aa]
  refine aF rfl (aj rfl (ev rfl)) ?_;simp only [aa]
  refine aF rfl (aS rfl (ev rfl) (blk_range HB3.out)) ?_;simp only [aa]
  refine wpStill_nil ?_
  change wpList _ _ _ _ _ w3.drew
  rw [HQ.out]
  have hat3 := hdr.devs.at_ k hk
  rw [show M.done.ds.getD k cJ = y from HY.out, HQ.out] at hat3
  have HDR := af hdr
  have HD3 := af (rv_write n x HL.out hat3)
  clear hdr hat3
  go_wp2_with fail
  refine HD3.out.mono ?_
  rintro e w4 ⟨rfl, F', g1, g2, g3⟩
  rw [HE.out]
  have HLT := af (Left.behind (HO3.out.drew) (Left.turn HDR.out (i := k) hk g2 g3 (d := ⟨y.S, wrL y.S y.L y.g n x, y.g⟩) (show Rv _ _ _ _ _ _ by rw [HQ.out]; exact g1) HW.out))
  clear g1 g2 g3
  go_wp2_with fail
  go_ret
  exact ⟨bD HE1.out.symm, HLT.out⟩
theorem c_write (d n : Int) (x : Blk) (h : BenAt cU w p v Fs ps M) (hr : ∀ i, i < M.ds.length → (M.ds.getD i cJ).L.length < 1000000) (hs : M.steps < 1000000) (hll : M.left < 9223372036854775808) :
  Calls Tryz.prog 7 #[.pointer (some ⟨p, 0, none⟩), .int .i64 d, .int .i64 n, blk x] w fun e w' => e = .returned (.int .i64 (wrE6 M d n)) ∧ Left cU w p v Fs ps M.ds.length (dK M d n x) w' := by
 by_cases hr0 : bT M d n = 0
 ·have hlit : dF M d = 0 := by
   by_cases h0 : dF M d = 0
   ·exact h0
   ·unfold bT at hr0; rw [if_neg h0] at hr0; exact hr0
  rcases dB M d with ⟨e, _⟩ | ⟨e, _⟩ | ⟨e, hdk, k, rfl, hk⟩
  ·omega
  ·omega
  have he : cR (M.ds.getD k cJ).S (M.ds.getD k cJ).g n = 0 := by unfold bT at hr0; rwa [if_pos e, M.dev_nat] at hr0
  refine (c_write_do n x h hdk hk he hs hll (hr k hk)).mono ?_
  rintro e w' ⟨rfl, hl⟩
  exact ⟨by unfold wrE6; rw [if_pos hr0], hl⟩
 ·refine (c_write_no d n x h hr0).mono ?_
  rintro e w' ⟨rfl, hb⟩
  exact ⟨by unfold wrE6; rw [if_neg hr0], Left.below_ h hb (by unfold dK; rw [if_neg hr0])⟩
end
section
variable {w w' : World}
set_option maxHeartbeats 2000000 in
theorem c_new {A : Option Addr} {n c : Nat} {ks : List Int} (hl : RdE IntE w w.heap.size A n ks) (hnc : n ≤ c) (hc : c ≤ maxLen) :
  Calls Tryz.prog 14 #[.slice A n c] w (eE cU w ks) := by
 have hlen : ks.length = n := hl.1
 unfold maxLen at hc
 by_cases h1 : n < 1
 ·have HN := af (show ¬ newOk ks from fun h => by have := h.1; omega)
  have h0 : n = 0 := by omega
  subst h0
  clear hl hlen h1
  go_enter Tryz.func14, Tryz.ntmps14
  go_wp2
  go_ret2
  exact eE.no (Below.refl _ _) HN.out rfl
 by_cases h2 : 17 < n
 ·have HN := af (show ¬ newOk ks from fun h => by have := h.2.1; omega)
  have h1' : ¬((n : Int) < 1) := by omega
  have h2' : ((n : Int) > 17) := by omega
  clear hl hlen h1 h2
  go_enter Tryz.func14, Tryz.ntmps14
  go_wp2
  go_ret2
  exact eE.no (Below.refl _ _) HN.out rfl
 have h1' : ¬((n : Int) < 1) := by omega
 have h2' : ¬((n : Int) > 17) := by omega
 have h3' : ¬(17 < (n : Int)) := by omega
 have HL := af hl
 have HLEN := af hlen
 have HMK := af (show Making cU w (w.alloc (.cells #[.slice none 0 0, .int .i64 0, .bool false, .int .i64 0] 75)) (.slice none 0 0) (fun _ _ => False) [] [] 0 false 0 from
  ⟨heap_alloc_new w _, aH.nil _ _, ⟨rfl, fun i hi => absurd hi (Nat.not_lt_zero i), fun i j hi => absurd hi (Nat.not_lt_zero i)⟩, fun i hi => absurd hi (Nat.not_lt_zero i), (Below.refl _ w).alloc (Nat.le_refl _) _⟩)
 clear hl hlen
 go_enter Tryz.func14, Tryz.ntmps14
 go_wp2_with fail
 generalize w.alloc (.cells #[.slice none 0 0, .int .i64 0, .bool false, .int .i64 0] 75) = w0 at *
 clear h1' h2' h3'
 go_loopw [5] (fun i wr => ∃ (j : Nat) (v : Value) (Fs : Nat → Nat → Prop) (ps : List Nat), j ≤ n ∧ i = .int .i64 j ∧ Making cU w wr v Fs ps ((ks.take j).map newD) 0 false 0 ∧ ∀ q, q < j → 1 ≤ ks.getD q 0 ∧ ks.getD q 0 ≤ 512) (fun i _ => n - (intOf i).toNat)
 case atStart => exact ⟨0, _, _, _, Nat.zero_le _, rfl, HMK.out, fun q hq => absurd hq (Nat.not_lt_zero q)⟩
 case round =>
  obtain ⟨j, v, Fs, ps, hj, rfl, hmk, hall⟩ := hrel
  have HALL := af hall
  clear hall HMK
  by_cases hlt : j < n
  ·have hlj : (j : Int) < (n : Int) := by omega
   obtain ⟨bA, oA, rfl, hbA, hcA⟩ := (HL.out.below hmk.below).int hlt
   have HM := af hmk
   obtain ⟨AS, cS, rfl, hs1, hs2⟩ := hmk.row.form
   unfold maxLen at hs2
   have hpl : ps.length = j := by have := hmk.devs.len; rw [List.length_map, List.length_take] at this; have := HLEN.out; omega
   have HPL := af hpl
   obtain ⟨z, hz⟩ : ∃ z, ks.getD j 0 = z := ⟨_, rfl⟩
   rw [hz] at hcA
   have HZ := af hz
   clear hmk hz hpl
   by_cases hok : 1 ≤ z ∧ z ≤ 512
   ·obtain ⟨k, rfl⟩ : ∃ k : Nat, z = k := ⟨z.toNat, by omega⟩
    have hk1 : 1 ≤ k := by omega
    have hk2 : k ≤ 512 := by omega
    clear hok
    go_wp2_with fail
    refine (rv_new k wr hk1 hk2).mono ?_
    rintro e w1 ⟨p', F', rfl, hd1, hb1, hF1⟩
    have hat1 := cj HM.out.at_ hb1
    obtain ⟨c0, c1, c2, c3⟩ := r4cells hat1
    have hrow1 := HM.out.row.below hb1
    have hrow2 := hrow1.below ((Below.refl _ w1).alloc (Nat.le_refl _) (.cells (cU.E.cel p').toArray cU.E.t))
    have HR := af hrow2
    have HNEW := af (eF (E := cU.E) (l := [p']) w1 (cU.E.cel p').toArray cU.E.t (by rw [d5]; simp [bC]))
    have HSZ := af (show w.heap.size ≤ (w1.alloc (.cells (cU.E.cel p').toArray cU.E.t)).heap.size by rw [World.size_alloc]; have := HM.out.below.size; have := hb1.size; omega)
    have HD1 := af hd1
    have HB1 := af hb1
    have HF1 := af hF1
    have HAT := af hat1
    have HPS := af (show ps.length + 1 ≤ 34359738368 by have := HPL.out; omega)
    clear hd1 hb1 hF1 hat1 hrow1 hrow2
    have hal : w.heap.size < w1.heap.size := aK HAT.out
    go_wp2_with (first | (refine al rfl (du (E := cU.E) (a := p') rfl rfl rfl (by decide)) ?_) | (at_builtin; refine wpList_appE_own cU.E rfl _ _ rfl w.heap.size _ _ _ _ ps [p'] _ rfl rfl HR.out HNEW.out HSZ.out HPS.out ?_) | fail)
    intro v' w3 hm3 hg3 ho3
    have hxv : v'.ownBlock ≠ some w.heap.size := fun e => by
     rcases ho3 _ e with e' | e'
     ·exact HM.out.row.dc HM.out.at_ cU.ne e'
     ·omega
    have HNX := af (HM.out.next (fun _ _ => rfl) HB1.out HF1.out (d := newD k) HD1.out hm3 hg3 ho3)
    have hvx : (Value.slice AS ps.length cS).ownBlock ≠ some w.heap.size := HM.out.row.dc HM.out.at_ cU.ne
    have hat3 : w3.heap[w.heap.size]? = some _ := (hg3.block w.heap.size (by rw [World.size_alloc]; omega) (fun e => hvx e.symm)).trans (bU HAT.out _)
    obtain ⟨AV, cV, rfl, _, _⟩ := hm3.form
    obtain ⟨d0, d1, d2, d3⟩ := r4cells hat3
    have f0 := frozen_of_row w3 w.heap.size 0 _ _ hat3
    clear hm3 hg3 ho3 hat3 c0 c1 c2 c3
    go_wp2_with fail
    go_roundw
    case rel =>
     refine ⟨j + 1, .slice AV (ps.length + 1) cV, upF Fs (List.map newD (List.take j ks)).length F', ps ++ [p'], by omega, by go_num, ?_, fun q hq => ?_⟩
     ·rw [take_map_succ (by have := HLEN.out; omega), HZ.out]
      have h6 := HNX.out
      rw [show (ps ++ [p']).length = ps.length + 1 from by simp] at h6
      exact h6
     ·by_cases e : q = j
      ·subst e; rw [HZ.out]; omega
      ·exact HALL.out q (by omega)
    case measure => simp [intOf]; omega
   ·have HB := af HM.out.below
    have HN := af (show ¬ newOk ks from fun h => hok (by have := h.2.2 z (by rw [← HZ.out]; exact getD_mem (by have := HLEN.out; omega)); exact this))
    go_wp2_with fail
    refine (r_new_no z wr hok).mono ?_
    rintro e w1 ⟨rfl, rfl⟩
    have HB1 := af HB.out
    clear hok
    go_wp2_with fail
    go_ret2
    exact eE.no HB1.out HN.out rfl
  ·have hjn : j = n := by omega
   subst hjn
   have hlj : ¬((j : Int) < (j : Int)) := by omega
   have HM := af hmk
   clear hmk
   go_wp2_with fail
   go_ret2
   have h5 := HM.out
   have hLL := HLEN.out
   rw [← hLL, List.take_length] at h5
   obtain ⟨g1, g2, g3⟩ := h5.done (by rw [List.length_map]; omega) (by rw [List.length_map]; omega)
   refine ⟨g3, .inl ⟨⟨by omega, by omega, fun k hk => ?_⟩, _, _, _, _, rfl, g1, g2⟩⟩
   obtain ⟨i, hi, rfl⟩ := List.getElem_of_mem hk
   have := HALL.out i (by omega)
   rwa [List.getD_eq_getElem?_getD, List.getElem?_eq_getElem hi] at this
end
def rIds : BIds where
 read := 33
 write := 7
 flush := 90
 fp := 32
def RB (w : World) (F : Nat → Prop) (p : Nat) (M : BenS) : Prop := InB cU w F p M ∧ M.Wf
theorem lens_put {M : BenS} {k : Nat} {d : DevS} (h : M.Wf) (hd : d.S.length = (M.ds.getD k cJ).S.length) : (M.put k d).Wf := by
 refine ⟨by rw [M.put_len]; exact h.one, by rw [M.put_len]; exact h.cap, fun i hi => ?_⟩
 rw [M.put_len] at hi
 show 1 ≤ ((M.ds.set k d).getD i cJ).S.length ∧ ((M.ds.set k d).getD i cJ).S.length ≤ 512
 by_cases e : i = k
 ·subst e; rw [dd hi, hd]; exact h.len i hi
 ·rw [bN e]; exact h.len i hi
theorem wf_done {M : BenS} (h : M.Wf) : M.done.Wf := ⟨h.one, h.cap, h.len⟩
theorem wf_night {M : BenS} (h : M.Wf) : M.night.Wf := ⟨h.one, h.cap, h.len⟩
theorem wf_wr {M : BenS} (h : M.Wf) (d n : Int) (b : Blk) : (dK M d n b).Wf := by
 unfold dK
 split
 ·split
  ·exact wf_night h
  ·exact lens_put (wf_done h) rfl
 ·exact h
theorem wf_fl {M : BenS} (h : M.Wf) (d : Int) : (flS6 M d).Wf := by
 unfold flS6
 split
 ·split
  ·exact wf_night h
  ·exact lens_put (wf_done h) (by rw [fC]; rfl)
 ·exact h
theorem wf_new {ks : List Int} (h : newOk ks) : (newS6 ks).Wf := by
 refine ⟨by rw [newS6_ds, List.length_map]; exact h.1, by rw [newS6_ds, List.length_map]; exact h.2.1, fun i hi => ?_⟩
 rw [newS6_ds, List.length_map] at hi
 have : ((newS6 ks).ds.getD i cJ) = newD (ks.getD i 0) := by
  rw [newS6_ds, List.getD, List.getD, List.getElem?_map, List.getElem?_eq_getElem hi]; rfl
 rw [this]
 have h2 := h.2.2 _ (getD_mem (x := 0) hi)
 show 1 ≤ (List.replicate _ _).length ∧ (List.replicate _ _).length ≤ 512
 rw [List.length_replicate]
 omega
def rBen : Ben rIds where
 Bn := RB
 lt := fun h => h.1.lt
 only := fun h ho hn => ⟨h.1.only ho hn, h.2⟩
 wf := fun h => h.2
 read := fun d n ⟨⟨_, _, _, _, h⟩, _⟩ => c_read d n h
 write := fun d n b hr ⟨⟨_, _, _, e, h⟩, hw⟩ => by
  subst e
  exact (c_write d n b h (fun i hi => hr.at_ hi) (by have := hr.1; omega) hr.2.1).mono fun e w' ⟨h1, h2⟩ => ⟨h1, by obtain ⟨F', g1, g2⟩ := h2.out; exact ⟨F', ⟨g1, wf_wr hw _ _ _⟩, g2⟩⟩
 flush := fun d hr ⟨⟨_, _, _, e, h⟩, hw⟩ => by
  subst e
  exact (c_flush d h (by have := hr.1; omega) hr.2.1).mono fun e w' ⟨h1, h2⟩ => ⟨h1, by obtain ⟨F', g1, g2⟩ := h2.out; exact ⟨F', ⟨g1, wf_fl hw _⟩, g2⟩⟩
 fp := fun d ⟨⟨_, _, _, _, h⟩, _⟩ => (c_sectors d h).mono fun e w' ⟨h1, h2⟩ => ⟨h1, by subst h2; exact Below.refl _ _⟩
structure BenR extends Ben rIds where
 new : ∀ {w A n c ks}, RdE IntE w w.heap.size A n ks → n ≤ c → c ≤ maxLen → Calls Tryz.prog 14 #[.slice A n c] w (NewB Bn w ks)
def bF : BenR where
 toBen := rBen
 new := fun h1 h2 h3 => (c_new h1 h2 h3).mono fun e w' h => by
  obtain ⟨g1, g | g⟩ := h
  ·obtain ⟨g0, p, v, Fs, ps, g2, g3, g4⟩ := g
   exact ⟨g1, .inl ⟨g0, p, _, g2, ⟨⟨v, Fs, ps, rfl, g3⟩, wf_new g0⟩, g4⟩⟩
  ·exact ⟨g1, .inr g⟩
set_option linter.unusedSimpArgs false
theorem rplaces (n : Nat) (w : World) (h : n ≤ 1000) : Calls Tryz.prog 78 #[.int .i64 (n : Int)] w fun e w' => e = .returned (.int .i64 (hd n : Nat)) ∧ w = w' := by
 go_enter Tryz.func78, Tryz.ntmps78
 go_wp2
 go_loop [3] (fun i => ∃ k : Nat, i = .int .i64 k ∧ 16 * k ≤ n + 15) (fun i => n + 16 - (intOf i).toNat)
 case atStart => exact ⟨0, rfl, by omega⟩
 case round =>
  obtain ⟨k, rfl, hk⟩ := hrel
  by_cases hlt : 16 * k < n
  ·go_wp2
   go_round
   case rel => exact ⟨k + 1, by go_num, by omega⟩
   case measure => simp [intOf]; omega
  ·go_wp2
   go_ret
   refine ⟨bD ?_, rfl⟩
   unfold hd
   omega
theorem rsize (n : Int) (w : World) : Calls Tryz.prog 39 #[.int .i64 n] w fun e w' => e = .returned (.int .i64 (dZ n : Nat)) ∧ w = w' := by
 by_cases h1 : n < 1
 ·have HS := af (sizN_no (.inl h1))
  go_enter Tryz.func39, Tryz.ntmps39
  go_wp2
  go_ret
  exact ⟨by rw [HS.out]; rfl, rfl⟩
 ·by_cases h2 : 32 < n
  ·have HS := af (sizN_no (.inr h2))
   go_enter Tryz.func39, Tryz.ntmps39
   go_wp2
   go_ret
   exact ⟨by rw [HS.out]; rfl, rfl⟩
  ·obtain ⟨k, rfl⟩ := Int.eq_ofNat_of_zero_le (show 0 ≤ n by omega)
   have hk1 : 1 ≤ k := by omega
   have hk2 : k ≤ 32 := by omega
   have HS := af (fv hk1 hk2)
   have hh : hd k ≤ 2 := by unfold hd; omega
   clear h1 h2
   go_enter Tryz.func39, Tryz.ntmps39
   go_wp2_with fail
   refine (rplaces k w (by omega)).mono ?_
   rintro e w' ⟨rfl, rfl⟩
   go_wp2
   go_ret
   exact ⟨by rw [HS.out]; simp, rfl⟩
theorem pheads (n : Nat) (w : World) (h : n ≤ 1000) : Calls Tryz.prog 153 #[.int .i64 (n : Int)] w fun e w' => e = .returned (.int .i64 (hd n : Nat)) ∧ w = w' := by
 go_enter Tryz.func153, Tryz.ntmps153
 go_wp2
 go_ret
 refine ⟨bD ?_, rfl⟩
 unfold hd
 omega
theorem psize (n : Int) (w : World) : Calls Tryz.prog 121 #[.int .i64 n] w fun e w' => e = .returned (.int .i64 (dZ n : Nat)) ∧ w = w' := by
 by_cases h1 : n < 1
 ·have HS := af (sizN_no (.inl h1))
  go_enter Tryz.func121, Tryz.ntmps121
  go_wp2
  go_ret
  exact ⟨by rw [HS.out]; rfl, rfl⟩
 ·by_cases h2 : 32 < n
  ·have HS := af (sizN_no (.inr h2))
   go_enter Tryz.func121, Tryz.ntmps121
   go_wp2
   go_ret
   exact ⟨by rw [HS.out]; rfl, rfl⟩
  ·obtain ⟨k, rfl⟩ := Int.eq_ofNat_of_zero_le (show 0 ≤ n by omega)
   have hk1 : 1 ≤ k := by omega
   have hk2 : k ≤ 32 := by omega
   have HS := af (fv hk1 hk2)
   have hh : hd k ≤ 2 := by unfold hd; omega
   clear h1 h2
   go_enter Tryz.func121, Tryz.ntmps121
   go_wp2_with fail
   refine (pheads k w (by omega)).mono ?_
   rintro e w' ⟨rfl, rfl⟩
   go_wp2
   go_ret
   exact ⟨by rw [HS.out]; simp, rfl⟩
end Go.Proofs.YtbbcdhkinbmdnaaGreatDoor
