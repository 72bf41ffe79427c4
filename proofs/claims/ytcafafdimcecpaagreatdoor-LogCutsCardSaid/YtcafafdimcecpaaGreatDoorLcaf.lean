import Derived.Test.YtcafafdimcecpaaGreatDoorLcae
import Derived.Test.YtcafafdimcecpaaGreatDoorLcab
import Derived.Test.YtcafafdimcecpaaGreatDoorLcac
import Derived.Laws.CopyOwn
import Derived.Test.YtcafafdimcecpaaGreatDoorLcaa
import Derived.Laws.BitsAllLaws
import Derived.IntWalk
import Derived.Laws.AppendOwn
import Derived.Laws.AppendOwnNone
import Derived.Test.YtcafafdimcecpaaGreatDoorLcZ
namespace Go.Proofs.YtcafafdimcecpaaGreatDoor
open Go.RowKit
set_option linter.unusedVariables false
set_option maxRecDepth 100000
section
variable {D : Dev} {w w' : World} {p : Nat} {v : Value} {Fs : Nat → Nat → Prop} {ps : List Nat} {M : BenS}
set_option maxHeartbeats 1000000 in
theorem b_insert (d : Int) (h : BenAt (bm D) w p v Fs ps M) :
    Calls Tryz.prog 45 #[.pointer (some ⟨p, 0, none⟩), .int .i64 d] w fun e w' => e = .returned (.int .i64 (inE6 M d)) ∧ Left (bm D) w p v Fs ps M.ds.length (inS6 M d) w' := by
  by_cases h0 : cN M d = 0
  · rcases cG M d with ⟨e, _⟩ | ⟨e, _⟩ | ⟨e, hdk, k, rfl, hk⟩
    · omega
    · omega
    obtain ⟨x, hx⟩ : ∃ x, M.ds.getD k bp = x := ⟨_, rfl⟩
    have hat := h.devs.at_ k hk
    rw [hx] at hat
    have HO := Lib.hid (b_lit_ok h hdk hk)
    have HD := Lib.hid (D.dead hat)
    obtain ⟨q, hq⟩ : ∃ q, ps.getD k 0 = q := ⟨_, rfl⟩
    rw [hq] at HO HD hat
    cases hg : x.g
    · have HE : Hid (inE6 M (k : Int) = 17) := Lib.hid (by unfold inE6; rw [if_pos e, show M.dev (k : Int) = x from hx, hg, if_neg (by decide)])
      have HL : Hid (∀ w', Below w.heap.size w w' → Left (bm D) w p v Fs ps M.ds.length (inS6 M (k : Int)) w') := Lib.hid (fun w' hb => Left.below_ h hb (by unfold inS6; rw [HE.out, if_neg (by decide)]))
      have HG := Lib.hid hg
      clear e h hat hx hdk h0 hg hq
      go_enter Tryz.func45, Tryz.ntmps45
      go_wp2_with fail
      refine HO.out.mono ?_
      rintro e w1 ⟨rfl, rfl⟩
      go_wp2_with fail
      refine HD.out.mono ?_
      rintro e w2 ⟨rfl, hb⟩
      rw [HG.out]
      have HBB := Lib.hid hb
      clear hb
      go_wp2_with fail
      go_ret
      exact ⟨aQ HE.out.symm, HL.out _ HBB.out⟩
    · have HE : Hid (inE6 M (k : Int) = 0) := Lib.hid (by unfold inE6; rw [if_pos e, show M.dev (k : Int) = x from hx, hg, if_pos rfl])
      have HS : Hid (inS6 M (k : Int) = M.put k ⟨List.replicate x.S.length al, [], false⟩) := Lib.hid (by unfold inS6; rw [HE.out, if_pos rfl, show M.dev (k : Int) = x from hx]; rfl)
      have HG := Lib.hid hg
      have hS1 := (D.fit hat).2
      have hS2 := D.cap hat
      obtain ⟨g, c, rfl, hc1, hc2⟩ := h.slice
      have HH := Lib.hid h
      have HAT := Lib.hid hat
      clear e h hat hx hdk h0 hg hq hc1 hc2
      go_enter Tryz.func45, Tryz.ntmps45
      go_wp2_with fail
      refine HO.out.mono ?_
      rintro e w1 ⟨rfl, rfl⟩
      go_wp2_with fail
      refine HD.out.mono ?_
      rintro e w2 ⟨rfl, hb⟩
      rw [HG.out]
      have HBB := Lib.hid hb
      clear hb
      go_wp2_with fail
      refine (D.eD (D.below HAT.out HBB.out)).mono ?_
      rintro e w3 ⟨rfl, hb⟩
      have HB3 := Lib.hid (HBB.out.trans (hb.mono HBB.out.size))
      clear hb
      go_wp2_with fail
      refine (D.new_ok x.S.length w3 hS1 hS2).mono ?_
      rintro e w4 ⟨p', F', rfl, hd4, hb4, hF4⟩
      have hb4' := HB3.out.trans (hb4.mono HB3.out.size)
      have h4 := HH.out.below hb4'
      have hF4' : ∀ b, F' b → w.heap.size ≤ b := fun b hb => Nat.le_trans HB3.out.size (hF4 b hb)
      have HSW := Lib.hid (HH.out.swap hk hb4' hF4' (d := ⟨List.replicate x.S.length al, [], false⟩) hd4)
      have HB4 := Lib.hid hb4'
      have HF4 := Lib.hid hF4'
      obtain ⟨c0, c1, c2, c3⟩ := h4.pcells
      have ck := h4.cell hk
      have fk := h4.frozen k
      have HGL := Lib.hid (HH.out.row.own_lt g rfl)
      clear hd4 hb4 hF4 hb4' h4 hF4'
      go_wp2_with fail
      go_ret
      refine ⟨aQ HE.out.symm, ?_⟩
      rw [HS.out]
      refine ⟨_, _, HSW.out, ((Only.of_below _ HB4.out).setCell (p := ⟨g, k, none⟩) (.inl (.inr (.inl rfl))) _), fun b hb => ?_⟩
      rcases hb with e | e | ⟨j, hj, e | e⟩
      · exact .inl (.inl e)
      · exact .inl (.inr (.inl e))
      · exact .inr (HF4.out b e.2)
      · exact .inl (.inr (.inr ⟨j, by rwa [M.put_len] at hj, e.2⟩))
  · have HA : Hid (inE6 M d = cN M d) := Lib.hid (by unfold inE6; rw [if_neg h0])
    have HL : Hid (∀ w', Below w.heap.size w w' → Left (bm D) w p v Fs ps M.ds.length (inS6 M d) w') := Lib.hid (fun w' hb => Left.below_ h hb (by unfold inS6; rw [HA.out, if_neg h0]))
    have HO := Lib.hid (b_lit_no h h0)
    clear h
    rw [HA.out]
    rcases cG M d with ⟨e, _⟩ | ⟨e, _⟩ | ⟨e, _⟩
    rotate_right 1
    · exact absurd e h0
    all_goals
      rw [e] at HO ⊢
      clear e h0
      go_enter Tryz.func45, Tryz.ntmps45
      go_wp2_with fail
      refine HO.out.mono ?_
      rintro e w1 ⟨rfl, rfl⟩
      go_wp2_with fail
      go_ret
      exact ⟨rfl, HL.out _ (Below.refl _ _)⟩
def wr3 (w : World) (n : Int) (b : Blk) (q : Option Addr) : World := ((w.alloc (.cells #[.int .i64 n] 3)).alloc (.cells (cel b).toArray 65)).alloc (.cells #[.pointer q] 119)
theorem wr3_facts (w : World) (n : Int) (b : Blk) (q : Option Addr) : Below w.heap.size w (wr3 w n b q) ∧ (wr3 w n b q).heap[w.heap.size]? = some (.cells #[.int .i64 n] 3) ∧ (wr3 w n b q).heap[w.heap.size + 1]? = some (.cells (cel b).toArray 65) ∧ (wr3 w n b q).heap[w.heap.size + 1 + 1]? = some (.cells #[.pointer q] 119) ∧ (wr3 w n b q).heap.size = w.heap.size + 1 + 1 + 1 := by
  unfold wr3
  have e1 := World.size_alloc (w := w) (o := .cells #[.int .i64 n] 3)
  have e2 := World.size_alloc (w := w.alloc (.cells #[.int .i64 n] 3)) (o := .cells (cel b).toArray 65)
  have e3 := World.size_alloc (w := (w.alloc (.cells #[.int .i64 n] 3)).alloc (.cells (cel b).toArray 65)) (o := .cells #[.pointer q] 119)
  have n1 := new1 w #[.int .i64 n] 3
  have n2 := new1 (w.alloc (.cells #[.int .i64 n] 3)) (cel b).toArray 65
  have n3 := new1 ((w.alloc (.cells #[.int .i64 n] 3)).alloc (.cells (cel b).toArray 65)) #[.pointer q] 119
  rw [e2, e1] at n3
  rw [e1] at n2
  refine ⟨(((Below.refl _ w).alloc (Nat.le_refl _) _).alloc (by omega) _).alloc (by omega) _, bM (bM n1 _) _, bM n2 _, n3, by omega⟩
theorem b_clo {q a b c : Nat} {n : Int} {x : Blk} {F : Nat → Prop} {S : List Blk} {L : List (Int × Blk)} {g : Bool} (h : D.Dv w F q S L g) (hL : L.length < 1000000) (hq : w.heap[a]? = some (.cells #[.pointer (some ⟨q, 0, none⟩)] 119)) (hn : w.heap[b]? = some (.cells #[.int .i64 n] 3)) (hx : w.heap[c]? = some (.cells (cel x).toArray 65)) :
    Calls Tryz.prog 81 #[.pointer (some ⟨a, 0, none⟩), .pointer (some ⟨b, 0, none⟩), .pointer (some ⟨c, 0, none⟩)] w fun e w' => e = .returned (.int .i64 (ce S g n)) ∧ ∃ F', D.Dv w' F' q S (wrL S L g n x) g ∧ Only F w w' ∧ Grow w F F' := by
  obtain ⟨c1, f1⟩ := one_cell hq
  obtain ⟨c2, f2⟩ := one_cell hn
  have HR := Lib.hid (blk_range hx)
  have HD := Lib.hid (D.write n x hL h)
  clear h hq hn hx
  go_enter Tryz.func81, Tryz.ntmps81
  go_wp2_with (first | (refine ai rfl (aJ rfl rfl HR.out) ?_) | fail)
  refine HD.out.mono ?_
  rintro e w4 ⟨rfl, F', g1, g2, g3⟩
  go_wp2_with fail
  go_ret
  exact ⟨rfl, F', g1, g2, g3⟩
set_option maxHeartbeats 1000000 in
theorem b_write_lit (d n : Int) (x : Blk) (h : BenAt (bm D) w p v Fs ps M) (h0 : cN M d ≠ 0) :
    Calls Tryz.prog 27 #[.pointer (some ⟨p, 0, none⟩), .int .i64 d, .int .i64 n, blk x] w fun e w' => e = .returned (.int .i64 (cN M d)) ∧ Below w.heap.size w w' := by
  have hA : Below w.heap.size w ((w.alloc (.cells #[.int .i64 n] 3)).alloc (.cells (cel x).toArray 65)) := ((Below.refl _ w).alloc (Nat.le_refl _) _).alloc (by rw [World.size_alloc]; omega) _
  have HO := Lib.hid (b_lit_no (h.below hA) h0)
  have HF := Lib.hid (wr3_facts w n x none).1
  clear h hA
  rcases cG M d with ⟨e, _⟩ | ⟨e, _⟩ | ⟨e, _⟩
  rotate_right 1
  · exact absurd e h0
  all_goals
    rw [e] at HO ⊢
    clear e h0
    go_enter Tryz.func27, Tryz.ntmps27
    go_wp2_with (first | (refine ai rfl (bD rfl rfl) ?_) | fail)
    refine HO.out.mono ?_
    rintro e w1 ⟨rfl, rfl⟩
    go_wp2_with fail
    go_ret
    exact ⟨rfl, HF.out⟩
end
section
variable {D : Dev} {w w' : World} {p : Nat} {v : Value} {Fs : Nat → Nat → Prop} {ps : List Nat} {M : BenS}
set_option maxHeartbeats 2000000 in
theorem b_write_ask (n : Int) (x : Blk) (h : BenAt (bm D) w p v Fs ps M) {k : Nat} (hdk : M.bY = false) (hk : k < M.ds.length) (he : ce (M.ds.getD k bp).S (M.ds.getD k bp).g n ≠ 0) :
    Calls Tryz.prog 27 #[.pointer (some ⟨p, 0, none⟩), .int .i64 k, .int .i64 n, blk x] w fun e w' => e = .returned (.int .i64 (ce (M.ds.getD k bp).S (M.ds.getD k bp).g n)) ∧ Below w.heap.size w w' := by
  obtain ⟨y, hy⟩ : ∃ y, M.ds.getD k bp = y := ⟨_, rfl⟩
  obtain ⟨q, hq⟩ : ∃ q, ps.getD k 0 = q := ⟨_, rfl⟩
  have hA : Below w.heap.size w ((w.alloc (.cells #[.int .i64 n] 3)).alloc (.cells (cel x).toArray 65)) := ((Below.refl _ w).alloc (Nat.le_refl _) _).alloc (by rw [World.size_alloc]; omega) _
  have HO := Lib.hid (b_lit_ok (h.below hA) hdk hk)
  obtain ⟨hB, k0, k1, k2, hsz⟩ := wr3_facts w n x (some ⟨q, 0, none⟩)
  have hat := (h.below hB).devs.at_ k hk
  rw [hy, hq] at hat
  rw [hy] at he ⊢
  rw [hq] at HO
  have HD := Lib.hid (D.sure n hat)
  have HB := Lib.hid hB
  obtain ⟨c0, f0⟩ := one_cell k0
  obtain ⟨c2, f2⟩ := one_cell k2
  rcases dU (S := y.S) (g := y.g) (n := n) with e | e | ⟨e, _⟩
  rotate_right 1
  · exact absurd e he
  all_goals
    rw [e] at HD ⊢
    clear e he h hA hB k0 k1 k2 hat hy hq hdk
    go_enter Tryz.func27, Tryz.ntmps27
    unfold wr3 at *
    go_wp2_with (first | (refine ai rfl (bD rfl rfl) ?_) | fail)
    refine HO.out.mono ?_
    rintro e w1 ⟨rfl, rfl⟩
    go_wp2_with fail
    refine HD.out.mono ?_
    rintro e w2 ⟨rfl, hb⟩
    have HBB := Lib.hid (HB.out.trans (hb.mono (by rw [hsz]; omega)))
    clear hb
    go_wp2_with (first | (refine ai rfl (aK rfl) ?_) | (refine aF rfl (exec_fill rfl rfl rfl) ?_) | fail)
    go_ret
    exact ⟨rfl, HBB.out.alloc HBB.out.size _⟩
set_option maxHeartbeats 2000000 in
theorem b_write_do (n : Int) (x : Blk) (h : BenAt (bm D) w p v Fs ps M) {k : Nat} (hdk : M.bY = false) (hk : k < M.ds.length) (he : ce (M.ds.getD k bp).S (M.ds.getD k bp).g n = 0) (hs : M.steps < 1000000) (hll : M.left < 9223372036854775808) (hL : (M.ds.getD k bp).L.length < 1000000) :
    Calls Tryz.prog 27 #[.pointer (some ⟨p, 0, none⟩), .int .i64 k, .int .i64 n, blk x] w fun e w' => e = .returned (.int .i64 M.dB) ∧ Left (bm D) w p v Fs ps M.ds.length (wrS6 M (k : Int) n x) w' := by
  obtain ⟨y, hy⟩ : ∃ y, M.ds.getD k bp = y := ⟨_, rfl⟩
  obtain ⟨q, hq⟩ : ∃ q, ps.getD k 0 = q := ⟨_, rfl⟩
  have hA : Below w.heap.size w ((w.alloc (.cells #[.int .i64 n] 3)).alloc (.cells (cel x).toArray 65)) := ((Below.refl _ w).alloc (Nat.le_refl _) _).alloc (by rw [World.size_alloc]; omega) _
  have HO := Lib.hid (b_lit_ok (h.below hA) hdk hk)
  obtain ⟨hB, k0, k1, k2, hsz⟩ := wr3_facts w n x (some ⟨q, 0, none⟩)
  have hat := (h.below hB).devs.at_ k hk
  have hr0 : bX M (k : Int) n = 0 := by unfold bX; rw [if_pos (litE_ok hdk hk), M.dev_nat]; exact he
  rw [hy, hq] at hat
  rw [hy] at he hL
  rw [hq] at HO
  have HD := Lib.hid (D.sure n hat)
  have HB := Lib.hid hB
  have HH := Lib.hid h
  have HK0 := Lib.hid k0
  have HK1 := Lib.hid k1
  have HK2 := Lib.hid k2
  have HE := Lib.hid he
  have HSS := Lib.hid hs
  have HLL := Lib.hid hll
  have HL := Lib.hid hL
  have HY := Lib.hid hy
  have HQ := Lib.hid hq
  have HR := Lib.hid hr0
  obtain ⟨c0, f0⟩ := one_cell k0
  obtain ⟨c2, f2⟩ := one_cell k2
  rw [he] at HD
  by_cases h1 : M.left = 1
  all_goals
    have H1 := Lib.hid h1
    clear h1 he h hA hB k0 k1 k2 hat hy hq hdk hs hll hL hr0
    go_enter Tryz.func27, Tryz.ntmps27
    unfold wr3 at *
    go_wp2_with (first | (refine ai rfl (bD rfl rfl) ?_) | fail)
    refine HO.out.mono ?_
    rintro e w1 ⟨rfl, rfl⟩
    go_wp2_with fail
    refine HD.out.mono ?_
    rintro e w2 ⟨rfl, hb⟩
    have hb2 := HB.out.trans (hb.mono (by rw [hsz]; omega))
    have HBB := Lib.hid (hb2.alloc hb2.size (.cells (cel (sureB y.S y.g n)).toArray 65))
    have HA0 := Lib.hid (bM (bK HK0.out hb) (.cells (cel (sureB y.S y.g n)).toArray 65))
    have HA1 := Lib.hid (bM (bK HK1.out hb) (.cells (cel (sureB y.S y.g n)).toArray 65))
    have HA2 := Lib.hid (bM (bK HK2.out hb) (.cells (cel (sureB y.S y.g n)).toArray 65))
    clear hb hb2 c0 c2 f0 f2 hsz
    generalize sureB y.S y.g n = z at *
    go_wp2_with (first | (refine ai rfl (aK rfl) ?_) | (refine aF rfl (exec_fill rfl rfl rfl) ?_) | fail)
    generalize w2.alloc (.cells (cel z).toArray 65) = w3 at *
  · refine (b_step_cut _ (HH.out.below HBB.out) H1.out).mono ?_
    rintro e w4 ⟨rfl, h4, ho4⟩
    go_wp2_with fail
    go_ret
    refine ⟨aQ (by unfold BenS.dB; rw [if_pos H1.out]), ?_⟩
    rw [show wrS6 M (k : Int) n x = M.night from by unfold wrS6; rw [if_pos HR.out, if_pos H1.out]]
    exact Left.above HBB.out (Left.obj h4 ho4 rfl)
  · refine (b_step_do 81 #[] _ (HH.out.below HBB.out) H1.out HSS.out HLL.out Tryz.call81 (fun z w4 => z = 0 ∧ Left (bm D) w3 p v Fs ps M.ds.length (wrS6 M (k : Int) n x) w4) ?_).mono ?_
    · intro w4 h4 ho4
      have hat4 := h4.devs.at_ k hk
      rw [show M.done.ds.getD k bp = y from HY.out, HQ.out] at hat4
      have hne : ∀ j, j < 3 → w.heap.size + j ≠ p := fun j _ e => by have := aV HH.out.at_; omega
      refine (b_clo hat4 HL.out (ho4.keep HA2.out (hne 2 (by omega))) (ho4.keep HA0.out (hne 0 (by omega))) (ho4.keep HA1.out (hne 1 (by omega)))).mono ?_
      rintro e w5 ⟨he5, F', g1, g2, g3⟩
      refine ⟨_, he5, HE.out, Left.behind ho4 (Left.turn h4 hk g2 g3 (d := ⟨y.S, wrL y.S y.L y.g n x, y.g⟩) (show D.Dv _ _ _ _ _ _ by rw [HQ.out]; exact g1) ?_)⟩
      unfold wrS6
      rw [if_pos HR.out, if_neg H1.out, show M.dev (k : Int) = y from HY.out]
      rfl
    · rintro e w5 ⟨z, rfl, rfl, hl5⟩
      have HL5 := Lib.hid (Left.above HBB.out hl5)
      clear hl5
      go_wp2_with fail
      go_ret
      exact ⟨aQ (by unfold BenS.dB; rw [if_neg H1.out]), HL5.out⟩
theorem b_write (d n : Int) (x : Blk) (h : BenAt (bm D) w p v Fs ps M) (hr : ∀ i, i < M.ds.length → (M.ds.getD i bp).L.length < 1000000) (hs : M.steps < 1000000) (hll : M.left < 9223372036854775808) :
    Calls Tryz.prog 27 #[.pointer (some ⟨p, 0, none⟩), .int .i64 d, .int .i64 n, blk x] w fun e w' => e = .returned (.int .i64 (wrE6 M d n)) ∧ Left (bm D) w p v Fs ps M.ds.length (wrS6 M d n x) w' := by
  by_cases h0 : cN M d = 0
  · rcases cG M d with ⟨e, _⟩ | ⟨e, _⟩ | ⟨e, hdk, k, rfl, hk⟩
    · omega
    · omega
    have hr0 : bX M (k : Int) n = ce (M.ds.getD k bp).S (M.ds.getD k bp).g n := by unfold bX; rw [if_pos e, M.dev_nat]
    by_cases he : ce (M.ds.getD k bp).S (M.ds.getD k bp).g n = 0
    · refine (b_write_do n x h hdk hk he hs hll (hr k hk)).mono ?_
      rintro e w' ⟨rfl, hl⟩
      exact ⟨by unfold wrE6; rw [hr0, if_pos he], hl⟩
    · refine (b_write_ask n x h hdk hk he).mono ?_
      rintro e w' ⟨rfl, hb⟩
      exact ⟨by unfold wrE6; rw [hr0, if_neg he], Left.below_ h hb (by unfold wrS6; rw [hr0, if_neg he])⟩
  · refine (b_write_lit d n x h h0).mono ?_
    rintro e w' ⟨rfl, hb⟩
    have hr0 : bX M d n = cN M d := by unfold bX; rw [if_neg h0]
    exact ⟨by unfold wrE6; rw [hr0, if_neg h0], Left.below_ h hb (by unfold wrS6; rw [hr0, if_neg h0])⟩
end
section
variable {ρ : Operand → Value} {o : Oper} {x y : Operand} {w : World} {A : Option Addr} {n c k B : Nat} {l : List Int} {F : Nat → Prop}
def tailI (A : Option Addr) (c k : Nat) : Option Addr := if c = k then A else A.map (fun x => x.add k)
theorem exec_tailI (ho : o.op = .slice 36 x (some y) none none) (hx : ρ x = .slice A n c) (hy : ρ y = .int .i64 (k : Int)) (hk : k ≤ n) : (execOp ρ o).run Tryz.prog w = .ok (.value (.slice (tailI A c k) (n - k) (c - k))) w := by
  unfold execOp tailI
  simp [ho, hx, hy, Instr.sliceAt, Instr.slice, Instr.sliceBounds, Instr.sliceBound, asIntOf, run_underlying Tryz.underlying36]
  intro hh
  omega
theorem RdE.tailI (h : RdE dq w B A n l) (hk : k ≤ n) (hc : n ≤ c) : RdE dq w B (Go.Proofs.YtcafafdimcecpaaGreatDoor.tailI A c k) (n - k) (l.drop k) :=
  ⟨by rw [List.length_drop, h.1], fun j hj => by
    obtain ⟨b, off, e, hb, hr⟩ := h.2 (k + j) (by omega)
    refine ⟨b, off + k, ?_, hb, ?_⟩
    · unfold Go.Proofs.YtcafafdimcecpaaGreatDoor.tailI
      rw [if_neg (by omega), e]
      simp [Addr.add_mid]
    · rw [List.getD, List.getElem?_drop, show off + k + j * dq.n = off + (k + j) * dq.n from by show off + k + j * 1 = off + (k + j) * 1; omega]
      exact hr⟩
structure Pk (w : World) (F : Nat → Prop) (A : Option Addr) (n c : Nat) (P : List Int) : Prop where
  rd : RdE dq w w.heap.size A n P
  le : n ≤ c
  cap : c ≤ maxLen
  out : ∀ x, A = some x → 0 < n → ¬ F x.block
theorem Pk.tail (h : Pk w F A n c l) (hk : k ≤ n) : Pk w F (Go.Proofs.YtcafafdimcecpaaGreatDoor.tailI A c k) (n - k) (c - k) (l.drop k) :=
  ⟨h.rd.tailI hk h.le, by have := h.le; omega, by have := h.cap; omega, fun x hx h0 => by
    have h1 := h.le
    unfold Go.Proofs.YtcafafdimcecpaaGreatDoor.tailI at hx
    rw [if_neg (by omega)] at hx
    cases A with
    | none => cases hx
    | some a =>
      have hb : x.block = a.block := by
        simp at hx
        rw [← hx]
        unfold Addr.add
        split <;> rfl
      rw [hb]
      exact h.out a rfl (by omega)⟩
theorem Pk.only {w' : World} (h : Pk w F A n c l) (k : Only F w w') : RdE dq w' w'.heap.size A n l := (h.rd.only k (Nat.le_refl _) h.out).more k.size
theorem Pk.len (h : Pk w F A n c l) : l.length = n := h.rd.1
theorem Pk.grown {w' : World} {G : Nat → Prop} (h : Pk w F A n c l) (hg : ∀ b, G b → F b ∨ w.heap.size ≤ b) : ∀ x, A = some x → 0 < n → ¬ G x.block := fun x hx h0 hf => by
  rcases hg _ hf with e | e
  · exact h.out x hx h0 e
  · obtain ⟨b, off, e1, hb, _⟩ := h.rd.2 0 h0
    rw [hx] at e1
    injection e1 with e1
    subst e1
    exact absurd e (by show ¬ w.heap.size ≤ b; omega)
end
section
variable {D : Dev} {w w' : World} {p : Nat} {v : Value} {Fs : Nat → Nat → Prop} {ps : List Nat} {M : BenS}
set_option maxHeartbeats 2000000 in
theorem b_crash {A : Option Addr} {n c : Nat} {P : List Int} (h : BenAt (bm D) w p v Fs ps M) (hP : Pk w (dL p v Fs M.ds.length) A n c P) :
    Calls Tryz.prog 21 #[.pointer (some ⟨p, 0, none⟩), .slice A n c] w fun e w' => e = .returned (.int .i64 0) ∧ Left (bm D) w p v Fs ps M.ds.length (crS6 M P) w' := by
  have hm := Lib.hid (b_made h)
  obtain ⟨g, cc, rfl, _, hcm⟩ := h.slice
  obtain ⟨c0, c1, c2, c3⟩ := h.pcells
  unfold maxLen at hcm
  have HH := Lib.hid h
  have HP := Lib.hid hP
  have hlen : M.ds.length ≤ 17 := h.cap
  clear h hP
  go_enter Tryz.func21, Tryz.ntmps21
  go_wp2_with fail
  refine hm.out.mono ?_
  rintro e w1 ⟨rfl, rfl⟩
  go_wp2_with fail
  clear c0 c1 c2 c3
  go_loopw [1, 17] (fun pk i wr => ∃ (j : Nat) (A' : Option Addr) (n' c' : Nat) (Fs' : Nat → Nat → Prop), j ≤ M.ds.length ∧ i = .int .i64 j ∧ pk = .slice A' n' c' ∧ Pk w (dL p (.slice (some ⟨g, 0, none⟩) M.ds.length cc) Fs M.ds.length) A' n' c' (cX M.ds P j).2 ∧ eE (bm D) w wr p (.slice (some ⟨g, 0, none⟩) M.ds.length cc) Fs ps M P j Fs') (fun _ i _ => M.ds.length - (intOf i).toNat)
  case atStart => exact ⟨0, A, n, c, Fs, Nat.zero_le _, rfl, rfl, by rw [show (cX M.ds P 0).2 = P from by rw [cX]]; exact HP.out, eE.zero HH.out P⟩
  case round =>
    obtain ⟨j, A', n', c', Fs', hj, rfl, rfl, hpk, hct⟩ := hrel
    by_cases hlt : j < M.ds.length
    · have hlj : (j : Int) < (M.ds.length : Int) := by omega
      have hcell : wr.cell? ⟨g, j, none⟩ = some (.pointer (some ⟨ps.getD j 0, 0, none⟩)) := by
        have h1 := hct.1
        have hl : (cX M.ds P j).1.length = M.ds.length := fj j M.ds P
        have h2 : BenAt (bm D) wr p (.slice (some ⟨g, 0, none⟩) (⟨(cX M.ds P j).1, M.left, M.bY, M.steps⟩ : BenS).ds.length cc) Fs' ps ⟨(cX M.ds P j).1, M.left, M.bY, M.steps⟩ := by
          rw [show (⟨(cX M.ds P j).1, M.left, M.bY, M.steps⟩ : BenS).ds.length = M.ds.length from hl]; exact h1
        exact h2.cell (by show j < (cX M.ds P j).1.length; rw [hl]; exact hlt)
      obtain ⟨x, hx⟩ : ∃ x, M.ds.getD j bp = x := ⟨_, rfl⟩
      obtain ⟨Q, hQ⟩ : ∃ Q, (cX M.ds P j).2 = Q := ⟨_, rfl⟩
      have hdv := hct.dev hlt
      rw [hx] at hdv
      rw [hQ] at hpk
      have hnx := (crIn_succ j M.ds P hlt).2
      rw [hx, hQ] at hnx
      have hrd := hpk.only hct.2.1
      have HC := Lib.hid (D.crash hrd hpk.le hpk.cap (hpk.grown (w' := w) fun b hb => hct.2.2 b (.inr (.inr ⟨j, hlt, hb⟩))) hdv)
      have HCT := Lib.hid hct
      have HPK := Lib.hid hpk
      have HX := Lib.hid hx
      have HQ := Lib.hid hQ
      have HNX := Lib.hid hnx
      have hql : (min x.L.length n' : Nat) ≤ n' := Nat.min_le_right _ _
      have hpl := hpk.len
      have HPL := Lib.hid hpl
      clear hx hQ hdv hrd hct hpk hnx hpl
      generalize hqq : ps.getD j 0 = q at *
      have HQQ := Lib.hid hqq
      clear hqq
      generalize hmm : min x.L.length n' = m at *
      have HMM := Lib.hid hmm
      clear hmm
      go_wp2_with fail
      refine HC.out.mono ?_
      rintro e w2 ⟨rfl, F'', g1, g2, g3⟩
      go_wp2_with (first | (refine ai rfl (exec_tailI rfl rfl rfl hql) ?_) | fail)
      go_roundw
      case rel => exact ⟨j + 1, _, _, _, _, by omega, by go_num, rfl, by rw [HNX.out, HPL.out, HMM.out]; exact HPK.out.tail hql, HCT.out.next hlt g2 g3 (by rw [HQQ.out, HX.out, HQ.out]; exact g1)⟩
      case measure => simp [intOf]; omega
    · have hjn : j = M.ds.length := by omega
      subst hjn
      have hlj : ¬((M.ds.length : Int) < (M.ds.length : Int)) := by omega
      have h1 := hct.1
      rw [crIn_all] at h1
      obtain ⟨c0, c1, c2, c3⟩ := h1.pcells
      have f3 := frozen_of_row wr p 3 _ _ h1.at_
      have f2 := frozen_of_row wr p 2 _ _ h1.at_
      have HH1 := Lib.hid h1
      have HCT := Lib.hid hct
      clear h1 hct hpk
      go_wp2_with fail
      go_ret
      have ho : Only (fun b => b = p) wr ((wr.setCell ⟨p, 3, none⟩ (.bool false)).setCell ⟨p, 2, none⟩ (.int .i64 0)) := (ct wr p 3 (.bool false)).setCell (p := ⟨p, 2, none⟩) (.inl rfl) (.int .i64 0)
      have h3 := heap_setCell_same _ p 2 _ _ (.int .i64 0) (heap_setCell_same wr p 3 _ _ (.bool false) HH1.out.at_)
      refine ⟨rfl, Fs', ps, HH1.out.obj 0 false M.steps ho (by simpa [bm] using h3), HCT.out.2.1.trans ho fun b hb => .inl (.inl hb), ?_⟩
      have hl : (crAll M.ds P).length = M.ds.length := by rw [← crIn_all, fj]
      show Grow w _ (dL p _ Fs' (crAll M.ds P).length)
      rw [hl]
      exact HCT.out.2.2
end
def newD (k : Int) : DevS := ⟨List.replicate k.toNat al, [], false⟩
theorem newS6_ds (ks : List Int) : (newS6 ks).ds = ks.map newD := rfl
structure Making (kd : BKind) (w wr : World) (v : Value) (Fs : Nat → Nat → Prop) (ps : List Nat) (ds : List DevS) (left : Nat) (bY : Bool) (steps : Nat) : Prop where
  at_ : wr.heap[w.heap.size]? = some (.cells (kd.cs v left bY steps) kd.o)
  row : aA kd.E wr w.heap.size v ps
  devs : Devs kd.K wr Fs ps ds
  apart : ∀ i, i < ds.length → ∀ b, Fs i b → w.heap.size < b ∧ v.ownBlock ≠ some b
  below : Below w.heap.size w wr
section
variable {kd : BKind} {w wr w1 w3 : World} {v v' : Value} {Fs : Nat → Nat → Prop} {F' : Nat → Prop} {ps : List Nat} {ds : List DevS} {p' : Nat} {d : DevS} {o2 : Obj} {left steps : Nat} {bY : Bool}
theorem Making.next (hcs : ∀ v v', (kd.cs v left bY steps).setIfInBounds 0 v' = kd.cs v' left bY steps) (h : Making kd w wr v Fs ps ds left bY steps) (hb1 : Below wr.heap.size wr w1) (hF : ∀ b, F' b → wr.heap.size ≤ b) (hd : kd.K.Dv w1 F' p' d.S d.L d.g)
    (hm : aA kd.E w3 w.heap.size v' (ps ++ [p'])) (hg : (w1.alloc o2).grownBy w3 v.ownBlock) (ho : ∀ x, v'.ownBlock = some x → v.ownBlock = some x ∨ w1.heap.size + 1 ≤ x) :
    Making kd w (w3.setCell ⟨w.heap.size, 0, none⟩ v') v' (upF Fs ds.length F') (ps ++ [p']) (ds ++ [d]) left bY steps := by
  have hx := aV h.at_
  have h1 := hb1.size
  have hsz : (w1.alloc o2).heap.size = w1.heap.size + 1 := World.size_alloc _ _
  have hvl : ∀ b, v.ownBlock = some b → b < wr.heap.size := h.row.own_lt
  have o3 : Only (fun b => v.ownBlock = some b) w1 w3 := (Only.of_below _ ((Below.refl _ w1).alloc (Nat.le_refl _) o2)).trans ((Only.refl (fun b => v.ownBlock = some b) _).grown hg fun k e => .inl e) fun b hb => .inl hb
  have hvx : v.ownBlock ≠ some w.heap.size := h.row.cq h.at_ kd.ne
  have hat1 := bK h.at_ hb1
  have hat3 := o3.keep hat1 hvx
  have o4 : Only (fun b => b = w.heap.size ∨ v.ownBlock = some b) w1 (w3.setCell ⟨w.heap.size, 0, none⟩ v') := (o3.widen fun b hb => .inr hb).setCell (p := ⟨w.heap.size, 0, none⟩) (.inl (.inl rfl)) _
  have hv3 : v'.ownBlock ≠ some w.heap.size := hm.cq hat3 kd.ne
  have hdv := h.devs.push hb1 hF hd
  have hap : ∀ i, i < (ds ++ [d]).length → ∀ b, upF Fs ds.length F' i b → w.heap.size < b ∧ v.ownBlock ≠ some b ∧ b < w1.heap.size := fun i hi b hb => by
    have hlt := hdv.lt i hi b hb
    rcases hb with ⟨e, hb⟩ | ⟨e, hb⟩
    · have := hF b hb
      exact ⟨by omega, fun e => by have := hvl b e; omega, hlt⟩
    · rw [List.length_append, List.length_singleton] at hi
      exact ⟨(h.apart i (by omega) b hb).1, (h.apart i (by omega) b hb).2, hlt⟩
  refine ⟨?_, hm.only (ct w3 w.heap.size 0 v') fun b hb e => hv3 (by rw [hb, e]), hdv.only o4 fun i hi b hb e => ?_, fun i hi b hb => ⟨(hap i hi b hb).1, fun e => ?_⟩, ?_⟩
  · have := heap_setCell_same w3 w.heap.size 0 _ _ v' hat3
    rw [hcs] at this
    exact this
  · rcases e with e | e
    · have := (hap i hi b hb).1; omega
    · exact (hap i hi b hb).2.1 e
  · rcases ho b e with e | e
    · exact (hap i hi b hb).2.1 e
    · have := (hap i hi b hb).2.2; omega
  · have hb01 : Below w.heap.size w w1 := h.below.trans (hb1.mono h.below.size)
    refine hb01.trans (o4.below (fun b hb => ?_) hb01.size)
    rcases hb with e | e
    · omega
    · exact h.row.lt_own b e
theorem Making.done (h : Making kd w wr v Fs ps ds left bY steps) (h1 : 1 ≤ ds.length) (h2 : ds.length ≤ 17) : BenAt kd wr w.heap.size v Fs ps ⟨ds, left, bY, steps⟩ ∧ (∀ b, dL w.heap.size v Fs ds.length b → w.heap.size ≤ b) ∧ Below w.heap.size w wr :=
  ⟨⟨h.at_, h.row.base (Nat.zero_le _), h.devs, fun i hi b hb => ⟨by have := (h.apart i hi b hb).1; omega, (h.apart i hi b hb).2⟩, h1, h2⟩, fun b hb => by
    rcases hb with e | e | ⟨i, hi, e⟩
    · omega
    · exact h.row.lt_own b e
    · have := (h.apart i hi b e).1; omega, h.below⟩
end
def d5 (kd : BKind) (w : World) (ks : List Int) (e : Ending) (w' : World) : Prop :=
  Below w.heap.size w w' ∧ ((newOk ks ∧ ∃ p v Fs ps, e = .returned (.tuple #[.pointer (some ⟨p, 0, none⟩), .int .i64 0]) ∧ BenAt kd w' p v Fs ps (newS6 ks) ∧ ∀ b, dL p v Fs (newS6 ks).ds.length b → w.heap.size ≤ b) ∨ (¬ newOk ks ∧ e = .returned (.tuple #[.pointer none, .int .i64 2])))
theorem d5.no {kd : BKind} {w w' : World} {ks : List Int} (hb : Below w.heap.size w w') (hn : ¬ newOk ks) {e : Ending} (he : e = .returned (.tuple #[.pointer none, .int .i64 2])) : d5 kd w ks e w' := ⟨hb, .inr ⟨hn, he⟩⟩
theorem take_map_succ {ks : List Int} {j : Nat} (h : j < ks.length) : (ks.take (j + 1)).map newD = (ks.take j).map newD ++ [newD (ks.getD j 0)] := by
  rw [List.take_add_one, List.getD, List.getElem?_eq_getElem h, List.map_append]; rfl
section
variable {D : Dev} {w w' : World}
set_option maxHeartbeats 2000000 in
theorem b_new {A : Option Addr} {n c : Nat} {ks : List Int} (hl : RdE dq w w.heap.size A n ks) (hnc : n ≤ c) (hc : c ≤ maxLen) :
    Calls Tryz.prog 37 #[.slice A n c] w (d5 (bm D) w ks) := by
  have hlen : ks.length = n := hl.1
  unfold maxLen at hc
  by_cases h1 : n < 1
  · have HN := Lib.hid (show ¬ newOk ks from fun h => by have := h.1; omega)
    have h0 : n = 0 := by omega
    subst h0
    clear hl hlen h1
    go_enter Tryz.func37, Tryz.ntmps37
    go_wp2
    go_ret2
    exact d5.no (Below.refl _ _) HN.out rfl
  by_cases h2 : 17 < n
  · have HN := Lib.hid (show ¬ newOk ks from fun h => by have := h.2.1; omega)
    have h1' : ¬((n : Int) < 1) := by omega
    have h2' : ((n : Int) > 17) := by omega
    clear hl hlen h1 h2
    go_enter Tryz.func37, Tryz.ntmps37
    go_wp2
    go_ret2
    exact d5.no (Below.refl _ _) HN.out rfl
  have h1' : ¬((n : Int) < 1) := by omega
  have h2' : ¬((n : Int) > 17) := by omega
  have h3' : ¬(17 < (n : Int)) := by omega
  have HL := Lib.hid hl
  have HLEN := Lib.hid hlen
  have HMK := Lib.hid (show Making (bm D) w (w.alloc (.cells #[.slice none 0 0, .int .i64 0, .int .i64 0, .bool false] 85)) (.slice none 0 0) (fun _ _ => False) [] [] 0 false 0 from
    ⟨heap_alloc_new w _, aA.nil _ _, ⟨rfl, fun i hi => absurd hi (Nat.not_lt_zero i), fun i j hi => absurd hi (Nat.not_lt_zero i)⟩, fun i hi => absurd hi (Nat.not_lt_zero i), (Below.refl _ w).alloc (Nat.le_refl _) _⟩)
  clear hl hlen
  go_enter Tryz.func37, Tryz.ntmps37
  go_wp2_with fail
  generalize w.alloc (.cells #[.slice none 0 0, .int .i64 0, .int .i64 0, .bool false] 85) = w0 at *
  clear h1' h2' h3'
  go_loopw [21] (fun i wr => ∃ (j : Nat) (v : Value) (Fs : Nat → Nat → Prop) (ps : List Nat), j ≤ n ∧ i = .int .i64 j ∧ Making (bm D) w wr v Fs ps ((ks.take j).map newD) 0 false 0 ∧ ∀ q, q < j → 1 ≤ ks.getD q 0 ∧ ks.getD q 0 ≤ 512) (fun i _ => n - (intOf i).toNat)
  case atStart => exact ⟨0, _, _, _, Nat.zero_le _, rfl, HMK.out, fun q hq => absurd hq (Nat.not_lt_zero q)⟩
  case round =>
    obtain ⟨j, v, Fs, ps, hj, rfl, hmk, hall⟩ := hrel
    have HALL := Lib.hid hall
    clear hall HMK
    by_cases hlt : j < n
    · have hlj : (j : Int) < (n : Int) := by omega
      obtain ⟨bA, oA, rfl, hbA, hcA⟩ := (HL.out.below hmk.below).int hlt
      have HM := Lib.hid hmk
      obtain ⟨AS, cS, rfl, hs1, hs2⟩ := hmk.row.form
      unfold maxLen at hs2
      have hpl : ps.length = j := by have := hmk.devs.len; rw [List.length_map, List.length_take] at this; have := HLEN.out; omega
      have HPL := Lib.hid hpl
      obtain ⟨z, hz⟩ : ∃ z, ks.getD j 0 = z := ⟨_, rfl⟩
      rw [hz] at hcA
      have HZ := Lib.hid hz
      clear hmk hz hpl
      by_cases hok : 1 ≤ z ∧ z ≤ 512
      · obtain ⟨k, rfl⟩ : ∃ k : Nat, z = k := ⟨z.toNat, by omega⟩
        have hk1 : 1 ≤ k := by omega
        have hk2 : k ≤ 512 := by omega
        clear hok
        go_wp2_with fail
        refine (D.new_ok k wr hk1 hk2).mono ?_
        rintro e w1 ⟨p', F', rfl, hd1, hb1, hF1⟩
        have hat1 := bK HM.out.at_ hb1
        obtain ⟨c0, c1, c2, c3⟩ := cK hat1
        have hrow1 := HM.out.row.below hb1
        have hrow2 := hrow1.below ((Below.refl _ w1).alloc (Nat.le_refl _) (.cells ((bm D).E.cel p').toArray (bm D).E.t))
        have HR := Lib.hid hrow2
        have HNEW := Lib.hid (dZ (E := (bm D).E) (l := [p']) w1 ((bm D).E.cel p').toArray (bm D).E.t (by rw [dA]; simp [bj]))
        have HSZ := Lib.hid (show w.heap.size ≤ (w1.alloc (.cells ((bm D).E.cel p').toArray (bm D).E.t)).heap.size by rw [World.size_alloc]; have := HM.out.below.size; have := hb1.size; omega)
        have HD1 := Lib.hid hd1
        have HB1 := Lib.hid hb1
        have HF1 := Lib.hid hF1
        have HAT := Lib.hid hat1
        have HPS := Lib.hid (show ps.length + 1 ≤ 34359738368 by have := HPL.out; omega)
        clear hd1 hb1 hF1 hat1 hrow1 hrow2
        have hal : w.heap.size < w1.heap.size := aV HAT.out
        go_wp2_with (first | (refine ai rfl (dc (E := (bm D).E) (a := p') rfl rfl rfl (by decide)) ?_) | (at_builtin; refine wpList_appE_own (bm D).E rfl _ _ rfl w.heap.size _ _ _ _ ps [p'] _ rfl rfl HR.out HNEW.out HSZ.out HPS.out ?_) | fail)
        intro v' w3 hm3 hg3 ho3
        have hxv : v'.ownBlock ≠ some w.heap.size := fun e => by
          rcases ho3 _ e with e' | e'
          · exact HM.out.row.cq HM.out.at_ (bm D).ne e'
          · omega
        have HNX := Lib.hid (HM.out.next (fun _ _ => rfl) HB1.out HF1.out (d := newD k) HD1.out hm3 hg3 ho3)
        have hvx : (Value.slice AS ps.length cS).ownBlock ≠ some w.heap.size := HM.out.row.cq HM.out.at_ (bm D).ne
        have hat3 : w3.heap[w.heap.size]? = some _ := (hg3.block w.heap.size (by rw [World.size_alloc]; omega) (fun e => hvx e.symm)).trans (bM HAT.out _)
        obtain ⟨AV, cV, rfl, _, _⟩ := hm3.form
        obtain ⟨d0, d1, d2, d3⟩ := cK hat3
        have f0 := frozen_of_row w3 w.heap.size 0 _ _ hat3
        clear hm3 hg3 ho3 hat3 c0 c1 c2 c3
        go_wp2_with fail
        go_roundw
        case rel =>
          refine ⟨j + 1, .slice AV (ps.length + 1) cV, upF Fs (List.map newD (List.take j ks)).length F', ps ++ [p'], by omega, by go_num, ?_, fun q hq => ?_⟩
          · rw [take_map_succ (by have := HLEN.out; omega), HZ.out]
            have h6 := HNX.out
            rw [show (ps ++ [p']).length = ps.length + 1 from by simp] at h6
            exact h6
          · by_cases e : q = j
            · subst e; rw [HZ.out]; omega
            · exact HALL.out q (by omega)
        case measure => simp [intOf]; omega
      · have HB := Lib.hid HM.out.below
        have HN := Lib.hid (show ¬ newOk ks from fun h => hok (by have := h.2.2 z (by rw [← HZ.out]; exact getD_mem (by have := HLEN.out; omega)); exact this))
        go_wp2_with fail
        refine (D.new_no z wr hok).mono ?_
        rintro e w1 ⟨rfl, hb1⟩
        have HB1 := Lib.hid (HB.out.trans (hb1.mono HB.out.size))
        clear hb1 hok
        go_wp2_with fail
        go_ret2
        exact d5.no HB1.out HN.out rfl
    · have hjn : j = n := by omega
      subst hjn
      have hlj : ¬((j : Int) < (j : Int)) := by omega
      have HM := Lib.hid hmk
      clear hmk
      go_wp2_with fail
      go_ret2
      have h5 := HM.out
      have hLL := HLEN.out
      rw [← hLL, List.take_length] at h5
      obtain ⟨g1, g2, g3⟩ := h5.done (by rw [List.length_map]; omega) (by rw [List.length_map]; omega)
      refine ⟨g3, .inl ⟨⟨by omega, by omega, fun k hk => ?_⟩, _, _, _, _, rfl, g1, g2⟩⟩
      obtain ⟨i, hi, rfl⟩ := List.getElem_of_mem hk
      have := HALL.out i (by omega)
      rwa [List.getD_eq_getElem?_getD, List.getElem?_eq_getElem hi] at this
end
structure BIds where
  read : FuncId
  write : FuncId
  flush : FuncId
  fail : FuncId
  insert : FuncId
  arm : FuncId
  crash : FuncId
  sure : FuncId
  rot : FuncId
  eD : FuncId
  bY : FuncId
  steps : FuncId
structure BenS.Wf (M : BenS) : Prop where
  one : 1 ≤ M.ds.length
  cap : M.ds.length ≤ 17
  len : ∀ i, i < M.ds.length → 1 ≤ (M.ds.getD i bp).S.length ∧ (M.ds.getD i bp).S.length ≤ 512
structure Ben (I : BIds) where
  Bn : World → (Nat → Prop) → Nat → BenS → Prop
  lt : ∀ {w F p M}, Bn w F p M → ∀ b, F b → b < w.heap.size
  only : ∀ {w w' F G p M}, Bn w F p M → Only G w w' → (∀ b, F b → ¬ G b) → Bn w' F p M
  wf : ∀ {w F p M}, Bn w F p M → M.Wf
  read : ∀ {w F p M} (d n : Int), Bn w F p M → Calls Tryz.prog I.read #[.pointer (some ⟨p, 0, none⟩), .int .i64 d, .int .i64 n] w fun e w' => e = .returned (.tuple #[blk (cC M d n), .int .i64 (bX M d n)]) ∧ Below w.heap.size w w'
  sure : ∀ {w F p M} (d n : Int), Bn w F p M → Calls Tryz.prog I.sure #[.pointer (some ⟨p, 0, none⟩), .int .i64 d, .int .i64 n] w fun e w' => e = .returned (.tuple #[blk (suB6 M d n), .int .i64 (suE6 M d n)]) ∧ Below w.heap.size w w'
  write : ∀ {w F p M} (d n : Int) (b : Blk), Room M 1 → Bn w F p M → Calls Tryz.prog I.write #[.pointer (some ⟨p, 0, none⟩), .int .i64 d, .int .i64 n, blk b] w fun e w' => e = .returned (.int .i64 (wrE6 M d n)) ∧ ∃ F', Bn w' F' p (wrS6 M d n b) ∧ Only F w w' ∧ Grow w F F'
  flush : ∀ {w F p M} (d : Int), Room M 1 → Bn w F p M → Calls Tryz.prog I.flush #[.pointer (some ⟨p, 0, none⟩), .int .i64 d] w fun e w' => e = .returned (.int .i64 (flE6 M d)) ∧ ∃ F', Bn w' F' p (flS6 M d) ∧ Only F w w' ∧ Grow w F F'
  fail : ∀ {w F p M} (d : Int), Bn w F p M → Calls Tryz.prog I.fail #[.pointer (some ⟨p, 0, none⟩), .int .i64 d] w fun e w' => e = .returned (.int .i64 (dx M d)) ∧ ∃ F', Bn w' F' p (faS6 M d) ∧ Only F w w' ∧ Grow w F F'
  insert : ∀ {w F p M} (d : Int), Bn w F p M → Calls Tryz.prog I.insert #[.pointer (some ⟨p, 0, none⟩), .int .i64 d] w fun e w' => e = .returned (.int .i64 (inE6 M d)) ∧ ∃ F', Bn w' F' p (inS6 M d) ∧ Only F w w' ∧ Grow w F F'
  arm : ∀ {w F p M} (n : Int), Bn w F p M → Calls Tryz.prog I.arm #[.pointer (some ⟨p, 0, none⟩), .int .i64 n] w fun e w' => e = .returned (.int .i64 (arE6 M n)) ∧ ∃ F', Bn w' F' p (arS6 M n) ∧ Only F w w' ∧ Grow w F F'
  crash : ∀ {w F p M A n c P}, Pk w F A n c P → Bn w F p M → Calls Tryz.prog I.crash #[.pointer (some ⟨p, 0, none⟩), .slice A n c] w fun e w' => e = .returned (.int .i64 0) ∧ ∃ F', Bn w' F' p (crS6 M P) ∧ Only F w w' ∧ Grow w F F'
  rot : ∀ {w F p M} (d n i : Int) (u : UInt8), Bn w F p M → Calls Tryz.prog I.rot #[.pointer (some ⟨p, 0, none⟩), .int .i64 d, .int .i64 n, .int .i64 i, .int .u8 (u.toNat : Int)] w fun e w' => e = .returned (.int .i64 (roE6 M d n i)) ∧ ∃ F', Bn w' F' p (roS6 M d n i u) ∧ Only F w w' ∧ Grow w F F'
  eD : ∀ {w F p M} (d : Int), Bn w F p M → Calls Tryz.prog I.eD #[.pointer (some ⟨p, 0, none⟩), .int .i64 d] w fun e w' => e = .returned (.int .i64 (ca M d)) ∧ Below w.heap.size w w'
  bY : ∀ {w F p M}, Bn w F p M → Calls Tryz.prog I.bY #[.pointer (some ⟨p, 0, none⟩)] w fun e w' => e = .returned (.bool M.bY) ∧ Below w.heap.size w w'
  steps : ∀ {w F p M}, Bn w F p M → Calls Tryz.prog I.steps #[.pointer (some ⟨p, 0, none⟩)] w fun e w' => e = .returned (.int .i64 (M.steps : Int)) ∧ Below w.heap.size w w'
theorem Ben.below {I : BIds} (R : Ben I) {w w' : World} {F : Nat → Prop} {p : Nat} {M : BenS} (h : R.Bn w F p M) (k : Below w.heap.size w w') : R.Bn w' F p M := R.only h (Only.of_below (fun _ => False) k) fun _ _ e => e
section
variable {k : BKind} {w w' : World} {F G : Nat → Prop} {p : Nat} {M M' : BenS}
def NewB (Bn : World → (Nat → Prop) → Nat → BenS → Prop) (w : World) (ks : List Int) (e : Ending) (w' : World) : Prop :=
  Below w.heap.size w w' ∧ ((newOk ks ∧ ∃ p F, e = .returned (.tuple #[.pointer (some ⟨p, 0, none⟩), .int .i64 0]) ∧ Bn w' F p (newS6 ks) ∧ ∀ b, F b → w.heap.size ≤ b) ∨ (¬ newOk ks ∧ e = .returned (.tuple #[.pointer none, .int .i64 2])))
def At {I : BIds} (R : Ben I) (w0 : World) (B : Nat) (w : World) (p : Nat) (M : BenS) : Prop := ∃ F, R.Bn w F p M ∧ (∀ b, F b → B ≤ b) ∧ Below B w0 w ∧ B ≤ w0.heap.size
def InB (k : BKind) (w : World) (F : Nat → Prop) (p : Nat) (M : BenS) : Prop := ∃ v Fs ps, F = dL p v Fs M.ds.length ∧ BenAt k w p v Fs ps M
theorem InB.lt (h : InB k w F p M) : ∀ b, F b → b < w.heap.size := by
  obtain ⟨v, Fs, ps, rfl, h⟩ := h
  exact h.lt
theorem InB.only (h : InB k w F p M) (ho : Only G w w') (hn : ∀ b, F b → ¬ G b) : InB k w' F p M := by
  obtain ⟨v, Fs, ps, rfl, h⟩ := h
  exact ⟨v, Fs, ps, rfl, h.only ho hn⟩
theorem Left.out {v : Value} {Fs : Nat → Nat → Prop} {ps : List Nat} (h : Left k w p v Fs ps M.ds.length M' w') : ∃ F', InB k w' F' p M' ∧ Only (dL p v Fs M.ds.length) w w' ∧ Grow w (dL p v Fs M.ds.length) F' := by
  obtain ⟨Fs', ps', h1, h2, h3⟩ := h
  exact ⟨_, ⟨v, Fs', ps', rfl, h1⟩, h2, h3⟩
end
def pIds : BIds where
  read := 133
  write := 27
  flush := 119
  fail := 43
  insert := 45
  arm := 15
  crash := 21
  sure := 50
  rot := 34
  eD := 132
  bY := 16
  steps := 52
theorem Dev.wf_of {D : Dev} {w : World} {p : Nat} {v : Value} {Fs : Nat → Nat → Prop} {ps : List Nat} {M : BenS} (h : BenAt (bm D) w p v Fs ps M) : M.Wf :=
  ⟨h.one, h.cap, fun i hi => ⟨(D.fit (h.devs.at_ i hi)).2, D.cap (h.devs.at_ i hi)⟩⟩
def pBen (D : Dev) : Ben pIds where
  Bn := InB (bm D)
  lt := InB.lt
  only := InB.only
  wf := fun ⟨_, _, _, _, h⟩ => D.wf_of h
  read := fun d n ⟨_, _, _, _, h⟩ => b_read d n h
  sure := fun d n ⟨_, _, _, _, h⟩ => b_sure d n h
  write := fun d n b hr ⟨_, _, _, e, h⟩ => by
    subst e
    exact (b_write d n b h (fun i hi => hr.at_ hi) (by have := hr.1; omega) hr.2.1).mono fun e w' ⟨h1, h2⟩ => ⟨h1, h2.out⟩
  flush := fun d hr ⟨_, _, _, e, h⟩ => by
    subst e
    exact (b_flush d h (by have := hr.1; omega) hr.2.1).mono fun e w' ⟨h1, h2⟩ => ⟨h1, h2.out⟩
  fail := fun d ⟨_, _, _, e, h⟩ => by
    subst e
    exact (b_fail d h).mono fun e w' ⟨h1, h2⟩ => ⟨h1, h2.out⟩
  insert := fun d ⟨_, _, _, e, h⟩ => by
    subst e
    exact (b_insert d h).mono fun e w' ⟨h1, h2⟩ => ⟨h1, h2.out⟩
  arm := fun {w F p M} n ⟨_, _, _, e, h⟩ => by
    subst e
    exact (b_arm n h).mono fun e w' ⟨h1, h2, h3⟩ => ⟨h1, (Left.obj h2 h3 (by unfold arS6; split <;> rfl)).out⟩
  crash := fun hP ⟨_, _, _, e, h⟩ => by
    subst e
    exact (b_crash h hP).mono fun e w' ⟨h1, h2⟩ => ⟨h1, h2.out⟩
  rot := fun d n i u ⟨_, _, _, e, h⟩ => by
    subst e
    exact (b_rot d n i u h).mono fun e w' ⟨h1, h2⟩ => ⟨h1, h2.out⟩
  eD := fun d ⟨_, _, _, _, h⟩ => b_sectors d h
  bY := fun ⟨_, _, _, _, h⟩ => (b_dark h).mono fun e w' ⟨h1, h2⟩ => ⟨h1, ei h2⟩
  steps := fun ⟨_, _, _, _, h⟩ => (b_steps h).mono fun e w' ⟨h1, h2⟩ => ⟨h1, ei h2⟩
theorem d5.hid {k : BKind} {w w' : World} {ks : List Int} {e : Ending} (h : d5 k w ks e w') : NewB (InB k) w ks e w' := by
  obtain ⟨h1, h | h⟩ := h
  · obtain ⟨h0, p, v, Fs, ps, h2, h3, h4⟩ := h
    exact ⟨h1, .inl ⟨h0, p, _, h2, ⟨v, Fs, ps, rfl, h3⟩, h4⟩⟩
  · exact ⟨h1, .inr h⟩
structure BenP extends Ben pIds where
  new : ∀ {w A n c ks}, RdE dq w w.heap.size A n ks → n ≤ c → c ≤ maxLen → Calls Tryz.prog 37 #[.slice A n c] w (NewB Bn w ks)
def bi : BenP where
  toBen := pBen theDev
  new := fun h1 h2 h3 => (b_new h1 h2 h3).mono fun _ _ h => h.hid
def piece (b : List UInt8) (at_ k : Nat) : List UInt8 := (b.drop at_).take k
theorem bz {b : List UInt8} {p k : Nat} (h : p + k ≤ b.length) : (piece b p k).length = k := by simp [piece]; omega
def ofL (l : List UInt8) : Blk := Vector.ofFn fun i => l.getD i.val 0
theorem ofL_byt (l : List UInt8) {j : Nat} (h : j < 64) : byt (ofL l) j = bt l j := by
  rw [eR _ h]
  simp [ofL, bt]
theorem toList_ofL {l : List UInt8} (h : l.length = 64) : (ofL l).toList = l := e9 (by simp [h]) fun k hk => ofL_byt l (by simpa using hk)
theorem cx (b : Blk) : b.toList.length = 64 := by simp
theorem ez {l : List UInt8} {p k j : Nat} (h : j < k) : bt (piece l p k) j = bt l (p + j) := by
  unfold bt piece
  simp [List.getD, List.getElem?_take_of_lt h, List.getElem?_drop]
theorem piece_eq {a b : List UInt8} {p q k : Nat} (ha : p + k ≤ a.length) (hb : q + k ≤ b.length) (h : ∀ j, j < k → bt a (p + j) = bt b (q + j)) : piece a p k = piece b q k :=
  e9 (by rw [bz ha, bz hb]) fun j hj => by
    rw [bz ha] at hj
    rw [ez hj, ez hj, h j hj]
theorem of_piece_eq {a b : List UInt8} {p q k j : Nat} (h : piece a p k = piece b q k) (hj : j < k) : bt a (p + j) = bt b (q + j) := by
  rw [← ez hj, ← ez (l := b) hj, h]
theorem piece_mid (x y z : List UInt8) {p k : Nat} (hp : x.length = p) (hk : y.length = k) : piece (x ++ (y ++ z)) p k = y := by
  subst hp hk
  simp [piece]
theorem piece_head (y z : List UInt8) {k : Nat} (hk : y.length = k) : piece (y ++ z) 0 k = y := by
  subst hk
  simp [piece]
theorem bZ {x y : List UInt8} {j : Nat} (h : j < x.length) : bt (x ++ y) j = bt x j := by
  unfold bt
  simp [List.getD, List.getElem?_append_left h]
theorem cy {x y : List UInt8} {j : Nat} (h : x.length ≤ j) : bt (x ++ y) j = bt y (j - x.length) := by
  unfold bt
  simp [List.getD, List.getElem?_append_right h]
theorem bt_noughts {n j : Nat} : bt (List.replicate n 0) j = 0 := by
  unfold bt
  by_cases h : j < n
  · simp [List.getD, h]
  · simp [List.getD, h]
theorem bt_splice {l x : List UInt8} {off j : Nat} (h : off + x.length ≤ l.length) : bt (splice l off x) j = if off ≤ j ∧ j < off + x.length then bt x (j - off) else bt l j := by
  unfold splice
  have h1 : (l.take off).length = off := by simp; omega
  by_cases hlo : j < off
  · rw [if_neg (by omega), bZ (by omega)]
    unfold bt
    simp [List.getD, List.getElem?_take_of_lt hlo]
  · rw [cy (by omega), h1]
    by_cases hhi : j < off + x.length
    · rw [if_pos (by omega), bZ (by omega)]
    · rw [if_neg (by omega), cy (by omega)]
      unfold bt
      simp only [List.getD, List.getElem?_drop]
      rw [show off + x.length + (j - off - x.length) = j from by omega]
theorem maySize_yes (s : Int) (w : World) (h1 : 1 ≤ s) (h2 : s ≤ 8) : Calls Tryz.prog 200 #[.int .i64 s] w fun e w' => e = .returned (.bool true) ∧ w = w' := by
  go_enter Tryz.func200, Tryz.ntmps200
  go_wp2
  go_ret
  exact ⟨rfl, rfl⟩
def fitB (n k : Nat) : Bool := decide (n < 2 ^ k)
theorem fits_any (n : Nat) (c : Int) (w : World) (h0 : 0 ≤ c) (h64 : c ≤ 64) : Calls Tryz.prog 201 #[.int .u64 n, .int .i64 c] w fun e w' => e = .returned (.bool (fitB n c.toNat)) ∧ w = w' := by
  obtain ⟨k, rfl⟩ := Int.eq_ofNat_of_zero_le h0
  rw [Int.toNat_natCast]
  go_enter Tryz.func201, Tryz.ntmps201
  go_wp2
  go_ret
  refine ⟨bO ?_, rfl⟩
  have e : ((n : Int) / 2 ^ k) = ((n / 2 ^ k : Nat) : Int) := by simp
  rw [e]
  unfold fitB
  have h2 : 0 < 2 ^ k := Nat.pow_pos (by omega)
  rw [Bool.eq_iff_iff]
  simp only [beq_iff_eq, decide_eq_true_eq]
  rw [← Nat.div_eq_zero_iff_lt h2]
  omega
theorem bt_digL8 (n k j : Nat) (h : j < k) : bt (aY 8 k n) j = (n : Int) / 2 ^ (j * 8) % 256 := by
  have hl : j < (aY 8 k n).length := by rw [ay]; exact h
  rw [bt_get hl, getElem_digL (by omega) hl, Nat.mul_comm 8 j]
  simp
theorem put_ok (n k : Nat) (w : World) (h1 : 1 ≤ k) (h2 : k ≤ 8) (hn : n < 256 ^ k) :
    Calls Tryz.prog 188 #[.int .u64 n, .int .i64 k] w fun e w' => ∃ v, e = .returned (.tuple #[v, .int .i64 0]) ∧ Own w' w.heap.size v (aY 8 k n) ∧ Below w.heap.size w w' := by
  have hf : fitB n (k * 8) = true := by
    have e : (2 : Nat) ^ (k * 8) = 256 ^ k := by rw [Nat.mul_comm, Nat.pow_mul]
    unfold fitB
    rw [e]
    simpa using hn
  have HF := Lib.hid hf
  clear hf
  have hmk := fun (kl kc : IntKind) (m : Nat) (h1 : 1 * m ≤ 281474976710656) (h2 : m ≤ 9223372036854775807) (W : World) => run_make_row' (P := Tryz.prog) 160 5 (.int .u8 0) 1 Tryz.underlying160 u8info rfl kl kc m h1 h2 W
  have hmk1 := hmk .i64 .i64 k (by omega) (by omega)
  clear hmk
  go_enter Tryz.func188, Tryz.ntmps188
  go_wp2_with (first | (go_at_call 200; refine (maySize_yes _ _ (by omega) (by omega)).mono ?_; rintro e w' ⟨rfl, rfl⟩))
  refine (fits_any _ _ _ (by omega) (by omega)).mono ?_
  rintro e w' ⟨rfl, rfl⟩
  rw [show ((k : Int) * 8).toNat = k * 8 from by omega, HF.out]
  go_wp2
  clear hmk1
  have hr0 := World.rowIs_made w (Value.int .u8 0) k 5
  obtain ⟨g, hg⟩ : ∃ g, g = w.heap.size := ⟨_, rfl⟩
  rw [← hg] at hr0 ⊢
  have hbl0 : Below g w (w.alloc (.cells (madeCells #[Value.int .u8 0] k) 5)) := by rw [hg]; exact (Below.refl _ _).alloc (Nat.le_refl _) _
  have HG := Lib.hid hg
  clear hg HF
  go_loopw [21] (fun i wr => ∃ (j : Nat) (f : Nat → Int), j ≤ k ∧ i = .int .i64 j ∧ wr.rowIs g 5 k (fun j => .int .u8 (f j)) ∧ (∀ m, m < j → f m = bt (aY 8 k n) m) ∧ (∀ m, 0 ≤ f m ∧ f m ≤ 255) ∧ Below g w wr) (fun i _ => k - (intOf i).toNat)
  case atStart => exact ⟨0, fun _ => 0, Nat.zero_le _, rfl, hr0, fun j hj => absurd hj (by omega), fun _ => by simp, hbl0⟩
  case round =>
    obtain ⟨j, f, hj, rfl, hrow, hf, hr, hbl⟩ := hrel
    by_cases hlt : j < k
    · have hc := hrow.cell hlt
      have hfr := hrow.frozen j
      have HFF := Lib.hid hf
      have HR := Lib.hid hr
      clear hf hr
      go_wp2
      go_roundw
      case rel =>
        refine ⟨j + 1, _, by omega, by go_num, (hrow.set j _).congr (g := fun m => .int .u8 (if m = j then bt (aY 8 k n) j else f m)) ?_, ?_, ?_, hbl.setCell (Nat.le_refl _) _⟩
        · intro m hm
          show (if m = j then Value.int IntKind.u8 (↑n / 2 ^ (j * 8) % 256) else Value.int .u8 (f m)) = _
          split
          · rw [bt_digL8 n k j hlt]
          · rfl
        · intro m hm
          show (if m = j then bt (aY 8 k n) j else f m) = _
          split
          · subst m; rfl
          · exact HFF.out m (by omega)
        · intro m
          show 0 ≤ (if m = j then bt (aY 8 k n) j else f m) ∧ (if m = j then bt (aY 8 k n) j else f m) ≤ 255
          split
          · exact ⟨bt_lo _ _, bt_hi _ _⟩
          · exact HR.out m
      case measure => simp [intOf]; omega
    · go_wp2
      go_ret2
      have hjk : j = k := by omega
      subst hjk
      refine ⟨_, rfl, Own.of_row (ay 8 j n) (Nat.le_of_eq HG.out.symm) hrow (Nat.le_refl _) (by unfold maxLen; omega) hf hr, ?_⟩
      rw [← HG.out]
      exact hbl
theorem val_piece_succ {b : List UInt8} {p k : Nat} (h : p + k < b.length) : (val 8 (piece b p (k + 1)) : Int) = val 8 (piece b p k) + 2 ^ (k * 8) * bt b (p + k) := by
  have hk : k < (b.drop p).length := by simp; omega
  have e : piece b p (k + 1) = piece b p k ++ [b[p + k]] := by
    unfold piece
    rw [List.take_succ_eq_append_getElem hk]
    simp
  rw [e, val_append, bz (by omega), bt_get h, Nat.mul_comm 8 k]
  rw [val_one]
  push_cast
  rfl
theorem cu {b : List UInt8} {p k : Nat} (h : p + k ≤ b.length) : val 8 (piece b p k) < 2 ^ (k * 8) := by
  have := val_lt (all_256 (piece b p k))
  rwa [bz h, Nat.mul_comm] at this
theorem shl_fits {s : Nat} (x : Nat) (h1 : x ≤ 255) (hs : s ≤ 56) : x * 2 ^ s ≤ 18446744073709551615 := by
  have h2 : 2 ^ s ≤ 2 ^ 56 := Nat.pow_le_pow_right (by omega) hs
  have h3 : x * 2 ^ s ≤ 255 * 2 ^ 56 := Nat.mul_le_mul h1 h2
  omega
theorem or_shl {V s : Nat} {x : Int} (h0 : 0 ≤ x) (h1 : x ≤ 255) (hs : s ≤ 56) (hV : V < 2 ^ s) :
    bits .or .u64 (V : Int) (IntKind.u64.wrap (x * 2 ^ s)) = V + 2 ^ s * x := by
  obtain ⟨m, rfl⟩ := Int.eq_ofNat_of_zero_le h0
  have hf := shl_fits (s := s) m (by omega) hs
  have hV' : V < 18446744073709551616 := by
    have h2 : 2 ^ s ≤ 2 ^ 56 := Nat.pow_le_pow_right (by omega) hs
    omega
  have e : ((m : Int) * 2 ^ s) = ((m * 2 ^ s : Nat) : Int) := by push_cast; rfl
  rw [e, IntWalk.u64_in _ ⟨by omega, by omega⟩, u64_or_nat V _ hV' (by omega), Nat.or_comm, nat_join s _ _ (Nat.mul_mod_left m (2 ^ s)) hV]
  push_cast
  rw [Int.mul_comm (2 ^ s) (m : Int), Int.add_comm]
theorem get_ok (A : Option Addr) (n c N : Nat) (b : List UInt8) (p k : Nat) (w : World) (hb : Rd w N A n b) (hn : n ≤ maxLen) (h1 : 1 ≤ k) (h2 : k ≤ 8) (h3 : p + k ≤ n) :
    Calls Tryz.prog 198 #[.slice A n c, .int .i64 p, .int .i64 k] w fun e w' => e = .returned (.tuple #[.int .u64 (val 8 (piece b p k)), .int .i64 0]) ∧ w = w' := by
  unfold maxLen at hn
  go_enter Tryz.func198, Tryz.ntmps198
  go_wp2_with (first | (go_at_call 200; refine (maySize_yes _ _ (by omega) (by omega)).mono ?_; rintro e w' ⟨rfl, rfl⟩))
  go_loop [8, 30] (fun x i => ∃ j : Nat, j ≤ k ∧ i = .int .i64 j ∧ x = .int .u64 (val 8 (piece b p j))) (fun _ i => k - (intOf i).toNat)
  case atStart => exact ⟨0, Nat.zero_le _, rfl, by simp [piece, val]⟩
  case round =>
    obtain ⟨j, hj, rfl, rfl⟩ := hrel
    by_cases hlt : j < k
    · obtain ⟨bA, oA, rfl, hA, cA⟩ := hb.2 (p + j) (by omega)
      have hlo := bt_lo b (p + j)
      have hhi := bt_hi b (p + j)
      go_wp2
      go_round
      case rel =>
        refine ⟨j + 1, by omega, by go_num, ?_⟩
        rw [val_piece_succ (by have := hb.1; omega), or_shl hlo hhi (by omega) (cu (by have := hb.1; omega))]
      case measure => simp [intOf]; omega
    · go_wp2
      go_ret2
      have e : j = k := by omega
      subst e
      exact ⟨rfl, rfl⟩
end Go.Proofs.YtcafafdimcecpaaGreatDoor
