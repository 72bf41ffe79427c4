import Derived.Test.YtnliphgjcaippaaGreatDoorHsad
import Derived.Test.YtnliphgjcaippaaGreatDoorHsab
import Derived.Test.YtnliphgjcaippaaGreatDoorHsac
import Derived.Laws.CopyOwn
import Derived.Test.YtnliphgjcaippaaGreatDoorHsaa
import Derived.Laws.BitsAllLaws
import Derived.IntWalk
import Derived.Laws.AppendOwn
import Derived.Laws.AppendOwnNone
import Derived.Test.YtnliphgjcaippaaGreatDoorHsZ
namespace Go.Proofs.YtnliphgjcaippaaGreatDoor
open Go.RowKit
set_option linter.unusedVariables false
set_option maxRecDepth 100000
section
variable {D : Dev} {w w' : World} {p : Nat} {v : Value} {Fs : Nat → Nat → Prop} {ps : List Nat} {M : BenS}
set_option maxHeartbeats 2000000 in
theorem b_write_ask (n : Int) (x : Blk) (h : BenAt (bD D) w p v Fs ps M) {k : Nat} (hdk : M.bX = false) (hk : k < M.ds.length) (he : cC (M.ds.getD k bq).S (M.ds.getD k bq).g n ≠ 0) :
    Calls Tryz.prog 58 #[.pointer (some ⟨p, 0, none⟩), .int .i64 k, .int .i64 n, blk x] w fun e w' => e = .returned (.int .i64 (cC (M.ds.getD k bq).S (M.ds.getD k bq).g n)) ∧ Below w.heap.size w w' := by
  obtain ⟨y, hy⟩ : ∃ y, M.ds.getD k bq = y := ⟨_, rfl⟩
  obtain ⟨q, hq⟩ : ∃ q, ps.getD k 0 = q := ⟨_, rfl⟩
  have hA : Below w.heap.size w ((w.alloc (.cells #[.int .i64 n] 3)).alloc (.cells (cel x).toArray 58)) := ((Below.refl _ w).alloc (Nat.le_refl _) _).alloc (by rw [World.size_alloc]; omega) _
  have HO := Lib.hid (b_lit_ok (h.below hA) hdk hk)
  obtain ⟨hB, k0, k1, k2, hsz⟩ := wr3_facts w n x (some ⟨q, 0, none⟩)
  have hat := (h.below hB).devs.at_ k hk
  rw [hy, hq] at hat
  rw [hy] at he ⊢
  rw [hq] at HO
  have HD := Lib.hid (D.sure n hat)
  have HB := Lib.hid hB
  obtain ⟨c0, f0⟩ := one_cell k0
  obtain ⟨c2, f2⟩ := one_cell k2
  rcases el (S := y.S) (g := y.g) (n := n) with e | e | ⟨e, _⟩
  rotate_right 1
  · exact absurd e he
  all_goals
    rw [e] at HD ⊢
    clear e he h hA hB k0 k1 k2 hat hy hq hdk
    go_enter Tryz.func58, Tryz.ntmps58
    unfold wr3 at *
    go_wp2_with (first | (refine ag rfl (bu rfl rfl) ?_) | fail)
    refine HO.out.mono ?_
    rintro e w1 ⟨rfl, rfl⟩
    go_wp2_with fail
    refine HD.out.mono ?_
    rintro e w2 ⟨rfl, hb⟩
    have HBB := Lib.hid (HB.out.trans (hb.mono (by rw [hsz]; omega)))
    clear hb
    go_wp2_with (first | (refine ag rfl (aQ rfl) ?_) | (refine aN rfl (exec_fill rfl rfl rfl) ?_) | fail)
    go_ret
    exact ⟨rfl, HBB.out.alloc HBB.out.size _⟩
set_option maxHeartbeats 2000000 in
theorem b_write_do (n : Int) (x : Blk) (h : BenAt (bD D) w p v Fs ps M) {k : Nat} (hdk : M.bX = false) (hk : k < M.ds.length) (he : cC (M.ds.getD k bq).S (M.ds.getD k bq).g n = 0) (hs : M.steps < 1000000) (hll : M.left < 9223372036854775808) (hL : (M.ds.getD k bq).L.length < 1000000) :
    Calls Tryz.prog 58 #[.pointer (some ⟨p, 0, none⟩), .int .i64 k, .int .i64 n, blk x] w fun e w' => e = .returned (.int .i64 M.stepE) ∧ Left (bD D) w p v Fs ps M.ds.length (wrS6 M (k : Int) n x) w' := by
  obtain ⟨y, hy⟩ : ∃ y, M.ds.getD k bq = y := ⟨_, rfl⟩
  obtain ⟨q, hq⟩ : ∃ q, ps.getD k 0 = q := ⟨_, rfl⟩
  have hA : Below w.heap.size w ((w.alloc (.cells #[.int .i64 n] 3)).alloc (.cells (cel x).toArray 58)) := ((Below.refl _ w).alloc (Nat.le_refl _) _).alloc (by rw [World.size_alloc]; omega) _
  have HO := Lib.hid (b_lit_ok (h.below hA) hdk hk)
  obtain ⟨hB, k0, k1, k2, hsz⟩ := wr3_facts w n x (some ⟨q, 0, none⟩)
  have hat := (h.below hB).devs.at_ k hk
  have hr0 : bL M (k : Int) n = 0 := by unfold bL; rw [if_pos (litE_ok hdk hk), M.dev_nat]; exact he
  rw [hy, hq] at hat
  rw [hy] at he hL
  rw [hq] at HO
  have HD := Lib.hid (D.sure n hat)
  have HB := Lib.hid hB
  have HH := Lib.hid h
  have HK0 := Lib.hid k0
  have HK1 := Lib.hid k1
  have HK2 := Lib.hid k2
  have HE := Lib.hid he
  have HSS := Lib.hid hs
  have HLL := Lib.hid hll
  have HL := Lib.hid hL
  have HY := Lib.hid hy
  have HQ := Lib.hid hq
  have HR := Lib.hid hr0
  obtain ⟨c0, f0⟩ := one_cell k0
  obtain ⟨c2, f2⟩ := one_cell k2
  rw [he] at HD
  by_cases h1 : M.left = 1
  all_goals
    have H1 := Lib.hid h1
    clear h1 he h hA hB k0 k1 k2 hat hy hq hdk hs hll hL hr0
    go_enter Tryz.func58, Tryz.ntmps58
    unfold wr3 at *
    go_wp2_with (first | (refine ag rfl (bu rfl rfl) ?_) | fail)
    refine HO.out.mono ?_
    rintro e w1 ⟨rfl, rfl⟩
    go_wp2_with fail
    refine HD.out.mono ?_
    rintro e w2 ⟨rfl, hb⟩
    have hb2 := HB.out.trans (hb.mono (by rw [hsz]; omega))
    have HBB := Lib.hid (hb2.alloc hb2.size (.cells (cel (dP y.S y.g n)).toArray 58))
    have HA0 := Lib.hid (bk (am HK0.out hb) (.cells (cel (dP y.S y.g n)).toArray 58))
    have HA1 := Lib.hid (bk (am HK1.out hb) (.cells (cel (dP y.S y.g n)).toArray 58))
    have HA2 := Lib.hid (bk (am HK2.out hb) (.cells (cel (dP y.S y.g n)).toArray 58))
    clear hb hb2 c0 c2 f0 f2 hsz
    generalize dP y.S y.g n = z at *
    go_wp2_with (first | (refine ag rfl (aQ rfl) ?_) | (refine aN rfl (exec_fill rfl rfl rfl) ?_) | fail)
    generalize w2.alloc (.cells (cel z).toArray 58) = w3 at *
  · refine (b_step_cut _ (HH.out.below HBB.out) H1.out).mono ?_
    rintro e w4 ⟨rfl, h4, ho4⟩
    go_wp2_with fail
    go_ret
    refine ⟨bV (by unfold BenS.stepE; rw [if_pos H1.out]), ?_⟩
    rw [show wrS6 M (k : Int) n x = M.night from by unfold wrS6; rw [if_pos HR.out, if_pos H1.out]]
    exact Left.above HBB.out (Left.obj h4 ho4 rfl)
  · refine (b_step_do 104 #[] _ (HH.out.below HBB.out) H1.out HSS.out HLL.out Tryz.call104 (fun z w4 => z = 0 ∧ Left (bD D) w3 p v Fs ps M.ds.length (wrS6 M (k : Int) n x) w4) ?_).mono ?_
    · intro w4 h4 ho4
      have hat4 := h4.devs.at_ k hk
      rw [show M.done.ds.getD k bq = y from HY.out, HQ.out] at hat4
      have hne : ∀ j, j < 3 → w.heap.size + j ≠ p := fun j _ e => by have := aD HH.out.at_; omega
      refine (b_clo hat4 HL.out (ho4.keep HA2.out (hne 2 (by omega))) (ho4.keep HA0.out (hne 0 (by omega))) (ho4.keep HA1.out (hne 1 (by omega)))).mono ?_
      rintro e w5 ⟨he5, F', g1, g2, g3⟩
      refine ⟨_, he5, HE.out, Left.behind ho4 (Left.turn h4 hk g2 g3 (d := ⟨y.S, wrL y.S y.L y.g n x, y.g⟩) (show D.Dv _ _ _ _ _ _ by rw [HQ.out]; exact g1) ?_)⟩
      unfold wrS6
      rw [if_pos HR.out, if_neg H1.out, show M.dev (k : Int) = y from HY.out]
      rfl
    · rintro e w5 ⟨z, rfl, rfl, hl5⟩
      have HL5 := Lib.hid (Left.above HBB.out hl5)
      clear hl5
      go_wp2_with fail
      go_ret
      exact ⟨bV (by unfold BenS.stepE; rw [if_neg H1.out]), HL5.out⟩
theorem b_write (d n : Int) (x : Blk) (h : BenAt (bD D) w p v Fs ps M) (hr : ∀ i, i < M.ds.length → (M.ds.getD i bq).L.length < 1000000) (hs : M.steps < 1000000) (hll : M.left < 9223372036854775808) :
    Calls Tryz.prog 58 #[.pointer (some ⟨p, 0, none⟩), .int .i64 d, .int .i64 n, blk x] w fun e w' => e = .returned (.int .i64 (de M d n)) ∧ Left (bD D) w p v Fs ps M.ds.length (wrS6 M d n x) w' := by
  by_cases h0 : litE M d = 0
  · rcases dL M d with ⟨e, _⟩ | ⟨e, _⟩ | ⟨e, hdk, k, rfl, hk⟩
    · omega
    · omega
    have hr0 : bL M (k : Int) n = cC (M.ds.getD k bq).S (M.ds.getD k bq).g n := by unfold bL; rw [if_pos e, M.dev_nat]
    by_cases he : cC (M.ds.getD k bq).S (M.ds.getD k bq).g n = 0
    · refine (b_write_do n x h hdk hk he hs hll (hr k hk)).mono ?_
      rintro e w' ⟨rfl, hl⟩
      exact ⟨by unfold de; rw [hr0, if_pos he], hl⟩
    · refine (b_write_ask n x h hdk hk he).mono ?_
      rintro e w' ⟨rfl, hb⟩
      exact ⟨by unfold de; rw [hr0, if_neg he], Left.below_ h hb (by unfold wrS6; rw [hr0, if_neg he])⟩
  · refine (b_write_lit d n x h h0).mono ?_
    rintro e w' ⟨rfl, hb⟩
    have hr0 : bL M d n = litE M d := by unfold bL; rw [if_neg h0]
    exact ⟨by unfold de; rw [hr0, if_neg h0], Left.below_ h hb (by unfold wrS6; rw [hr0, if_neg h0])⟩
end
def newD (k : Int) : DevS := ⟨List.replicate k.toNat au, [], false⟩
theorem eG (ks : List Int) : (cE ks).ds = ks.map newD := rfl
structure Making (kd : BKind) (w wr : World) (v : Value) (Fs : Nat → Nat → Prop) (ps : List Nat) (ds : List DevS) (left : Nat) (bX : Bool) (steps : Nat) : Prop where
  at_ : wr.heap[w.heap.size]? = some (.cells (kd.cs v left bX steps) kd.o)
  row : bh kd.E wr w.heap.size v ps
  devs : Devs kd.K wr Fs ps ds
  apart : ∀ i, i < ds.length → ∀ b, Fs i b → w.heap.size < b ∧ v.ownBlock ≠ some b
  below : Below w.heap.size w wr
section
variable {kd : BKind} {w wr w1 w3 : World} {v v' : Value} {Fs : Nat → Nat → Prop} {F' : Nat → Prop} {ps : List Nat} {ds : List DevS} {p' : Nat} {d : DevS} {o2 : Obj} {left steps : Nat} {bX : Bool}
theorem Making.next (hcs : ∀ v v', (kd.cs v left bX steps).setIfInBounds 0 v' = kd.cs v' left bX steps) (h : Making kd w wr v Fs ps ds left bX steps) (hb1 : Below wr.heap.size wr w1) (hF : ∀ b, F' b → wr.heap.size ≤ b) (hd : kd.K.Dv w1 F' p' d.S d.L d.g)
    (hm : bh kd.E w3 w.heap.size v' (ps ++ [p'])) (hg : (w1.alloc o2).grownBy w3 v.ownBlock) (ho : ∀ x, v'.ownBlock = some x → v.ownBlock = some x ∨ w1.heap.size + 1 ≤ x) :
    Making kd w (w3.setCell ⟨w.heap.size, 0, none⟩ v') v' (upF Fs ds.length F') (ps ++ [p']) (ds ++ [d]) left bX steps := by
  have hx := aD h.at_
  have h1 := hb1.size
  have hsz : (w1.alloc o2).heap.size = w1.heap.size + 1 := World.size_alloc _ _
  have hvl : ∀ b, v.ownBlock = some b → b < wr.heap.size := h.row.own_lt
  have o3 : Only (fun b => v.ownBlock = some b) w1 w3 := (Only.of_below _ ((Below.refl _ w1).alloc (Nat.le_refl _) o2)).trans ((Only.refl (fun b => v.ownBlock = some b) _).grown hg fun k e => .inl e) fun b hb => .inl hb
  have hvx : v.ownBlock ≠ some w.heap.size := h.row.not_at h.at_ kd.ne
  have hat1 := am h.at_ hb1
  have hat3 := o3.keep hat1 hvx
  have o4 : Only (fun b => b = w.heap.size ∨ v.ownBlock = some b) w1 (w3.setCell ⟨w.heap.size, 0, none⟩ v') := (o3.widen fun b hb => .inr hb).setCell (p := ⟨w.heap.size, 0, none⟩) (.inl (.inl rfl)) _
  have hv3 : v'.ownBlock ≠ some w.heap.size := hm.not_at hat3 kd.ne
  have hdv := h.devs.push hb1 hF hd
  have hap : ∀ i, i < (ds ++ [d]).length → ∀ b, upF Fs ds.length F' i b → w.heap.size < b ∧ v.ownBlock ≠ some b ∧ b < w1.heap.size := fun i hi b hb => by
    have hlt := hdv.lt i hi b hb
    rcases hb with ⟨e, hb⟩ | ⟨e, hb⟩
    · have := hF b hb
      exact ⟨by omega, fun e => by have := hvl b e; omega, hlt⟩
    · rw [List.length_append, List.length_singleton] at hi
      exact ⟨(h.apart i (by omega) b hb).1, (h.apart i (by omega) b hb).2, hlt⟩
  refine ⟨?_, hm.only (only_set w3 w.heap.size 0 v') fun b hb e => hv3 (by rw [hb, e]), hdv.only o4 fun i hi b hb e => ?_, fun i hi b hb => ⟨(hap i hi b hb).1, fun e => ?_⟩, ?_⟩
  · have := heap_setCell_same w3 w.heap.size 0 _ _ v' hat3
    rw [hcs] at this
    exact this
  · rcases e with e | e
    · have := (hap i hi b hb).1; omega
    · exact (hap i hi b hb).2.1 e
  · rcases ho b e with e | e
    · exact (hap i hi b hb).2.1 e
    · have := (hap i hi b hb).2.2; omega
  · have hb01 : Below w.heap.size w w1 := h.below.trans (hb1.mono h.below.size)
    refine hb01.trans (o4.below (fun b hb => ?_) hb01.size)
    rcases hb with e | e
    · omega
    · exact h.row.lt_own b e
theorem Making.done (h : Making kd w wr v Fs ps ds left bX steps) (h1 : 1 ≤ ds.length) (h2 : ds.length ≤ 17) : BenAt kd wr w.heap.size v Fs ps ⟨ds, left, bX, steps⟩ ∧ (∀ b, footB w.heap.size v Fs ds.length b → w.heap.size ≤ b) ∧ Below w.heap.size w wr :=
  ⟨⟨h.at_, h.row.base (Nat.zero_le _), h.devs, fun i hi b hb => ⟨by have := (h.apart i hi b hb).1; omega, (h.apart i hi b hb).2⟩, h1, h2⟩, fun b hb => by
    rcases hb with e | e | ⟨i, hi, e⟩
    · omega
    · exact h.row.lt_own b e
    · have := (h.apart i hi b e).1; omega, h.below⟩
end
def dE (kd : BKind) (w : World) (ks : List Int) (e : Ending) (w' : World) : Prop :=
  Below w.heap.size w w' ∧ ((newOk ks ∧ ∃ p v Fs ps, e = .returned (.tuple #[.pointer (some ⟨p, 0, none⟩), .int .i64 0]) ∧ BenAt kd w' p v Fs ps (cE ks) ∧ ∀ b, footB p v Fs (cE ks).ds.length b → w.heap.size ≤ b) ∨ (¬ newOk ks ∧ e = .returned (.tuple #[.pointer none, .int .i64 2])))
theorem dE.no {kd : BKind} {w w' : World} {ks : List Int} (hb : Below w.heap.size w w') (hn : ¬ newOk ks) {e : Ending} (he : e = .returned (.tuple #[.pointer none, .int .i64 2])) : dE kd w ks e w' := ⟨hb, .inr ⟨hn, he⟩⟩
theorem take_map_succ {ks : List Int} {j : Nat} (h : j < ks.length) : (ks.take (j + 1)).map newD = (ks.take j).map newD ++ [newD (ks.getD j 0)] := by
  rw [List.take_add_one, List.getD, List.getElem?_eq_getElem h, List.map_append]; rfl
section
variable {D : Dev} {w w' : World}
set_option maxHeartbeats 2000000 in
theorem b_new {A : Option Addr} {n c : Nat} {ks : List Int} (hl : RdE IntE w w.heap.size A n ks) (hnc : n ≤ c) (hc : c ≤ maxLen) :
    Calls Tryz.prog 6 #[.slice A n c] w (dE (bD D) w ks) := by
  have hlen : ks.length = n := hl.1
  unfold maxLen at hc
  by_cases h1 : n < 1
  · have HN := Lib.hid (show ¬ newOk ks from fun h => by have := h.1; omega)
    have h0 : n = 0 := by omega
    subst h0
    clear hl hlen h1
    go_enter Tryz.func6, Tryz.ntmps6
    go_wp2
    go_ret2
    exact dE.no (Below.refl _ _) HN.out rfl
  by_cases h2 : 17 < n
  · have HN := Lib.hid (show ¬ newOk ks from fun h => by have := h.2.1; omega)
    have h1' : ¬((n : Int) < 1) := by omega
    have h2' : ((n : Int) > 17) := by omega
    clear hl hlen h1 h2
    go_enter Tryz.func6, Tryz.ntmps6
    go_wp2
    go_ret2
    exact dE.no (Below.refl _ _) HN.out rfl
  have h1' : ¬((n : Int) < 1) := by omega
  have h2' : ¬((n : Int) > 17) := by omega
  have h3' : ¬(17 < (n : Int)) := by omega
  have HL := Lib.hid hl
  have HLEN := Lib.hid hlen
  have HMK := Lib.hid (show Making (bD D) w (w.alloc (.cells #[.slice none 0 0, .int .i64 0, .int .i64 0, .bool false] 74)) (.slice none 0 0) (fun _ _ => False) [] [] 0 false 0 from
    ⟨heap_alloc_new w _, bh.nil _ _, ⟨rfl, fun i hi => absurd hi (Nat.not_lt_zero i), fun i j hi => absurd hi (Nat.not_lt_zero i)⟩, fun i hi => absurd hi (Nat.not_lt_zero i), (Below.refl _ w).alloc (Nat.le_refl _) _⟩)
  clear hl hlen
  go_enter Tryz.func6, Tryz.ntmps6
  go_wp2_with fail
  generalize w.alloc (.cells #[.slice none 0 0, .int .i64 0, .int .i64 0, .bool false] 74) = w0 at *
  clear h1' h2' h3'
  go_loopw [21] (fun i wr => ∃ (j : Nat) (v : Value) (Fs : Nat → Nat → Prop) (ps : List Nat), j ≤ n ∧ i = .int .i64 j ∧ Making (bD D) w wr v Fs ps ((ks.take j).map newD) 0 false 0 ∧ ∀ q, q < j → 1 ≤ ks.getD q 0 ∧ ks.getD q 0 ≤ 512) (fun i _ => n - (intOf i).toNat)
  case atStart => exact ⟨0, _, _, _, Nat.zero_le _, rfl, HMK.out, fun q hq => absurd hq (Nat.not_lt_zero q)⟩
  case round =>
    obtain ⟨j, v, Fs, ps, hj, rfl, hmk, hall⟩ := hrel
    have HALL := Lib.hid hall
    clear hall HMK
    by_cases hlt : j < n
    · have hlj : (j : Int) < (n : Int) := by omega
      obtain ⟨bA, oA, rfl, hbA, hcA⟩ := (HL.out.below hmk.below).int hlt
      have HM := Lib.hid hmk
      obtain ⟨AS, cS, rfl, hs1, hs2⟩ := hmk.row.form
      unfold maxLen at hs2
      have hpl : ps.length = j := by have := hmk.devs.len; rw [List.length_map, List.length_take] at this; have := HLEN.out; omega
      have HPL := Lib.hid hpl
      obtain ⟨z, hz⟩ : ∃ z, ks.getD j 0 = z := ⟨_, rfl⟩
      rw [hz] at hcA
      have HZ := Lib.hid hz
      clear hmk hz hpl
      by_cases hok : 1 ≤ z ∧ z ≤ 512
      · obtain ⟨k, rfl⟩ : ∃ k : Nat, z = k := ⟨z.toNat, by omega⟩
        have hk1 : 1 ≤ k := by omega
        have hk2 : k ≤ 512 := by omega
        clear hok
        go_wp2_with fail
        refine (D.new_ok k wr hk1 hk2).mono ?_
        rintro e w1 ⟨p', F', rfl, hd1, hb1, hF1⟩
        have hat1 := am HM.out.at_ hb1
        obtain ⟨c0, c1, c2, c3⟩ := db hat1
        have hrow1 := HM.out.row.below hb1
        have hrow2 := hrow1.below ((Below.refl _ w1).alloc (Nat.le_refl _) (.cells ((bD D).E.cel p').toArray (bD D).E.t))
        have HR := Lib.hid hrow2
        have HNEW := Lib.hid (rdE_new (E := (bD D).E) (l := [p']) w1 ((bD D).E.cel p').toArray (bD D).E.t (by rw [dH]; simp [bY]))
        have HSZ := Lib.hid (show w.heap.size ≤ (w1.alloc (.cells ((bD D).E.cel p').toArray (bD D).E.t)).heap.size by rw [World.size_alloc]; have := HM.out.below.size; have := hb1.size; omega)
        have HD1 := Lib.hid hd1
        have HB1 := Lib.hid hb1
        have HF1 := Lib.hid hF1
        have HAT := Lib.hid hat1
        have HPS := Lib.hid (show ps.length + 1 ≤ 34359738368 by have := HPL.out; omega)
        clear hd1 hb1 hF1 hat1 hrow1 hrow2
        have hal : w.heap.size < w1.heap.size := aD HAT.out
        go_wp2_with (first | (refine ag rfl (exec_mk1E (E := (bD D).E) (a := p') rfl rfl rfl (by decide)) ?_) | (at_builtin; refine wpList_appE_own (bD D).E rfl _ _ rfl w.heap.size _ _ _ _ ps [p'] _ rfl rfl HR.out HNEW.out HSZ.out HPS.out ?_) | fail)
        intro v' w3 hm3 hg3 ho3
        have hxv : v'.ownBlock ≠ some w.heap.size := fun e => by
          rcases ho3 _ e with e' | e'
          · exact HM.out.row.not_at HM.out.at_ (bD D).ne e'
          · omega
        have HNX := Lib.hid (HM.out.next (fun _ _ => rfl) HB1.out HF1.out (d := newD k) HD1.out hm3 hg3 ho3)
        have hvx : (Value.slice AS ps.length cS).ownBlock ≠ some w.heap.size := HM.out.row.not_at HM.out.at_ (bD D).ne
        have hat3 : w3.heap[w.heap.size]? = some _ := (hg3.block w.heap.size (by rw [World.size_alloc]; omega) (fun e => hvx e.symm)).trans (bk HAT.out _)
        obtain ⟨AV, cV, rfl, _, _⟩ := hm3.form
        obtain ⟨d0, d1, d2, d3⟩ := db hat3
        have f0 := frozen_of_row w3 w.heap.size 0 _ _ hat3
        clear hm3 hg3 ho3 hat3 c0 c1 c2 c3
        go_wp2_with fail
        go_roundw
        case rel =>
          refine ⟨j + 1, .slice AV (ps.length + 1) cV, upF Fs (List.map newD (List.take j ks)).length F', ps ++ [p'], by omega, by go_num, ?_, fun q hq => ?_⟩
          · rw [take_map_succ (by have := HLEN.out; omega), HZ.out]
            have h6 := HNX.out
            rw [show (ps ++ [p']).length = ps.length + 1 from by simp] at h6
            exact h6
          · by_cases e : q = j
            · subst e; rw [HZ.out]; omega
            · exact HALL.out q (by omega)
        case measure => simp [intOf]; omega
      · have HB := Lib.hid HM.out.below
        have HN := Lib.hid (show ¬ newOk ks from fun h => hok (by have := h.2.2 z (by rw [← HZ.out]; exact getD_mem (by have := HLEN.out; omega)); exact this))
        go_wp2_with fail
        refine (D.new_no z wr hok).mono ?_
        rintro e w1 ⟨rfl, hb1⟩
        have HB1 := Lib.hid (HB.out.trans (hb1.mono HB.out.size))
        clear hb1 hok
        go_wp2_with fail
        go_ret2
        exact dE.no HB1.out HN.out rfl
    · have hjn : j = n := by omega
      subst hjn
      have hlj : ¬((j : Int) < (j : Int)) := by omega
      have HM := Lib.hid hmk
      clear hmk
      go_wp2_with fail
      go_ret2
      have h5 := HM.out
      have hLL := HLEN.out
      rw [← hLL, List.take_length] at h5
      obtain ⟨g1, g2, g3⟩ := h5.done (by rw [List.length_map]; omega) (by rw [List.length_map]; omega)
      refine ⟨g3, .inl ⟨⟨by omega, by omega, fun k hk => ?_⟩, _, _, _, _, rfl, g1, g2⟩⟩
      obtain ⟨i, hi, rfl⟩ := List.getElem_of_mem hk
      have := HALL.out i (by omega)
      rwa [List.getD_eq_getElem?_getD, List.getElem?_eq_getElem hi] at this
end
structure BIds where
  read : FuncId
  write : FuncId
  flush : FuncId
  fail : FuncId
  sure : FuncId
  devices : FuncId
  dv : FuncId
  dead : FuncId
  bX : FuncId
  steps : FuncId
structure BenS.Wf (M : BenS) : Prop where
  one : 1 ≤ M.ds.length
  cap : M.ds.length ≤ 17
  len : ∀ i, i < M.ds.length → 1 ≤ (M.ds.getD i bq).S.length ∧ (M.ds.getD i bq).S.length ≤ 512
structure Ben (I : BIds) where
  Bn : World → (Nat → Prop) → Nat → BenS → Prop
  lt : ∀ {w F p M}, Bn w F p M → ∀ b, F b → b < w.heap.size
  only : ∀ {w w' F G p M}, Bn w F p M → Only G w w' → (∀ b, F b → ¬ G b) → Bn w' F p M
  wf : ∀ {w F p M}, Bn w F p M → M.Wf
  read : ∀ {w F p M} (d n : Int), Bn w F p M → Calls Tryz.prog I.read #[.pointer (some ⟨p, 0, none⟩), .int .i64 d, .int .i64 n] w fun e w' => e = .returned (.tuple #[blk (rdB6 M d n), .int .i64 (bL M d n)]) ∧ Below w.heap.size w w'
  sure : ∀ {w F p M} (d n : Int), Bn w F p M → Calls Tryz.prog I.sure #[.pointer (some ⟨p, 0, none⟩), .int .i64 d, .int .i64 n] w fun e w' => e = .returned (.tuple #[blk (suB6 M d n), .int .i64 (suE6 M d n)]) ∧ Below w.heap.size w w'
  write : ∀ {w F p M} (d n : Int) (b : Blk), Room M 1 → Bn w F p M → Calls Tryz.prog I.write #[.pointer (some ⟨p, 0, none⟩), .int .i64 d, .int .i64 n, blk b] w fun e w' => e = .returned (.int .i64 (de M d n)) ∧ ∃ F', Bn w' F' p (wrS6 M d n b) ∧ Only F w w' ∧ Grow w F F'
  flush : ∀ {w F p M} (d : Int), Room M 1 → Bn w F p M → Calls Tryz.prog I.flush #[.pointer (some ⟨p, 0, none⟩), .int .i64 d] w fun e w' => e = .returned (.int .i64 (flE6 M d)) ∧ ∃ F', Bn w' F' p (flS6 M d) ∧ Only F w w' ∧ Grow w F F'
  fail : ∀ {w F p M} (d : Int), Bn w F p M → Calls Tryz.prog I.fail #[.pointer (some ⟨p, 0, none⟩), .int .i64 d] w fun e w' => e = .returned (.int .i64 (hasE M d)) ∧ ∃ F', Bn w' F' p (faS6 M d) ∧ Only F w w' ∧ Grow w F F'
  devices : ∀ {w F p M}, Bn w F p M → Calls Tryz.prog I.devices #[.pointer (some ⟨p, 0, none⟩)] w fun e w' => e = .returned (.int .i64 (M.ds.length : Int)) ∧ Below w.heap.size w w'
  dv : ∀ {w F p M} (d : Int), Bn w F p M → Calls Tryz.prog I.dv #[.pointer (some ⟨p, 0, none⟩), .int .i64 d] w fun e w' => e = .returned (.int .i64 (seN6 M d)) ∧ Below w.heap.size w w'
  dead : ∀ {w F p M} (d : Int), Bn w F p M → Calls Tryz.prog I.dead #[.pointer (some ⟨p, 0, none⟩), .int .i64 d] w fun e w' => e = .returned (.bool (deG6 M d)) ∧ Below w.heap.size w w'
  bX : ∀ {w F p M}, Bn w F p M → Calls Tryz.prog I.bX #[.pointer (some ⟨p, 0, none⟩)] w fun e w' => e = .returned (.bool M.bX) ∧ Below w.heap.size w w'
  steps : ∀ {w F p M}, Bn w F p M → Calls Tryz.prog I.steps #[.pointer (some ⟨p, 0, none⟩)] w fun e w' => e = .returned (.int .i64 (M.steps : Int)) ∧ Below w.heap.size w w'
theorem Ben.below {I : BIds} (R : Ben I) {w w' : World} {F : Nat → Prop} {p : Nat} {M : BenS} (h : R.Bn w F p M) (k : Below w.heap.size w w') : R.Bn w' F p M := R.only h (Only.of_below (fun _ => False) k) fun _ _ e => e
section
variable {k : BKind} {w w' : World} {F G : Nat → Prop} {p : Nat} {M M' : BenS}
def NewB (Bn : World → (Nat → Prop) → Nat → BenS → Prop) (w : World) (ks : List Int) (e : Ending) (w' : World) : Prop :=
  Below w.heap.size w w' ∧ ((newOk ks ∧ ∃ p F, e = .returned (.tuple #[.pointer (some ⟨p, 0, none⟩), .int .i64 0]) ∧ Bn w' F p (cE ks) ∧ ∀ b, F b → w.heap.size ≤ b) ∨ (¬ newOk ks ∧ e = .returned (.tuple #[.pointer none, .int .i64 2])))
def InB (k : BKind) (w : World) (F : Nat → Prop) (p : Nat) (M : BenS) : Prop := ∃ v Fs ps, F = footB p v Fs M.ds.length ∧ BenAt k w p v Fs ps M
theorem InB.lt (h : InB k w F p M) : ∀ b, F b → b < w.heap.size := by
  obtain ⟨v, Fs, ps, rfl, h⟩ := h
  exact h.lt
theorem InB.only (h : InB k w F p M) (ho : Only G w w') (hn : ∀ b, F b → ¬ G b) : InB k w' F p M := by
  obtain ⟨v, Fs, ps, rfl, h⟩ := h
  exact ⟨v, Fs, ps, rfl, h.only ho hn⟩
theorem Left.out {v : Value} {Fs : Nat → Nat → Prop} {ps : List Nat} (h : Left k w p v Fs ps M.ds.length M' w') : ∃ F', InB k w' F' p M' ∧ Only (footB p v Fs M.ds.length) w w' ∧ Grow w (footB p v Fs M.ds.length) F' := by
  obtain ⟨Fs', ps', h1, h2, h3⟩ := h
  exact ⟨_, ⟨v, Fs', ps', rfl, h1⟩, h2, h3⟩
end
def pIds : BIds where
  read := 56
  write := 58
  flush := 69
  fail := 16
  sure := 20
  devices := 34
  dv := 79
  dead := 71
  bX := 42
  steps := 12
theorem Dev.wf_of {D : Dev} {w : World} {p : Nat} {v : Value} {Fs : Nat → Nat → Prop} {ps : List Nat} {M : BenS} (h : BenAt (bD D) w p v Fs ps M) : M.Wf :=
  ⟨h.one, h.cap, fun i hi => ⟨(D.fit (h.devs.at_ i hi)).2, D.cap (h.devs.at_ i hi)⟩⟩
def pBen (D : Dev) : Ben pIds where
  Bn := InB (bD D)
  lt := InB.lt
  only := InB.only
  wf := fun ⟨_, _, _, _, h⟩ => D.wf_of h
  read := fun d n ⟨_, _, _, _, h⟩ => b_read d n h
  sure := fun d n ⟨_, _, _, _, h⟩ => b_sure d n h
  write := fun d n b hr ⟨_, _, _, e, h⟩ => by
    subst e
    exact (b_write d n b h (fun i hi => hr.at_ hi) (by have := hr.1; omega) hr.2.1).mono fun e w' ⟨h1, h2⟩ => ⟨h1, h2.out⟩
  flush := fun d hr ⟨_, _, _, e, h⟩ => by
    subst e
    exact (b_flush d h (by have := hr.1; omega) hr.2.1).mono fun e w' ⟨h1, h2⟩ => ⟨h1, h2.out⟩
  fail := fun d ⟨_, _, _, e, h⟩ => by
    subst e
    exact (b_fail d h).mono fun e w' ⟨h1, h2⟩ => ⟨h1, h2.out⟩
  devices := fun ⟨_, _, _, _, h⟩ => (b_devices h).mono fun e w' ⟨h1, h2⟩ => ⟨h1, dJ h2⟩
  dv := fun d ⟨_, _, _, _, h⟩ => b_sectors d h
  dead := fun d ⟨_, _, _, _, h⟩ => b_dead d h
  bX := fun ⟨_, _, _, _, h⟩ => (b_dark h).mono fun e w' ⟨h1, h2⟩ => ⟨h1, dJ h2⟩
  steps := fun ⟨_, _, _, _, h⟩ => (b_steps h).mono fun e w' ⟨h1, h2⟩ => ⟨h1, dJ h2⟩
theorem dE.hid {k : BKind} {w w' : World} {ks : List Int} {e : Ending} (h : dE k w ks e w') : NewB (InB k) w ks e w' := by
  obtain ⟨h1, h | h⟩ := h
  · obtain ⟨h0, p, v, Fs, ps, h2, h3, h4⟩ := h
    exact ⟨h1, .inl ⟨h0, p, _, h2, ⟨v, Fs, ps, rfl, h3⟩, h4⟩⟩
  · exact ⟨h1, .inr h⟩
structure BenP extends Ben pIds where
  new : ∀ {w A n c ks}, RdE IntE w w.heap.size A n ks → n ≤ c → c ≤ maxLen → Calls Tryz.prog 6 #[.slice A n c] w (NewB Bn w ks)
def bf : BenP where
  toBen := pBen theDev
  new := fun h1 h2 h3 => (b_new h1 h2 h3).mono fun _ _ h => h.hid
def piece (b : List UInt8) (at_ k : Nat) : List UInt8 := (b.drop at_).take k
theorem bJ {b : List UInt8} {p k : Nat} (h : p + k ≤ b.length) : (piece b p k).length = k := by simp [piece]; omega
def ofL (l : List UInt8) : Blk := Vector.ofFn fun i => l.getD i.val 0
theorem ofL_byt (l : List UInt8) {j : Nat} (h : j < 64) : byt (ofL l) j = bt l j := by
  rw [byt_get _ h]
  simp [ofL, bt]
theorem toList_ofL {l : List UInt8} (h : l.length = 64) : (ofL l).toList = l := dl (by simp [h]) fun k hk => ofL_byt l (by simpa using hk)
theorem ofL_toList (b : Blk) : ofL b.toList = b := blk_ext fun j h => ofL_byt _ h
theorem cf (b : Blk) : b.toList.length = 64 := by simp
theorem eM {l : List UInt8} {p k j : Nat} (h : j < k) : bt (piece l p k) j = bt l (p + j) := by
  unfold bt piece
  simp [List.getD, List.getElem?_take_of_lt h, List.getElem?_drop]
theorem piece_mid (x y z : List UInt8) {p k : Nat} (hp : x.length = p) (hk : y.length = k) : piece (x ++ (y ++ z)) p k = y := by
  subst hp hk
  simp [piece]
theorem piece_head (y z : List UInt8) {k : Nat} (hk : y.length = k) : piece (y ++ z) 0 k = y := by
  subst hk
  simp [piece]
theorem dq {x y : List UInt8} {j : Nat} (h : j < x.length) : bt (x ++ y) j = bt x j := by
  unfold bt
  simp [List.getD, List.getElem?_append_left h]
theorem du {x y : List UInt8} {j : Nat} (h : x.length ≤ j) : bt (x ++ y) j = bt y (j - x.length) := by
  unfold bt
  simp [List.getD, List.getElem?_append_right h]
theorem bt_noughts {n j : Nat} : bt (List.replicate n 0) j = 0 := by
  unfold bt
  by_cases h : j < n
  · simp [List.getD, h]
  · simp [List.getD, h]
theorem bt_splice {l x : List UInt8} {off j : Nat} (h : off + x.length ≤ l.length) : bt (splice l off x) j = if off ≤ j ∧ j < off + x.length then bt x (j - off) else bt l j := by
  unfold splice
  have h1 : (l.take off).length = off := by simp; omega
  by_cases hlo : j < off
  · rw [if_neg (by omega), dq (by omega)]
    unfold bt
    simp [List.getD, List.getElem?_take_of_lt hlo]
  · rw [du (by omega), h1]
    by_cases hhi : j < off + x.length
    · rw [if_pos (by omega), dq (by omega)]
    · rw [if_neg (by omega), du (by omega)]
      unfold bt
      simp only [List.getD, List.getElem?_drop]
      rw [show off + x.length + (j - off - x.length) = j from by omega]
theorem maySize_yes (s : Int) (w : World) (h1 : 1 ≤ s) (h2 : s ≤ 8) : Calls Tryz.prog 147 #[.int .i64 s] w fun e w' => e = .returned (.bool true) ∧ w = w' := by
  go_enter Tryz.func147, Tryz.ntmps147
  go_wp2
  go_ret
  exact ⟨rfl, rfl⟩
def fitB (n k : Nat) : Bool := decide (n < 2 ^ k)
theorem fits_any (n : Nat) (c : Int) (w : World) (h0 : 0 ≤ c) (h64 : c ≤ 64) : Calls Tryz.prog 148 #[.int .u64 n, .int .i64 c] w fun e w' => e = .returned (.bool (fitB n c.toNat)) ∧ w = w' := by
  obtain ⟨k, rfl⟩ := Int.eq_ofNat_of_zero_le h0
  rw [Int.toNat_natCast]
  go_enter Tryz.func148, Tryz.ntmps148
  go_wp2
  go_ret
  refine ⟨aO ?_, rfl⟩
  have e : ((n : Int) / 2 ^ k) = ((n / 2 ^ k : Nat) : Int) := by simp
  rw [e]
  unfold fitB
  have h2 : 0 < 2 ^ k := Nat.pow_pos (by omega)
  rw [Bool.eq_iff_iff]
  simp only [beq_iff_eq, decide_eq_true_eq]
  rw [← Nat.div_eq_zero_iff_lt h2]
  omega
theorem bt_digL8 (n k j : Nat) (h : j < k) : bt (aC 8 k n) j = (n : Int) / 2 ^ (j * 8) % 256 := by
  have hl : j < (aC 8 k n).length := by rw [ar]; exact h
  rw [cp hl, et (by omega) hl, Nat.mul_comm 8 j]
  simp
theorem put_ok (n k : Nat) (w : World) (h1 : 1 ≤ k) (h2 : k ≤ 8) (hn : n < 256 ^ k) :
    Calls Tryz.prog 137 #[.int .u64 n, .int .i64 k] w fun e w' => ∃ v, e = .returned (.tuple #[v, .int .i64 0]) ∧ Own w' w.heap.size v (aC 8 k n) ∧ Below w.heap.size w w' := by
  have hf : fitB n (k * 8) = true := by
    have e : (2 : Nat) ^ (k * 8) = 256 ^ k := by rw [Nat.mul_comm, Nat.pow_mul]
    unfold fitB
    rw [e]
    simpa using hn
  have HF := Lib.hid hf
  clear hf
  have hmk := fun (kl kc : IntKind) (m : Nat) (h1 : 1 * m ≤ 281474976710656) (h2 : m ≤ 9223372036854775807) (W : World) => run_make_row' (P := Tryz.prog) 100 5 (.int .u8 0) 1 Tryz.underlying100 u8info rfl kl kc m h1 h2 W
  have hmk1 := hmk .i64 .i64 k (by omega) (by omega)
  clear hmk
  go_enter Tryz.func137, Tryz.ntmps137
  go_wp2_with (first | (go_at_call 147; refine (maySize_yes _ _ (by omega) (by omega)).mono ?_; rintro e w' ⟨rfl, rfl⟩))
  refine (fits_any _ _ _ (by omega) (by omega)).mono ?_
  rintro e w' ⟨rfl, rfl⟩
  rw [show ((k : Int) * 8).toNat = k * 8 from by omega, HF.out]
  go_wp2
  clear hmk1
  have hr0 := World.rowIs_made w (Value.int .u8 0) k 5
  obtain ⟨g, hg⟩ : ∃ g, g = w.heap.size := ⟨_, rfl⟩
  rw [← hg] at hr0 ⊢
  have hbl0 : Below g w (w.alloc (.cells (madeCells #[Value.int .u8 0] k) 5)) := by rw [hg]; exact (Below.refl _ _).alloc (Nat.le_refl _) _
  have HG := Lib.hid hg
  clear hg HF
  go_loopw [21] (fun i wr => ∃ (j : Nat) (f : Nat → Int), j ≤ k ∧ i = .int .i64 j ∧ wr.rowIs g 5 k (fun j => .int .u8 (f j)) ∧ (∀ m, m < j → f m = bt (aC 8 k n) m) ∧ (∀ m, 0 ≤ f m ∧ f m ≤ 255) ∧ Below g w wr) (fun i _ => k - (intOf i).toNat)
  case atStart => exact ⟨0, fun _ => 0, Nat.zero_le _, rfl, hr0, fun j hj => absurd hj (by omega), fun _ => by simp, hbl0⟩
  case round =>
    obtain ⟨j, f, hj, rfl, hrow, hf, hr, hbl⟩ := hrel
    by_cases hlt : j < k
    · have hc := hrow.cell hlt
      have hfr := hrow.frozen j
      have HFF := Lib.hid hf
      have HR := Lib.hid hr
      clear hf hr
      go_wp2
      go_roundw
      case rel =>
        refine ⟨j + 1, _, by omega, by go_num, (hrow.set j _).congr (g := fun m => .int .u8 (if m = j then bt (aC 8 k n) j else f m)) ?_, ?_, ?_, hbl.setCell (Nat.le_refl _) _⟩
        · intro m hm
          show (if m = j then Value.int IntKind.u8 (↑n / 2 ^ (j * 8) % 256) else Value.int .u8 (f m)) = _
          split
          · rw [bt_digL8 n k j hlt]
          · rfl
        · intro m hm
          show (if m = j then bt (aC 8 k n) j else f m) = _
          split
          · subst m; rfl
          · exact HFF.out m (by omega)
        · intro m
          show 0 ≤ (if m = j then bt (aC 8 k n) j else f m) ∧ (if m = j then bt (aC 8 k n) j else f m) ≤ 255
          split
          · exact ⟨bt_lo _ _, bt_hi _ _⟩
          · exact HR.out m
      case measure => simp [intOf]; omega
    · go_wp2
      go_ret2
      have hjk : j = k := by omega
      subst hjk
      refine ⟨_, rfl, Own.of_row (ar 8 j n) (Nat.le_of_eq HG.out.symm) hrow (Nat.le_refl _) (by unfold maxLen; omega) hf hr, ?_⟩
      rw [← HG.out]
      exact hbl
theorem val_piece_succ {b : List UInt8} {p k : Nat} (h : p + k < b.length) : (val 8 (piece b p (k + 1)) : Int) = val 8 (piece b p k) + 2 ^ (k * 8) * bt b (p + k) := by
  have hk : k < (b.drop p).length := by simp; omega
  have e : piece b p (k + 1) = piece b p k ++ [b[p + k]] := by
    unfold piece
    rw [List.take_succ_eq_append_getElem hk]
    simp
  rw [e, val_append, bJ (by omega), cp h, Nat.mul_comm 8 k]
  rw [val_one]
  push_cast
  rfl
theorem val_piece_head {b : List UInt8} {p k : Nat} (h : p < b.length) : (val 8 (piece b p (k + 1)) : Int) = 256 * val 8 (piece b (p + 1) k) + bt b p := by
  have e : piece b p (k + 1) = b[p] :: piece b (p + 1) k := by
    unfold piece
    rw [List.drop_eq_getElem_cons h, List.take_succ_cons]
  rw [e, val, cp h, show (2 : Nat) ^ 8 = 256 from rfl]
  omega
theorem ci {b : List UInt8} {p k : Nat} (h : p + k ≤ b.length) : val 8 (piece b p k) < 2 ^ (k * 8) := by
  have := val_lt (all_256 (piece b p k))
  rwa [bJ h, Nat.mul_comm] at this
theorem shl_fits {s : Nat} (x : Nat) (h1 : x ≤ 255) (hs : s ≤ 56) : x * 2 ^ s ≤ 18446744073709551615 := by
  have h2 : 2 ^ s ≤ 2 ^ 56 := Nat.pow_le_pow_right (by omega) hs
  have h3 : x * 2 ^ s ≤ 255 * 2 ^ 56 := Nat.mul_le_mul h1 h2
  omega
theorem or_shl {V s : Nat} {x : Int} (h0 : 0 ≤ x) (h1 : x ≤ 255) (hs : s ≤ 56) (hV : V < 2 ^ s) :
    bits .or .u64 (V : Int) (IntKind.u64.wrap (x * 2 ^ s)) = V + 2 ^ s * x := by
  obtain ⟨m, rfl⟩ := Int.eq_ofNat_of_zero_le h0
  have hf := shl_fits (s := s) m (by omega) hs
  have hV' : V < 18446744073709551616 := by
    have h2 : 2 ^ s ≤ 2 ^ 56 := Nat.pow_le_pow_right (by omega) hs
    omega
  have e : ((m : Int) * 2 ^ s) = ((m * 2 ^ s : Nat) : Int) := by push_cast; rfl
  rw [e, IntWalk.u64_in _ ⟨by omega, by omega⟩, u64_or_nat V _ hV' (by omega), Nat.or_comm, nat_join s _ _ (Nat.mul_mod_left m (2 ^ s)) hV]
  push_cast
  rw [Int.mul_comm (2 ^ s) (m : Int), Int.add_comm]
theorem get_ok (A : Option Addr) (n c N : Nat) (b : List UInt8) (p k : Nat) (w : World) (hb : Rd w N A n b) (hn : n ≤ maxLen) (h1 : 1 ≤ k) (h2 : k ≤ 8) (h3 : p + k ≤ n) :
    Calls Tryz.prog 161 #[.slice A n c, .int .i64 p, .int .i64 k] w fun e w' => e = .returned (.tuple #[.int .u64 (val 8 (piece b p k)), .int .i64 0]) ∧ w = w' := by
  unfold maxLen at hn
  go_enter Tryz.func161, Tryz.ntmps161
  go_wp2_with (first | (go_at_call 147; refine (maySize_yes _ _ (by omega) (by omega)).mono ?_; rintro e w' ⟨rfl, rfl⟩))
  go_loop [8, 30] (fun x i => ∃ j : Nat, j ≤ k ∧ i = .int .i64 j ∧ x = .int .u64 (val 8 (piece b p j))) (fun _ i => k - (intOf i).toNat)
  case atStart => exact ⟨0, Nat.zero_le _, rfl, by simp [piece, val]⟩
  case round =>
    obtain ⟨j, hj, rfl, rfl⟩ := hrel
    by_cases hlt : j < k
    · obtain ⟨bA, oA, rfl, hA, cA⟩ := hb.2 (p + j) (by omega)
      have hlo := bt_lo b (p + j)
      have hhi := bt_hi b (p + j)
      go_wp2
      go_round
      case rel =>
        refine ⟨j + 1, by omega, by go_num, ?_⟩
        rw [val_piece_succ (by have := hb.1; omega), or_shl hlo hhi (by omega) (ci (by have := hb.1; omega))]
      case measure => simp [intOf]; omega
    · go_wp2
      go_ret2
      have e : j = k := by omega
      subst e
      exact ⟨rfl, rfl⟩
theorem mul256_fits {V j : Nat} (h : V < 2 ^ (j * 8)) (hj : j ≤ 7) : 256 * V + 255 ≤ 18446744073709551615 := by
  have h2 : 2 ^ (j * 8) ≤ 2 ^ 56 := Nat.pow_le_pow_right (by omega) (by omega)
  omega
theorem dc (A : Option Addr) (n c N : Nat) (b : List UInt8) (p k : Nat) (w : World) (hb : Rd w N A n b) (hn : n ≤ maxLen) (h1 : 1 ≤ k) (h2 : k ≤ 8) (h3 : p + k ≤ n) :
    Calls Tryz.prog 92 #[.slice A n c, .int .i64 p, .int .i64 k] w fun e w' => e = .returned (.tuple #[.int .u64 (val 8 (piece b p k)), .int .i64 0]) ∧ w = w' := by
  unfold maxLen at hn
  go_enter Tryz.func92, Tryz.ntmps92
  go_wp2
  go_loop [8, 9] (fun x i => ∃ j : Nat, j ≤ k ∧ i = .int .i64 ((j : Int) - 1) ∧ x = .int .u64 (val 8 (piece b (p + j) (k - j)))) (fun _ i => (intOf i + 1).toNat)
  case atStart => exact ⟨k, Nat.le_refl _, rfl, by simp [piece, val]⟩
  case round =>
    obtain ⟨j, hj, rfl, rfl⟩ := hrel
    by_cases hlt : 0 < j
    · obtain ⟨i, rfl⟩ : ∃ i, j = i + 1 := ⟨j - 1, by omega⟩
      obtain ⟨bA, oA, rfl, hA, cA⟩ := hb.2 (p + i) (by omega)
      have hlo := bt_lo b (p + i)
      have hhi := bt_hi b (p + i)
      have hv := ci (b := b) (p := p + (i + 1)) (k := k - (i + 1)) (by have := hb.1; omega)
      have hv2 := mul256_fits hv (by omega)
      clear hv
      rw [show ((i + 1 : Nat) : Int) - 1 = (i : Int) from by omega]
      go_wp2
      go_round
      case rel =>
        refine ⟨i, by omega, rfl, ?_⟩
        have h3 := val_piece_head (b := b) (p := p + i) (k := k - (i + 1)) (by have := hb.1; omega)
        rw [show k - (i + 1) + 1 = k - i from by omega] at h3
        rw [h3, Nat.add_assoc]
      case measure => simp [intOf]
    · have e : j = 0 := by omega
      subst e
      go_wp2
      go_ret2
      exact ⟨rfl, rfl⟩
set_option maxHeartbeats 800000 in
theorem rput_any (n k B : Nat) (w : World) (HB : Hid (B = w.heap.size)) (hn : n < 18446744073709551616) (h1 : 1 ≤ k) (h2 : k ≤ 8) :
    Calls Tryz.prog 120 #[.int .u64 n, .int .i64 k] w fun e w' =>
      ((n < 2 ^ (8 * k) → ∃ v, e = .returned (.tuple #[v, .int .i64 0]) ∧ Made w' B v (aC 8 k n)) ∧ (¬ n < 2 ^ (8 * k) → e = .returned (.tuple #[.slice none 0 0, .int .i64 2]))) ∧ Below B w w' := by
  obtain ⟨i0, hi, hz0, hz1, hz2⟩ := info_parts u8info
  go_enter Tryz.func120, Tryz.ntmps120
  go_wp2
  have hBle : B ≤ w.heap.size := Nat.le_of_eq HB.out
  go_loopw [0, 6, 7] (fun x v i wr => ∃ j : Nat, j ≤ k ∧ i = .int .i64 j ∧ x = .int .u64 ((n / 2 ^ (8 * j) : Nat) : Int) ∧ Made wr B v (aC 8 j n) ∧ Below B w wr) (fun _ _ i _ => k - (intOf i).toNat)
  case atStart => exact ⟨0, Nat.zero_le _, rfl, by simp, World.ownsRow_nil _ _ _ _, Below.refl _ _⟩
  case round =>
    obtain ⟨j, hj, rfl, rfl, hm, hbl⟩ := hrel
    by_cases hlt : j < k
    · have hown := hm.own (ar 8 j n)
      have hsz : B ≤ wr.heap.size := Nat.le_trans hBle hbl.size
      have hq : n / 2 ^ (8 * j) ≤ n := Nat.div_le_self _ _
      have hm' := Lib.hid hm
      have hE : Hid (n / 2 ^ (8 * (j + 1)) = n / 2 ^ (8 * j) / 256 ∧ aC 8 (j + 1) n = aC 8 j n ++ [UInt8.ofNat (n / 2 ^ (8 * j) % 256)]) := ⟨by rw [Nat.div_div_eq_div_mul, Nat.mul_succ, Nat.pow_add], eB 8 j n⟩
      clear hm
      generalize n / 2 ^ (8 * j) = q at *
      go_wp2_with (at_builtin; refine wpList_append_own _ rfl _ _ 100 rfl B 5 i0 (.int .u8 0) 1 1 Tryz.underlying100 hi hz0 hz1 hz2 rfl (by decide) _ _ _ rfl (hown.alloc _) ⟨wr.heap.size, 0, none⟩ 1 1 [.int .u8 ((q : Int) % 256)] rfl rfl ?c1 ?c2 ?c3 ?c4 ?c5 ?_)
      case c1 => exact cell_one_new _ _ _
      case c2 => intro u hu; simp at hu; subst hu; rfl
      case c3 => unfold maxLen; omega
      case c4 => omega
      case c5 => simp; omega
      intro v' w1 hown1 hg1 _
      have hx : ((q : Int) % 256) = ((UInt8.ofNat (q % 256)).toNat : Int) := by rw [UInt8.toNat_ofNat']; omega
      obtain ⟨hm1, hb1⟩ := Made.push (hm'.out) hbl hsz hx hown1 hg1
      have hm1' := Lib.hid hm1
      clear hm1 hown1 hg1 hown hx hm'
      go_wp2
      go_roundw
      case rel =>
        refine ⟨j + 1, by omega, by go_num, ?_, ?_, hb1⟩
        · rw [hE.out.1]; simp
        · rw [hE.out.2]; exact hm1'.out
      case measure => simp [intOf]; omega
    · have e : j = k := by omega
      subst e
      have h0 : 0 < 2 ^ (8 * j) := Nat.pow_pos (by omega)
      by_cases hq : n < 2 ^ (8 * j)
      · rw [Nat.div_eq_of_lt hq]
        go_wp2
        go_ret2
        exact ⟨⟨fun _ => ⟨_, rfl, hm⟩, fun h => absurd hq h⟩, hbl⟩
      · have hq0 : 0 < n / 2 ^ (8 * j) := Nat.div_pos (by omega) h0
        generalize n / 2 ^ (8 * j) = q at *
        go_wp2
        go_ret2
        exact ⟨⟨fun h => absurd h hq, fun _ => rfl⟩, hbl⟩
def cW (b : List UInt8) : List UInt8 := b ++ List.replicate (44 - b.length) 0
def cx (n : Nat) (b : List UInt8) : List UInt8 := aC 8 8 n ++ cW b
def co (n : Nat) (b : List UInt8) : List UInt8 := cx n b ++ (aC 8 4 (more 0 (cx n b)) ++ aC 8 8 n)
theorem dk {b : List UInt8} (h : b.length ≤ 44) : (cW b).length = 44 := by simp [cW]; omega
theorem df {b : List UInt8} (n : Nat) (h : b.length ≤ 44) : (cx n b).length = 52 := by simp [cx, ar, dk h]
theorem ew {b : List UInt8} (n : Nat) (h : b.length ≤ 44) : (co n b).length = 64 := by simp [co, ar, df n h]
def cQ (l : List UInt8) : Nat := val 8 (piece l 0 8)
def agO (l : List UInt8) : Nat := val 8 (piece l 56 8)
def sumO (l : List UInt8) : Nat := val 8 (piece l 52 4)
def crcO (l : List UInt8) : Nat := more 0 (piece l 0 52)
def cr (l : List UInt8) : Nat := if cQ l = 0 ∨ cQ l ≠ agO l then 5 else if sumO l ≠ crcO l then 6 else 0
def cq (l : List UInt8) : Nat := if cr l = 0 then cQ l else 0
def bW (l : List UInt8) : List UInt8 := if cr l = 0 then piece l 8 44 else []
theorem getE_form {l : List UInt8} (h : cQ l = 0 ∨ cQ l ≠ agO l) : cr l = 5 := by unfold cr; rw [if_pos h]
theorem getE_sum {l : List UInt8} (h0 : cQ l ≠ 0) (h1 : cQ l = agO l) (h : sumO l ≠ crcO l) : cr l = 6 := by
  unfold cr
  rw [if_neg (by omega), if_pos h]
theorem getE_ok {l : List UInt8} (h0 : cQ l ≠ 0) (h1 : cQ l = agO l) (h : sumO l = crcO l) : cr l = 0 := by
  unfold cr
  rw [if_neg (by omega), if_neg (by omega)]
theorem of_getE {l : List UInt8} (h : cr l = 0) : cQ l ≠ 0 ∧ cQ l = agO l ∧ sumO l = crcO l := by
  unfold cr at h
  split at h
  · omega
  · split at h
    · omega
    · omega
theorem getN_of {l : List UInt8} (h : cr l = 0) : cq l = cQ l := if_pos h
theorem getN_no {l : List UInt8} (h : cr l ≠ 0) : cq l = 0 := if_neg h
theorem getB_of {l : List UInt8} (h : cr l = 0) : bW l = piece l 8 44 := if_pos h
theorem getB_no {l : List UInt8} (h : cr l ≠ 0) : bW l = [] := if_neg h
theorem getN_zero {l : List UInt8} : cq l = 0 ↔ cr l ≠ 0 := by
  constructor
  · intro h e
    rw [getN_of e] at h
    exact (of_getE e).1 h
  · exact getN_no
theorem numO_lt {l : List UInt8} (h : l.length = 64) : cQ l < 18446744073709551616 := ci (b := l) (p := 0) (k := 8) (by omega)
theorem sumO_lt {l : List UInt8} (h : l.length = 64) : sumO l < 4294967296 := ci (b := l) (p := 52) (k := 4) (by omega)
theorem crcO_lt (l : List UInt8) : crcO l < 4294967296 := more_lt (by omega) _
theorem getN_lt {l : List UInt8} (h : l.length = 64) : cq l < 18446744073709551616 := by
  have := numO_lt h
  unfold cq
  split <;> omega
theorem seal_first (n : Nat) (b : List UInt8) : piece (co n b) 0 8 = aC 8 8 n := by
  rw [show co n b = aC 8 8 n ++ (cW b ++ (aC 8 4 (more 0 (cx n b)) ++ aC 8 8 n)) from by simp [co, cx]]
  exact piece_head _ _ (ar _ _ _)
theorem seal_num {n : Nat} {b : List UInt8} (hn : n < 18446744073709551616) : cQ (co n b) = n := by
  unfold cQ
  rw [seal_first, val_digL (by omega)]
  exact Nat.mod_eq_of_lt hn
section
variable {n : Nat} {b : List UInt8} (hb : b.length ≤ 44)
include hb
theorem seal_last : piece (co n b) 56 8 = aC 8 8 n := by
  rw [show co n b = (cx n b ++ aC 8 4 (more 0 (cx n b))) ++ (aC 8 8 n ++ []) from by simp [co]]
  exact piece_mid _ _ _ (by simp [df n hb, ar]) (ar _ _ _)
theorem seal_sum : piece (co n b) 52 4 = aC 8 4 (more 0 (cx n b)) := piece_mid _ _ _ (df n hb) (ar _ _ _)
theorem seal_head : piece (co n b) 0 52 = cx n b := piece_head _ _ (df n hb)
theorem seal_body : piece (co n b) 8 44 = cW b := by
  rw [show co n b = aC 8 8 n ++ (cW b ++ (aC 8 4 (more 0 (cx n b)) ++ aC 8 8 n)) from by simp [co, cx]]
  exact piece_mid _ _ _ (ar _ _ _) (dk hb)
theorem seal_ag (hn : n < 18446744073709551616) : agO (co n b) = n := by
  unfold agO
  rw [seal_last hb, val_digL (by omega)]
  exact Nat.mod_eq_of_lt hn
theorem seal_ok (hn : n < 18446744073709551616) (h0 : n ≠ 0) : cr (co n b) = 0 := by
  refine getE_ok (by rw [seal_num hn]; exact h0) (by rw [seal_num hn, seal_ag hb hn]) ?_
  unfold sumO crcO
  rw [seal_sum hb, seal_head hb, val_digL (by omega)]
  exact Nat.mod_eq_of_lt (more_lt (by omega) _)
theorem seal_getN (hn : n < 18446744073709551616) (h0 : n ≠ 0) : cq (co n b) = n := by rw [getN_of (seal_ok hb hn h0), seal_num hn]
theorem seal_getB (hn : n < 18446744073709551616) (h0 : n ≠ 0) : bW (co n b) = cW b := by rw [getB_of (seal_ok hb hn h0), seal_body hb]
end
def putE (n : Nat) (b : List UInt8) : Nat := if n = 0 then 2 else if 44 < b.length then 3 else 0
def cX (n : Nat) (b : List UInt8) : Blk := if putE n b = 0 then ofL (co n b) else au
theorem putE_ok {n : Nat} {b : List UInt8} (h0 : n ≠ 0) (hb : b.length ≤ 44) : putE n b = 0 := by unfold putE; rw [if_neg h0, if_neg (by omega)]
theorem of_putE {n : Nat} {b : List UInt8} (h : putE n b = 0) : n ≠ 0 ∧ b.length ≤ 44 := by
  unfold putE at h
  split at h
  · omega
  · split at h <;> omega
theorem putB_ok {n : Nat} {b : List UInt8} (h : putE n b = 0) : cX n b = ofL (co n b) := if_pos h
theorem putB_list {n : Nat} {b : List UInt8} (h : putE n b = 0) : (cX n b).toList = co n b := by
  rw [putB_ok h, toList_ofL (ew n (of_putE h).2)]
theorem put_getE {n : Nat} {b : List UInt8} (hn : n < 18446744073709551616) (h : putE n b = 0) : cr (cX n b).toList = 0 := by
  rw [putB_list h]; exact seal_ok (of_putE h).2 hn (of_putE h).1
theorem put_getN {n : Nat} {b : List UInt8} (hn : n < 18446744073709551616) (h : putE n b = 0) : cq (cX n b).toList = n := by
  rw [putB_list h]; exact seal_getN (of_putE h).2 hn (of_putE h).1
theorem put_getB {n : Nat} {b : List UInt8} (hn : n < 18446744073709551616) (h : putE n b = 0) : bW (cX n b).toList = cW b := by
  rw [putB_list h]; exact seal_getB (of_putE h).2 hn (of_putE h).1
theorem zero_getE : cr au.toList = 5 := getE_form (.inl (by decide +kernel))
def evB (n : Nat) : Bool := decide (1 ≤ n ∧ n ≤ 4611686018427387904)
theorem of_evB {n : Nat} (h : evB n = true) : 1 ≤ n ∧ n ≤ 4611686018427387904 := of_decide_eq_true h
theorem padL_full {b : List UInt8} (h : b.length = 44) : cW b = b := by simp [cW, h]
theorem headL_pad {b : List UInt8} (n : Nat) (h : b.length ≤ 44) : cx n (cW b) = cx n b := by unfold cx; rw [padL_full (dk h)]
theorem sealL_pad {b : List UInt8} (n : Nat) (h : b.length ≤ 44) : co n (cW b) = co n b := by unfold co; rw [headL_pad n h]
theorem val_dig {k n : Nat} (h : n < 2 ^ (8 * k)) : val 8 (aC 8 k n) = n := by rw [val_digL (by omega), Nat.mod_eq_of_lt h]
theorem piece_cat (l : List UInt8) (p a b : Nat) : piece l p a ++ piece l (p + a) b = piece l p (a + b) := by
  unfold piece
  rw [List.take_add, List.drop_drop]
theorem dig_piece {l : List UInt8} {p k : Nat} (h : p + k ≤ l.length) : aC 8 k (val 8 (piece l p k)) = piece l p k := by
  have := digL_val (all_256 (piece l p k))
  rwa [bJ h] at this
theorem seal_back {l : List UInt8} (hl : l.length = 64) (h : cr l = 0) : co (cQ l) (piece l 8 44) = l := by
  obtain ⟨_, h1, h2⟩ := of_getE h
  have e1 : aC 8 8 (cQ l) = piece l 0 8 := dig_piece (by omega)
  have e2 : cx (cQ l) (piece l 8 44) = piece l 0 52 := by
    unfold cx
    rw [e1, padL_full (bJ (by omega))]
    exact piece_cat l 0 8 44
  have e3 : aC 8 4 (more 0 (piece l 0 52)) = piece l 52 4 := by
    have : more 0 (piece l 0 52) = val 8 (piece l 52 4) := h2.symm
    rw [this]
    exact dig_piece (by omega)
  have e4 : aC 8 8 (cQ l) = piece l 56 8 := by rw [h1]; exact dig_piece (by omega)
  unfold co
  rw [e2, e3, e4, piece_cat l 52 4 8, piece_cat l 0 52 12]
  unfold piece
  rw [List.drop_zero, List.take_of_length_le (by omega)]
theorem getN_lt64 (b : Blk) : cq b.toList < 18446744073709551616 := getN_lt (by simp)
theorem dB {b : Blk} (h : cr b.toList = 0) : (bW b.toList).length = 44 := by rw [getB_of h]; exact bJ (by simp)
theorem blk_back {b : Blk} (h : cr b.toList = 0) : ofL (co (cq b.toList) (bW b.toList)) = b := by
  rw [getN_of h, getB_of h, seal_back (by simp) h, ofL_toList]
structure Ros where
  m : Int
  s : Int
  r : Int
  st : Vector UInt8 16
  cur : Int
  gone : Bool
deriving DecidableEq
def aZ : Ros := ⟨0, 0, 0, Vector.replicate 16 0, 0, false⟩
def sta (x : Ros) (j : Nat) : Int := bt x.st.toList j
def healK (l : List UInt8) : Nat → Nat
  | 0 => 0
  | k + 1 => healK l k + (if bt l k = 2 then 1 else 0)
def cF (x : Ros) : Nat := healK x.st.toList 16
theorem healK_le (l : List UInt8) (k : Nat) : healK l k ≤ k := by
  induction k with
  | zero => exact Nat.le_refl _
  | succ k ih => unfold healK; split <;> omega
def geoB (x : Ros) : Bool := decide (3 ≤ x.m ∧ x.m ≤ 16 ∧ 1 ≤ x.s ∧ x.s ≤ 64 ∧ 40 ≤ x.r ∧ x.r ≤ 256)
def staB (x : Ros) : Bool := (List.range 16).all fun j => decide (sta x j ≤ 2) && (!decide (x.m ≤ (j : Int)) || decide (sta x j = 0))
theorem staB_iff {x : Ros} : staB x = true ↔ ((∀ j, j < 16 → sta x j ≤ 2) ∧ (∀ j : Nat, j < 16 → x.m ≤ (j : Int) → sta x j = 0)) := by
  unfold staB
  simp only [List.all_eq_true, List.mem_range, Bool.and_eq_true, decide_eq_true_eq, Bool.or_eq_true, Bool.not_eq_true', decide_eq_false_iff_not]
  constructor
  · exact fun h => ⟨fun j hj => (h j hj).1, fun j hj hm => (h j hj).2.elim (fun h2 => absurd hm h2) id⟩
  · rintro ⟨h1, h2⟩ j hj
    refine ⟨h1 j hj, ?_⟩
    by_cases hm : x.m ≤ (j : Int)
    · exact .inr (h2 j hj hm)
    · exact .inl hm
def aS (x : Ros) : Bool := geoB x && staB x && decide (cF x ≤ 1) && decide (0 ≤ x.cur ∧ x.cur < x.s ∧ (cF x = 1 ∨ x.cur = 0))
theorem dD {x : Ros} (h : geoB x = true) : 3 ≤ x.m ∧ x.m ≤ 16 ∧ 1 ≤ x.s ∧ x.s ≤ 64 ∧ 40 ≤ x.r ∧ x.r ≤ 256 := of_decide_eq_true h
theorem of_staB {x : Ros} (h : staB x = true) : (∀ j, j < 16 → sta x j ≤ 2) ∧ (∀ j : Nat, j < 16 → x.m ≤ (j : Int) → sta x j = 0) := staB_iff.1 h
theorem cT {x : Ros} (h : aS x = true) : geoB x = true ∧ staB x = true ∧ cF x ≤ 1 ∧ 0 ≤ x.cur ∧ x.cur < x.s ∧ (cF x = 1 ∨ x.cur = 0) := by
  unfold aS at h
  simp only [Bool.and_eq_true, decide_eq_true_eq] at h
  exact ⟨h.1.1.1, h.1.1.2, h.1.2, h.2⟩
theorem fineB_of {x : Ros} (h : geoB x = true ∧ staB x = true ∧ cF x ≤ 1 ∧ 0 ≤ x.cur ∧ x.cur < x.s ∧ (cF x = 1 ∨ x.cur = 0)) : aS x = true := by
  unfold aS
  simp only [Bool.and_eq_true, decide_eq_true_eq]
  exact ⟨⟨⟨h.1, h.2.1⟩, h.2.2.1⟩, h.2.2.2⟩
theorem eI {x : Ros} : geoB x = true ↔ (3 ≤ x.m ∧ x.m ≤ 16 ∧ 1 ≤ x.s ∧ x.s ≤ 64 ∧ 40 ≤ x.r ∧ x.r ≤ 256) := by unfold geoB; rw [decide_eq_true_iff]
theorem geoB_not {x : Ros} : geoB x = false ↔ ¬(3 ≤ x.m ∧ x.m ≤ 16 ∧ 1 ≤ x.s ∧ x.s ≤ 64 ∧ 40 ≤ x.r ∧ x.r ≤ 256) := by unfold geoB; rw [decide_eq_false_iff_not]
theorem healK_succ (l : List UInt8) (k : Nat) : healK l (k + 1) = healK l k + (if bt l k = 2 then 1 else 0) := rfl
def curB (x : Ros) : Bool := if cF x = 0 then decide (x.cur = 0) else decide (0 ≤ x.cur ∧ x.cur < x.s)
theorem fine_split (x : Ros) : aS x = (geoB x && ((staB x && decide (cF x ≤ 1)) && curB x)) := by
  unfold aS curB
  by_cases hg : geoB x = true
  · have hs := (eI.1 hg).2.2.1
    rw [hg, Bool.true_and, Bool.true_and]
    cases staB x
    · rfl
    · by_cases hh : cF x ≤ 1
      · rw [decide_eq_true hh]
        simp only [Bool.true_and]
        split
        · rw [decide_eq_decide]; omega
        · rw [decide_eq_decide]; omega
      · rw [decide_eq_false hh]; rfl
  · rw [Bool.eq_false_iff.2 hg]; rfl
theorem sta_no {x : Ros} {j : Nat} (hj : j < 16) (h : 2 < sta x j ∨ (x.m ≤ (j : Int) ∧ sta x j ≠ 0)) : aS x = false := by
  rw [Bool.eq_false_iff]
  intro hf
  obtain ⟨h1, h2⟩ := of_staB (cT hf).2.1
  rcases h with h | ⟨h, h'⟩
  · have := h1 j hj; omega
  · exact h' (h2 j hj h)
def ofSt (l : List UInt8) : Vector UInt8 16 := Vector.ofFn fun i => l.getD i.val 0
theorem dK {l : List UInt8} (h : l.length = 16) : (ofSt l).toList = l := by
  refine dl (by simp [h]) fun k hk => ?_
  have hk' : k < 16 := by simpa using hk
  rw [cp hk, cp (l := l) (by omega)]
  simp [ofSt, List.getD, List.getElem?_eq_getElem (show k < l.length by omega)]
theorem dp (v : Vector UInt8 16) : ofSt v.toList = v := by
  apply Vector.ext
  intro i hi
  simp [ofSt, List.getD]
theorem stL_length (v : Vector UInt8 16) : v.toList.length = 16 := by simp
theorem ros_ext {a b : Ros} (h1 : a.m = b.m ∧ a.s = b.s ∧ a.r = b.r) (h2 : a.st.toList = b.st.toList) (h3 : a.cur = b.cur) (h4 : a.gone = b.gone) : a = b := by
  obtain ⟨m, s, r, st, cur, gone⟩ := a
  obtain ⟨m', s', r', st', cur', gone'⟩ := b
  simp only at *
  obtain ⟨rfl, rfl, rfl⟩ := h1
  subst h3 h4
  have : st = st' := by rw [← dp st, h2, dp]
  rw [this]
end Go.Proofs.YtnliphgjcaippaaGreatDoor
