import Derived.Test.YtheponmdbmloaaaGreatDoorFsad
import Derived.Test.YtheponmdbmloaaaGreatDoorFsab
import Derived.Test.YtheponmdbmloaaaGreatDoorFsac
import Derived.Test.YtheponmdbmloaaaGreatDoorFsaa
import Derived.Laws.CopyOwn
import Derived.Laws.BitsAllLaws
import Derived.IntWalk
import Derived.Laws.AppendOwn
import Derived.Laws.AppendOwnNone
import Derived.Test.YtheponmdbmloaaaGreatDoorFsZ
namespace Go.Proofs.YtheponmdbmloaaaGreatDoor
open Go.RowKit
set_option linter.unusedVariables false
set_option maxRecDepth 100000
section
variable {D : Dev} {w w' : World} {p : Nat} {v : Value} {Fs : Nat → Nat → Prop} {ps : List Nat} {M : BenS}
set_option maxHeartbeats 2000000 in
theorem b_write_ask (n : Int) (x : Blk) (h : BenAt (bz D) w p v Fs ps M) {k : Nat} (hdk : M.bX = false) (hk : k < M.ds.length) (he : cE (M.ds.getD k bp).S (M.ds.getD k bp).g n ≠ 0) :
    Calls Tryz.prog 22 #[.pointer (some ⟨p, 0, none⟩), .int .i64 k, .int .i64 n, blk x] w fun e w' => e = .returned (.int .i64 (cE (M.ds.getD k bp).S (M.ds.getD k bp).g n)) ∧ Below w.heap.size w w' := by
  obtain ⟨y, hy⟩ : ∃ y, M.ds.getD k bp = y := ⟨_, rfl⟩
  obtain ⟨q, hq⟩ : ∃ q, ps.getD k 0 = q := ⟨_, rfl⟩
  have hA : Below w.heap.size w ((w.alloc (.cells #[.int .i64 n] 3)).alloc (.cells (cel x).toArray 38)) := ((Below.refl _ w).alloc (Nat.le_refl _) _).alloc (by rw [World.size_alloc]; omega) _
  have HO := Lib.hid (b_lit_ok (h.below hA) hdk hk)
  obtain ⟨hB, k0, k1, k2, hsz⟩ := wr3_facts w n x (some ⟨q, 0, none⟩)
  have hat := (h.below hB).devs.at_ k hk
  rw [hy, hq] at hat
  rw [hy] at he ⊢
  rw [hq] at HO
  have HD := Lib.hid (D.sure n hat)
  have HB := Lib.hid hB
  obtain ⟨c0, f0⟩ := one_cell k0
  obtain ⟨c2, f2⟩ := one_cell k2
  rcases askE_is (S := y.S) (g := y.g) (n := n) with e | e | ⟨e, _⟩
  rotate_right 1
  · exact absurd e he
  all_goals
    rw [e] at HD ⊢
    clear e he h hA hB k0 k1 k2 hat hy hq hdk
    go_enter Tryz.func22, Tryz.ntmps22
    unfold wr3 at *
    go_wp2_with (first | (refine ah rfl (bH rfl rfl) ?_) | fail)
    refine HO.out.mono ?_
    rintro e w1 ⟨rfl, rfl⟩
    go_wp2_with fail
    refine HD.out.mono ?_
    rintro e w2 ⟨rfl, hb⟩
    have HBB := Lib.hid (HB.out.trans (hb.mono (by rw [hsz]; omega)))
    clear hb
    go_wp2_with (first | (refine ah rfl (aU rfl) ?_) | (refine aX rfl (exec_fill rfl rfl rfl) ?_) | fail)
    go_ret
    exact ⟨rfl, HBB.out.alloc HBB.out.size _⟩
set_option maxHeartbeats 2000000 in
theorem b_write_do (n : Int) (x : Blk) (h : BenAt (bz D) w p v Fs ps M) {k : Nat} (hdk : M.bX = false) (hk : k < M.ds.length) (he : cE (M.ds.getD k bp).S (M.ds.getD k bp).g n = 0) (hs : M.steps < 1000000) (hll : M.left < 9223372036854775808) (hL : (M.ds.getD k bp).L.length < 1000000) :
    Calls Tryz.prog 22 #[.pointer (some ⟨p, 0, none⟩), .int .i64 k, .int .i64 n, blk x] w fun e w' => e = .returned (.int .i64 M.stepE) ∧ Left (bz D) w p v Fs ps M.ds.length (wrS6 M (k : Int) n x) w' := by
  obtain ⟨y, hy⟩ : ∃ y, M.ds.getD k bp = y := ⟨_, rfl⟩
  obtain ⟨q, hq⟩ : ∃ q, ps.getD k 0 = q := ⟨_, rfl⟩
  have hA : Below w.heap.size w ((w.alloc (.cells #[.int .i64 n] 3)).alloc (.cells (cel x).toArray 38)) := ((Below.refl _ w).alloc (Nat.le_refl _) _).alloc (by rw [World.size_alloc]; omega) _
  have HO := Lib.hid (b_lit_ok (h.below hA) hdk hk)
  obtain ⟨hB, k0, k1, k2, hsz⟩ := wr3_facts w n x (some ⟨q, 0, none⟩)
  have hat := (h.below hB).devs.at_ k hk
  have hr0 : bO M (k : Int) n = 0 := by unfold bO; rw [if_pos (litE_ok hdk hk), M.dev_nat]; exact he
  rw [hy, hq] at hat
  rw [hy] at he hL
  rw [hq] at HO
  have HD := Lib.hid (D.sure n hat)
  have HB := Lib.hid hB
  have HH := Lib.hid h
  have HK0 := Lib.hid k0
  have HK1 := Lib.hid k1
  have HK2 := Lib.hid k2
  have HE := Lib.hid he
  have HSS := Lib.hid hs
  have HLL := Lib.hid hll
  have HL := Lib.hid hL
  have HY := Lib.hid hy
  have HQ := Lib.hid hq
  have HR := Lib.hid hr0
  obtain ⟨c0, f0⟩ := one_cell k0
  obtain ⟨c2, f2⟩ := one_cell k2
  rw [he] at HD
  by_cases h1 : M.left = 1
  all_goals
    have H1 := Lib.hid h1
    clear h1 he h hA hB k0 k1 k2 hat hy hq hdk hs hll hL hr0
    go_enter Tryz.func22, Tryz.ntmps22
    unfold wr3 at *
    go_wp2_with (first | (refine ah rfl (bH rfl rfl) ?_) | fail)
    refine HO.out.mono ?_
    rintro e w1 ⟨rfl, rfl⟩
    go_wp2_with fail
    refine HD.out.mono ?_
    rintro e w2 ⟨rfl, hb⟩
    have hb2 := HB.out.trans (hb.mono (by rw [hsz]; omega))
    have HBB := Lib.hid (hb2.alloc hb2.size (.cells (cel (sureB y.S y.g n)).toArray 38))
    have HA0 := Lib.hid (aY (ao HK0.out hb) (.cells (cel (sureB y.S y.g n)).toArray 38))
    have HA1 := Lib.hid (aY (ao HK1.out hb) (.cells (cel (sureB y.S y.g n)).toArray 38))
    have HA2 := Lib.hid (aY (ao HK2.out hb) (.cells (cel (sureB y.S y.g n)).toArray 38))
    clear hb hb2 c0 c2 f0 f2 hsz
    generalize sureB y.S y.g n = z at *
    go_wp2_with (first | (refine ah rfl (aU rfl) ?_) | (refine aX rfl (exec_fill rfl rfl rfl) ?_) | fail)
    generalize w2.alloc (.cells (cel z).toArray 38) = w3 at *
  · refine (b_step_cut _ (HH.out.below HBB.out) H1.out).mono ?_
    rintro e w4 ⟨rfl, h4, ho4⟩
    go_wp2_with fail
    go_ret
    refine ⟨cl (by unfold BenS.stepE; rw [if_pos H1.out]), ?_⟩
    rw [show wrS6 M (k : Int) n x = M.night from by unfold wrS6; rw [if_pos HR.out, if_pos H1.out]]
    exact Left.above HBB.out (Left.obj h4 ho4 rfl)
  · refine (b_step_do 49 #[] _ (HH.out.below HBB.out) H1.out HSS.out HLL.out Tryz.call49 (fun z w4 => z = 0 ∧ Left (bz D) w3 p v Fs ps M.ds.length (wrS6 M (k : Int) n x) w4) ?_).mono ?_
    · intro w4 h4 ho4
      have hat4 := h4.devs.at_ k hk
      rw [show M.done.ds.getD k bp = y from HY.out, HQ.out] at hat4
      have hne : ∀ j, j < 3 → w.heap.size + j ≠ p := fun j _ e => by have := aH HH.out.at_; omega
      refine (b_clo hat4 HL.out (ho4.keep HA2.out (hne 2 (by omega))) (ho4.keep HA0.out (hne 0 (by omega))) (ho4.keep HA1.out (hne 1 (by omega)))).mono ?_
      rintro e w5 ⟨he5, F', g1, g2, g3⟩
      refine ⟨_, he5, HE.out, Left.behind ho4 (Left.turn h4 hk g2 g3 (d := ⟨y.S, wrL y.S y.L y.g n x, y.g⟩) (show D.Dv _ _ _ _ _ _ by rw [HQ.out]; exact g1) ?_)⟩
      unfold wrS6
      rw [if_pos HR.out, if_neg H1.out, show M.dev (k : Int) = y from HY.out]
      rfl
    · rintro e w5 ⟨z, rfl, rfl, hl5⟩
      have HL5 := Lib.hid (Left.above HBB.out hl5)
      clear hl5
      go_wp2_with fail
      go_ret
      exact ⟨cl (by unfold BenS.stepE; rw [if_neg H1.out]), HL5.out⟩
theorem b_write (d n : Int) (x : Blk) (h : BenAt (bz D) w p v Fs ps M) (hr : ∀ i, i < M.ds.length → (M.ds.getD i bp).L.length < 1000000) (hs : M.steps < 1000000) (hll : M.left < 9223372036854775808) :
    Calls Tryz.prog 22 #[.pointer (some ⟨p, 0, none⟩), .int .i64 d, .int .i64 n, blk x] w fun e w' => e = .returned (.int .i64 (wrE6 M d n)) ∧ Left (bz D) w p v Fs ps M.ds.length (wrS6 M d n x) w' := by
  by_cases h0 : litE M d = 0
  · rcases dp M d with ⟨e, _⟩ | ⟨e, _⟩ | ⟨e, hdk, k, rfl, hk⟩
    · omega
    · omega
    have hr0 : bO M (k : Int) n = cE (M.ds.getD k bp).S (M.ds.getD k bp).g n := by unfold bO; rw [if_pos e, M.dev_nat]
    by_cases he : cE (M.ds.getD k bp).S (M.ds.getD k bp).g n = 0
    · refine (b_write_do n x h hdk hk he hs hll (hr k hk)).mono ?_
      rintro e w' ⟨rfl, hl⟩
      exact ⟨by unfold wrE6; rw [hr0, if_pos he], hl⟩
    · refine (b_write_ask n x h hdk hk he).mono ?_
      rintro e w' ⟨rfl, hb⟩
      exact ⟨by unfold wrE6; rw [hr0, if_neg he], Left.below_ h hb (by unfold wrS6; rw [hr0, if_neg he])⟩
  · refine (b_write_lit d n x h h0).mono ?_
    rintro e w' ⟨rfl, hb⟩
    have hr0 : bO M d n = litE M d := by unfold bO; rw [if_neg h0]
    exact ⟨by unfold wrE6; rw [hr0, if_neg h0], Left.below_ h hb (by unfold wrS6; rw [hr0, if_neg h0])⟩
end
def newD (k : Int) : DevS := ⟨List.replicate k.toNat al, [], false⟩
theorem dS (ks : List Int) : (dj ks).ds = ks.map newD := rfl
structure Making (kd : BKind) (w wr : World) (v : Value) (Fs : Nat → Nat → Prop) (ps : List Nat) (ds : List DevS) (left : Nat) (bX : Bool) (steps : Nat) : Prop where
  at_ : wr.heap[w.heap.size]? = some (.cells (kd.cs v left bX steps) kd.o)
  row : aK kd.E wr w.heap.size v ps
  devs : Devs kd.K wr Fs ps ds
  apart : ∀ i, i < ds.length → ∀ b, Fs i b → w.heap.size < b ∧ v.ownBlock ≠ some b
  below : Below w.heap.size w wr
section
variable {kd : BKind} {w wr w1 w3 : World} {v v' : Value} {Fs : Nat → Nat → Prop} {F' : Nat → Prop} {ps : List Nat} {ds : List DevS} {p' : Nat} {d : DevS} {o2 : Obj} {left steps : Nat} {bX : Bool}
theorem Making.next (hcs : ∀ v v', (kd.cs v left bX steps).setIfInBounds 0 v' = kd.cs v' left bX steps) (h : Making kd w wr v Fs ps ds left bX steps) (hb1 : Below wr.heap.size wr w1) (hF : ∀ b, F' b → wr.heap.size ≤ b) (hd : kd.K.Dv w1 F' p' d.S d.L d.g)
    (hm : aK kd.E w3 w.heap.size v' (ps ++ [p'])) (hg : (w1.alloc o2).grownBy w3 v.ownBlock) (ho : ∀ x, v'.ownBlock = some x → v.ownBlock = some x ∨ w1.heap.size + 1 ≤ x) :
    Making kd w (w3.setCell ⟨w.heap.size, 0, none⟩ v') v' (upF Fs ds.length F') (ps ++ [p']) (ds ++ [d]) left bX steps := by
  have hx := aH h.at_
  have h1 := hb1.size
  have hsz : (w1.alloc o2).heap.size = w1.heap.size + 1 := World.size_alloc _ _
  have hvl : ∀ b, v.ownBlock = some b → b < wr.heap.size := h.row.own_lt
  have o3 : Only (fun b => v.ownBlock = some b) w1 w3 := (Only.of_below _ ((Below.refl _ w1).alloc (Nat.le_refl _) o2)).trans ((Only.refl (fun b => v.ownBlock = some b) _).grown hg fun k e => .inl e) fun b hb => .inl hb
  have hvx : v.ownBlock ≠ some w.heap.size := h.row.not_at h.at_ kd.ne
  have hat1 := ao h.at_ hb1
  have hat3 := o3.keep hat1 hvx
  have o4 : Only (fun b => b = w.heap.size ∨ v.ownBlock = some b) w1 (w3.setCell ⟨w.heap.size, 0, none⟩ v') := (o3.widen fun b hb => .inr hb).setCell (p := ⟨w.heap.size, 0, none⟩) (.inl (.inl rfl)) _
  have hv3 : v'.ownBlock ≠ some w.heap.size := hm.not_at hat3 kd.ne
  have hdv := h.devs.push hb1 hF hd
  have hap : ∀ i, i < (ds ++ [d]).length → ∀ b, upF Fs ds.length F' i b → w.heap.size < b ∧ v.ownBlock ≠ some b ∧ b < w1.heap.size := fun i hi b hb => by
    have hlt := hdv.lt i hi b hb
    rcases hb with ⟨e, hb⟩ | ⟨e, hb⟩
    · have := hF b hb
      exact ⟨by omega, fun e => by have := hvl b e; omega, hlt⟩
    · rw [List.length_append, List.length_singleton] at hi
      exact ⟨(h.apart i (by omega) b hb).1, (h.apart i (by omega) b hb).2, hlt⟩
  refine ⟨?_, hm.only (only_set w3 w.heap.size 0 v') fun b hb e => hv3 (by rw [hb, e]), hdv.only o4 fun i hi b hb e => ?_, fun i hi b hb => ⟨(hap i hi b hb).1, fun e => ?_⟩, ?_⟩
  · have := heap_setCell_same w3 w.heap.size 0 _ _ v' hat3
    rw [hcs] at this
    exact this
  · rcases e with e | e
    · have := (hap i hi b hb).1; omega
    · exact (hap i hi b hb).2.1 e
  · rcases ho b e with e | e
    · exact (hap i hi b hb).2.1 e
    · have := (hap i hi b hb).2.2; omega
  · have hb01 : Below w.heap.size w w1 := h.below.trans (hb1.mono h.below.size)
    refine hb01.trans (o4.below (fun b hb => ?_) hb01.size)
    rcases hb with e | e
    · omega
    · exact h.row.lt_own b e
theorem Making.done (h : Making kd w wr v Fs ps ds left bX steps) (h1 : 1 ≤ ds.length) (h2 : ds.length ≤ 17) : BenAt kd wr w.heap.size v Fs ps ⟨ds, left, bX, steps⟩ ∧ (∀ b, footB w.heap.size v Fs ds.length b → w.heap.size ≤ b) ∧ Below w.heap.size w wr :=
  ⟨⟨h.at_, h.row.base (Nat.zero_le _), h.devs, fun i hi b hb => ⟨by have := (h.apart i hi b hb).1; omega, (h.apart i hi b hb).2⟩, h1, h2⟩, fun b hb => by
    rcases hb with e | e | ⟨i, hi, e⟩
    · omega
    · exact h.row.lt_own b e
    · have := (h.apart i hi b e).1; omega, h.below⟩
end
def dc (kd : BKind) (w : World) (ks : List Int) (e : Ending) (w' : World) : Prop :=
  Below w.heap.size w w' ∧ ((newOk ks ∧ ∃ p v Fs ps, e = .returned (.tuple #[.pointer (some ⟨p, 0, none⟩), .int .i64 0]) ∧ BenAt kd w' p v Fs ps (dj ks) ∧ ∀ b, footB p v Fs (dj ks).ds.length b → w.heap.size ≤ b) ∨ (¬ newOk ks ∧ e = .returned (.tuple #[.pointer none, .int .i64 2])))
theorem dc.no {kd : BKind} {w w' : World} {ks : List Int} (hb : Below w.heap.size w w') (hn : ¬ newOk ks) {e : Ending} (he : e = .returned (.tuple #[.pointer none, .int .i64 2])) : dc kd w ks e w' := ⟨hb, .inr ⟨hn, he⟩⟩
theorem take_map_succ {ks : List Int} {j : Nat} (h : j < ks.length) : (ks.take (j + 1)).map newD = (ks.take j).map newD ++ [newD (ks.getD j 0)] := by
  rw [List.take_add_one, List.getD, List.getElem?_eq_getElem h, List.map_append]; rfl
section
variable {D : Dev} {w w' : World}
set_option maxHeartbeats 2000000 in
theorem b_new {A : Option Addr} {n c : Nat} {ks : List Int} (hl : RdE IntE w w.heap.size A n ks) (hnc : n ≤ c) (hc : c ≤ maxLen) :
    Calls Tryz.prog 14 #[.slice A n c] w (dc (bz D) w ks) := by
  have hlen : ks.length = n := hl.1
  unfold maxLen at hc
  by_cases h1 : n < 1
  · have HN := Lib.hid (show ¬ newOk ks from fun h => by have := h.1; omega)
    have h0 : n = 0 := by omega
    subst h0
    clear hl hlen h1
    go_enter Tryz.func14, Tryz.ntmps14
    go_wp2
    go_ret2
    exact dc.no (Below.refl _ _) HN.out rfl
  by_cases h2 : 17 < n
  · have HN := Lib.hid (show ¬ newOk ks from fun h => by have := h.2.1; omega)
    have h1' : ¬((n : Int) < 1) := by omega
    have h2' : ((n : Int) > 17) := by omega
    clear hl hlen h1 h2
    go_enter Tryz.func14, Tryz.ntmps14
    go_wp2
    go_ret2
    exact dc.no (Below.refl _ _) HN.out rfl
  have h1' : ¬((n : Int) < 1) := by omega
  have h2' : ¬((n : Int) > 17) := by omega
  have h3' : ¬(17 < (n : Int)) := by omega
  have HL := Lib.hid hl
  have HLEN := Lib.hid hlen
  have HMK := Lib.hid (show Making (bz D) w (w.alloc (.cells #[.slice none 0 0, .int .i64 0, .int .i64 0, .bool false] 81)) (.slice none 0 0) (fun _ _ => False) [] [] 0 false 0 from
    ⟨heap_alloc_new w _, aK.nil _ _, ⟨rfl, fun i hi => absurd hi (Nat.not_lt_zero i), fun i j hi => absurd hi (Nat.not_lt_zero i)⟩, fun i hi => absurd hi (Nat.not_lt_zero i), (Below.refl _ w).alloc (Nat.le_refl _) _⟩)
  clear hl hlen
  go_enter Tryz.func14, Tryz.ntmps14
  go_wp2_with fail
  generalize w.alloc (.cells #[.slice none 0 0, .int .i64 0, .int .i64 0, .bool false] 81) = w0 at *
  clear h1' h2' h3'
  go_loopw [21] (fun i wr => ∃ (j : Nat) (v : Value) (Fs : Nat → Nat → Prop) (ps : List Nat), j ≤ n ∧ i = .int .i64 j ∧ Making (bz D) w wr v Fs ps ((ks.take j).map newD) 0 false 0 ∧ ∀ q, q < j → 1 ≤ ks.getD q 0 ∧ ks.getD q 0 ≤ 512) (fun i _ => n - (intOf i).toNat)
  case atStart => exact ⟨0, _, _, _, Nat.zero_le _, rfl, HMK.out, fun q hq => absurd hq (Nat.not_lt_zero q)⟩
  case round =>
    obtain ⟨j, v, Fs, ps, hj, rfl, hmk, hall⟩ := hrel
    have HALL := Lib.hid hall
    clear hall HMK
    by_cases hlt : j < n
    · have hlj : (j : Int) < (n : Int) := by omega
      obtain ⟨bA, oA, rfl, hbA, hcA⟩ := (HL.out.below hmk.below).int hlt
      have HM := Lib.hid hmk
      obtain ⟨AS, cS, rfl, hs1, hs2⟩ := hmk.row.form
      unfold maxLen at hs2
      have hpl : ps.length = j := by have := hmk.devs.len; rw [List.length_map, List.length_take] at this; have := HLEN.out; omega
      have HPL := Lib.hid hpl
      obtain ⟨z, hz⟩ : ∃ z, ks.getD j 0 = z := ⟨_, rfl⟩
      rw [hz] at hcA
      have HZ := Lib.hid hz
      clear hmk hz hpl
      by_cases hok : 1 ≤ z ∧ z ≤ 512
      · obtain ⟨k, rfl⟩ : ∃ k : Nat, z = k := ⟨z.toNat, by omega⟩
        have hk1 : 1 ≤ k := by omega
        have hk2 : k ≤ 512 := by omega
        clear hok
        go_wp2_with fail
        refine (D.new_ok k wr hk1 hk2).mono ?_
        rintro e w1 ⟨p', F', rfl, hd1, hb1, hF1⟩
        have hat1 := ao HM.out.at_ hb1
        obtain ⟨c0, c1, c2, c3⟩ := cH hat1
        have hrow1 := HM.out.row.below hb1
        have hrow2 := hrow1.below ((Below.refl _ w1).alloc (Nat.le_refl _) (.cells ((bz D).E.cel p').toArray (bz D).E.t))
        have HR := Lib.hid hrow2
        have HNEW := Lib.hid (rdE_new (E := (bz D).E) (l := [p']) w1 ((bz D).E.cel p').toArray (bz D).E.t (by rw [dd]; simp [bK]))
        have HSZ := Lib.hid (show w.heap.size ≤ (w1.alloc (.cells ((bz D).E.cel p').toArray (bz D).E.t)).heap.size by rw [World.size_alloc]; have := HM.out.below.size; have := hb1.size; omega)
        have HD1 := Lib.hid hd1
        have HB1 := Lib.hid hb1
        have HF1 := Lib.hid hF1
        have HAT := Lib.hid hat1
        have HPS := Lib.hid (show ps.length + 1 ≤ 34359738368 by have := HPL.out; omega)
        clear hd1 hb1 hF1 hat1 hrow1 hrow2
        have hal : w.heap.size < w1.heap.size := aH HAT.out
        go_wp2_with (first | (refine ah rfl (dO (E := (bz D).E) (a := p') rfl rfl rfl (by decide)) ?_) | (at_builtin; refine wpList_appE_own (bz D).E rfl _ _ rfl w.heap.size _ _ _ _ ps [p'] _ rfl rfl HR.out HNEW.out HSZ.out HPS.out ?_) | fail)
        intro v' w3 hm3 hg3 ho3
        have hxv : v'.ownBlock ≠ some w.heap.size := fun e => by
          rcases ho3 _ e with e' | e'
          · exact HM.out.row.not_at HM.out.at_ (bz D).ne e'
          · omega
        have HNX := Lib.hid (HM.out.next (fun _ _ => rfl) HB1.out HF1.out (d := newD k) HD1.out hm3 hg3 ho3)
        have hvx : (Value.slice AS ps.length cS).ownBlock ≠ some w.heap.size := HM.out.row.not_at HM.out.at_ (bz D).ne
        have hat3 : w3.heap[w.heap.size]? = some _ := (hg3.block w.heap.size (by rw [World.size_alloc]; omega) (fun e => hvx e.symm)).trans (aY HAT.out _)
        obtain ⟨AV, cV, rfl, _, _⟩ := hm3.form
        obtain ⟨d0, d1, d2, d3⟩ := cH hat3
        have f0 := frozen_of_row w3 w.heap.size 0 _ _ hat3
        clear hm3 hg3 ho3 hat3 c0 c1 c2 c3
        go_wp2_with fail
        go_roundw
        case rel =>
          refine ⟨j + 1, .slice AV (ps.length + 1) cV, upF Fs (List.map newD (List.take j ks)).length F', ps ++ [p'], by omega, by go_num, ?_, fun q hq => ?_⟩
          · rw [take_map_succ (by have := HLEN.out; omega), HZ.out]
            have h6 := HNX.out
            rw [show (ps ++ [p']).length = ps.length + 1 from by simp] at h6
            exact h6
          · by_cases e : q = j
            · subst e; rw [HZ.out]; omega
            · exact HALL.out q (by omega)
        case measure => simp [intOf]; omega
      · have HB := Lib.hid HM.out.below
        have HN := Lib.hid (show ¬ newOk ks from fun h => hok (by have := h.2.2 z (by rw [← HZ.out]; exact getD_mem (by have := HLEN.out; omega)); exact this))
        go_wp2_with fail
        refine (D.new_no z wr hok).mono ?_
        rintro e w1 ⟨rfl, hb1⟩
        have HB1 := Lib.hid (HB.out.trans (hb1.mono HB.out.size))
        clear hb1 hok
        go_wp2_with fail
        go_ret2
        exact dc.no HB1.out HN.out rfl
    · have hjn : j = n := by omega
      subst hjn
      have hlj : ¬((j : Int) < (j : Int)) := by omega
      have HM := Lib.hid hmk
      clear hmk
      go_wp2_with fail
      go_ret2
      have h5 := HM.out
      have hLL := HLEN.out
      rw [← hLL, List.take_length] at h5
      obtain ⟨g1, g2, g3⟩ := h5.done (by rw [List.length_map]; omega) (by rw [List.length_map]; omega)
      refine ⟨g3, .inl ⟨⟨by omega, by omega, fun k hk => ?_⟩, _, _, _, _, rfl, g1, g2⟩⟩
      obtain ⟨i, hi, rfl⟩ := List.getElem_of_mem hk
      have := HALL.out i (by omega)
      rwa [List.getD_eq_getElem?_getD, List.getElem?_eq_getElem hi] at this
end
structure BIds where
  read : FuncId
  write : FuncId
  flush : FuncId
  fail : FuncId
  devices : FuncId
  cZ : FuncId
  bX : FuncId
structure BenS.Wf (M : BenS) : Prop where
  one : 1 ≤ M.ds.length
  cap : M.ds.length ≤ 17
  len : ∀ i, i < M.ds.length → 1 ≤ (M.ds.getD i bp).S.length ∧ (M.ds.getD i bp).S.length ≤ 512
structure Ben (I : BIds) where
  Bn : World → (Nat → Prop) → Nat → BenS → Prop
  lt : ∀ {w F p M}, Bn w F p M → ∀ b, F b → b < w.heap.size
  only : ∀ {w w' F G p M}, Bn w F p M → Only G w w' → (∀ b, F b → ¬ G b) → Bn w' F p M
  wf : ∀ {w F p M}, Bn w F p M → M.Wf
  read : ∀ {w F p M} (d n : Int), Bn w F p M → Calls Tryz.prog I.read #[.pointer (some ⟨p, 0, none⟩), .int .i64 d, .int .i64 n] w fun e w' => e = .returned (.tuple #[blk (rdB6 M d n), .int .i64 (bO M d n)]) ∧ Below w.heap.size w w'
  write : ∀ {w F p M} (d n : Int) (b : Blk), Room M 1 → Bn w F p M → Calls Tryz.prog I.write #[.pointer (some ⟨p, 0, none⟩), .int .i64 d, .int .i64 n, blk b] w fun e w' => e = .returned (.int .i64 (wrE6 M d n)) ∧ ∃ F', Bn w' F' p (wrS6 M d n b) ∧ Only F w w' ∧ Grow w F F'
  flush : ∀ {w F p M} (d : Int), Room M 1 → Bn w F p M → Calls Tryz.prog I.flush #[.pointer (some ⟨p, 0, none⟩), .int .i64 d] w fun e w' => e = .returned (.int .i64 (flE6 M d)) ∧ ∃ F', Bn w' F' p (flS6 M d) ∧ Only F w w' ∧ Grow w F F'
  fail : ∀ {w F p M} (d : Int), Bn w F p M → Calls Tryz.prog I.fail #[.pointer (some ⟨p, 0, none⟩), .int .i64 d] w fun e w' => e = .returned (.int .i64 (hasE M d)) ∧ ∃ F', Bn w' F' p (faS6 M d) ∧ Only F w w' ∧ Grow w F F'
  devices : ∀ {w F p M}, Bn w F p M → Calls Tryz.prog I.devices #[.pointer (some ⟨p, 0, none⟩)] w fun e w' => e = .returned (.int .i64 (M.ds.length : Int)) ∧ Below w.heap.size w w'
  cZ : ∀ {w F p M} (d : Int), Bn w F p M → Calls Tryz.prog I.cZ #[.pointer (some ⟨p, 0, none⟩), .int .i64 d] w fun e w' => e = .returned (.int .i64 (seN6 M d)) ∧ Below w.heap.size w w'
  bX : ∀ {w F p M}, Bn w F p M → Calls Tryz.prog I.bX #[.pointer (some ⟨p, 0, none⟩)] w fun e w' => e = .returned (.bool M.bX) ∧ Below w.heap.size w w'
theorem Ben.below {I : BIds} (R : Ben I) {w w' : World} {F : Nat → Prop} {p : Nat} {M : BenS} (h : R.Bn w F p M) (k : Below w.heap.size w w') : R.Bn w' F p M := R.only h (Only.of_below (fun _ => False) k) fun _ _ e => e
section
variable {k : BKind} {w w' : World} {F G : Nat → Prop} {p : Nat} {M M' : BenS}
def NewB (Bn : World → (Nat → Prop) → Nat → BenS → Prop) (w : World) (ks : List Int) (e : Ending) (w' : World) : Prop :=
  Below w.heap.size w w' ∧ ((newOk ks ∧ ∃ p F, e = .returned (.tuple #[.pointer (some ⟨p, 0, none⟩), .int .i64 0]) ∧ Bn w' F p (dj ks) ∧ ∀ b, F b → w.heap.size ≤ b) ∨ (¬ newOk ks ∧ e = .returned (.tuple #[.pointer none, .int .i64 2])))
def InB (k : BKind) (w : World) (F : Nat → Prop) (p : Nat) (M : BenS) : Prop := ∃ v Fs ps, F = footB p v Fs M.ds.length ∧ BenAt k w p v Fs ps M
theorem InB.lt (h : InB k w F p M) : ∀ b, F b → b < w.heap.size := by
  obtain ⟨v, Fs, ps, rfl, h⟩ := h
  exact h.lt
theorem InB.only (h : InB k w F p M) (ho : Only G w w') (hn : ∀ b, F b → ¬ G b) : InB k w' F p M := by
  obtain ⟨v, Fs, ps, rfl, h⟩ := h
  exact ⟨v, Fs, ps, rfl, h.only ho hn⟩
theorem Left.out {v : Value} {Fs : Nat → Nat → Prop} {ps : List Nat} (h : Left k w p v Fs ps M.ds.length M' w') : ∃ F', InB k w' F' p M' ∧ Only (footB p v Fs M.ds.length) w w' ∧ Grow w (footB p v Fs M.ds.length) F' := by
  obtain ⟨Fs', ps', h1, h2, h3⟩ := h
  exact ⟨_, ⟨v, Fs', ps', rfl, h1⟩, h2, h3⟩
end
def pIds : BIds where
  read := 54
  write := 22
  flush := 88
  fail := 9
  devices := 33
  cZ := 62
  bX := 69
theorem Dev.wf_of {D : Dev} {w : World} {p : Nat} {v : Value} {Fs : Nat → Nat → Prop} {ps : List Nat} {M : BenS} (h : BenAt (bz D) w p v Fs ps M) : M.Wf :=
  ⟨h.one, h.cap, fun i hi => ⟨(D.fit (h.devs.at_ i hi)).2, D.cap (h.devs.at_ i hi)⟩⟩
def pBen (D : Dev) : Ben pIds where
  Bn := InB (bz D)
  lt := InB.lt
  only := InB.only
  wf := fun ⟨_, _, _, _, h⟩ => D.wf_of h
  read := fun d n ⟨_, _, _, _, h⟩ => b_read d n h
  write := fun d n b hr ⟨_, _, _, e, h⟩ => by
    subst e
    exact (b_write d n b h (fun i hi => hr.at_ hi) (by have := hr.1; omega) hr.2.1).mono fun e w' ⟨h1, h2⟩ => ⟨h1, h2.out⟩
  flush := fun d hr ⟨_, _, _, e, h⟩ => by
    subst e
    exact (b_flush d h (by have := hr.1; omega) hr.2.1).mono fun e w' ⟨h1, h2⟩ => ⟨h1, h2.out⟩
  fail := fun d ⟨_, _, _, e, h⟩ => by
    subst e
    exact (b_fail d h).mono fun e w' ⟨h1, h2⟩ => ⟨h1, h2.out⟩
  devices := fun ⟨_, _, _, _, h⟩ => (b_devices h).mono fun e w' ⟨h1, h2⟩ => ⟨h1, dG h2⟩
  cZ := fun d ⟨_, _, _, _, h⟩ => b_sectors d h
  bX := fun ⟨_, _, _, _, h⟩ => (b_dark h).mono fun e w' ⟨h1, h2⟩ => ⟨h1, dG h2⟩
theorem dc.hid {k : BKind} {w w' : World} {ks : List Int} {e : Ending} (h : dc k w ks e w') : NewB (InB k) w ks e w' := by
  obtain ⟨h1, h | h⟩ := h
  · obtain ⟨h0, p, v, Fs, ps, h2, h3, h4⟩ := h
    exact ⟨h1, .inl ⟨h0, p, _, h2, ⟨v, Fs, ps, rfl, h3⟩, h4⟩⟩
  · exact ⟨h1, .inr h⟩
structure BenP extends Ben pIds where
  new : ∀ {w A n c ks}, RdE IntE w w.heap.size A n ks → n ≤ c → c ≤ maxLen → Calls Tryz.prog 14 #[.slice A n c] w (NewB Bn w ks)
def aW : BenP where
  toBen := pBen theDev
  new := fun h1 h2 h3 => (b_new h1 h2 h3).mono fun _ _ h => h.hid
def piece (b : List UInt8) (at_ k : Nat) : List UInt8 := (b.drop at_).take k
theorem cw {b : List UInt8} {p k : Nat} (h : p + k ≤ b.length) : (piece b p k).length = k := by simp [piece]; omega
def ofL (l : List UInt8) : Blk := Vector.ofFn fun i => l.getD i.val 0
theorem ofL_byt (l : List UInt8) {j : Nat} (h : j < 64) : byt (ofL l) j = bt l j := by
  rw [byt_get _ h]
  simp [ofL, bt]
theorem dt (b : Blk) : b.toList.length = 64 := by simp
theorem bt_piece {l : List UInt8} {p k j : Nat} (h : j < k) : bt (piece l p k) j = bt l (p + j) := by
  unfold bt piece
  simp [List.getD, List.getElem?_take_of_lt h, List.getElem?_drop]
theorem cY {x y : List UInt8} {j : Nat} (h : j < x.length) : bt (x ++ y) j = bt x j := by
  unfold bt
  simp [List.getD, List.getElem?_append_left h]
theorem cU {x y : List UInt8} {j : Nat} (h : x.length ≤ j) : bt (x ++ y) j = bt y (j - x.length) := by
  unfold bt
  simp [List.getD, List.getElem?_append_right h]
theorem bt_noughts {n j : Nat} : bt (List.replicate n 0) j = 0 := by
  unfold bt
  by_cases h : j < n
  · simp [List.getD, h]
  · simp [List.getD, h]
theorem bt_splice {l x : List UInt8} {off j : Nat} (h : off + x.length ≤ l.length) : bt (splice l off x) j = if off ≤ j ∧ j < off + x.length then bt x (j - off) else bt l j := by
  unfold splice
  have h1 : (l.take off).length = off := by simp; omega
  by_cases hlo : j < off
  · rw [if_neg (by omega), cY (by omega)]
    unfold bt
    simp [List.getD, List.getElem?_take_of_lt hlo]
  · rw [cU (by omega), h1]
    by_cases hhi : j < off + x.length
    · rw [if_pos (by omega), cY (by omega)]
    · rw [if_neg (by omega), cU (by omega)]
      unfold bt
      simp only [List.getD, List.getElem?_drop]
      rw [show off + x.length + (j - off - x.length) = j from by omega]
theorem maySize_yes (s : Int) (w : World) (h1 : 1 ≤ s) (h2 : s ≤ 8) : Calls Tryz.prog 108 #[.int .i64 s] w fun e w' => e = .returned (.bool true) ∧ w = w' := by
  go_enter Tryz.func108, Tryz.ntmps108
  go_wp2
  go_ret
  exact ⟨rfl, rfl⟩
def fitB (n k : Nat) : Bool := decide (n < 2 ^ k)
theorem fits_any (n : Nat) (c : Int) (w : World) (h0 : 0 ≤ c) (h64 : c ≤ 64) : Calls Tryz.prog 109 #[.int .u64 n, .int .i64 c] w fun e w' => e = .returned (.bool (fitB n c.toNat)) ∧ w = w' := by
  obtain ⟨k, rfl⟩ := Int.eq_ofNat_of_zero_le h0
  rw [Int.toNat_natCast]
  go_enter Tryz.func109, Tryz.ntmps109
  go_wp2
  go_ret
  refine ⟨aO ?_, rfl⟩
  have e : ((n : Int) / 2 ^ k) = ((n / 2 ^ k : Nat) : Int) := by simp
  rw [e]
  unfold fitB
  have h2 : 0 < 2 ^ k := Nat.pow_pos (by omega)
  rw [Bool.eq_iff_iff]
  simp only [beq_iff_eq, decide_eq_true_eq]
  rw [← Nat.div_eq_zero_iff_lt h2]
  omega
theorem bt_digL8 (n k j : Nat) (h : j < k) : bt (bw 8 k n) j = (n : Int) / 2 ^ (j * 8) % 256 := by
  have hl : j < (bw 8 k n).length := by rw [ay]; exact h
  rw [cQ hl, getElem_digL (by omega) hl, Nat.mul_comm 8 j]
  simp
theorem put_ok (n k : Nat) (w : World) (h1 : 1 ≤ k) (h2 : k ≤ 8) (hn : n < 256 ^ k) :
    Calls Tryz.prog 99 #[.int .u64 n, .int .i64 k] w fun e w' => ∃ v, e = .returned (.tuple #[v, .int .i64 0]) ∧ Own w' w.heap.size v (bw 8 k n) ∧ Below w.heap.size w w' := by
  have hf : fitB n (k * 8) = true := by
    have e : (2 : Nat) ^ (k * 8) = 256 ^ k := by rw [Nat.mul_comm, Nat.pow_mul]
    unfold fitB
    rw [e]
    simpa using hn
  have HF := Lib.hid hf
  clear hf
  have hmk := fun (kl kc : IntKind) (m : Nat) (h1 : 1 * m ≤ 281474976710656) (h2 : m ≤ 9223372036854775807) (W : World) => run_make_row' (P := Tryz.prog) 141 5 (.int .u8 0) 1 Tryz.underlying141 u8info rfl kl kc m h1 h2 W
  have hmk1 := hmk .i64 .i64 k (by omega) (by omega)
  clear hmk
  go_enter Tryz.func99, Tryz.ntmps99
  go_wp2_with (first | (go_at_call 108; refine (maySize_yes _ _ (by omega) (by omega)).mono ?_; rintro e w' ⟨rfl, rfl⟩))
  refine (fits_any _ _ _ (by omega) (by omega)).mono ?_
  rintro e w' ⟨rfl, rfl⟩
  rw [show ((k : Int) * 8).toNat = k * 8 from by omega, HF.out]
  go_wp2
  clear hmk1
  have hr0 := World.rowIs_made w (Value.int .u8 0) k 5
  obtain ⟨g, hg⟩ : ∃ g, g = w.heap.size := ⟨_, rfl⟩
  rw [← hg] at hr0 ⊢
  have hbl0 : Below g w (w.alloc (.cells (madeCells #[Value.int .u8 0] k) 5)) := by rw [hg]; exact (Below.refl _ _).alloc (Nat.le_refl _) _
  have HG := Lib.hid hg
  clear hg HF
  go_loopw [21] (fun i wr => ∃ (j : Nat) (f : Nat → Int), j ≤ k ∧ i = .int .i64 j ∧ wr.rowIs g 5 k (fun j => .int .u8 (f j)) ∧ (∀ m, m < j → f m = bt (bw 8 k n) m) ∧ (∀ m, 0 ≤ f m ∧ f m ≤ 255) ∧ Below g w wr) (fun i _ => k - (intOf i).toNat)
  case atStart => exact ⟨0, fun _ => 0, Nat.zero_le _, rfl, hr0, fun j hj => absurd hj (by omega), fun _ => by simp, hbl0⟩
  case round =>
    obtain ⟨j, f, hj, rfl, hrow, hf, hr, hbl⟩ := hrel
    by_cases hlt : j < k
    · have hc := hrow.cell hlt
      have hfr := hrow.frozen j
      have HFF := Lib.hid hf
      have HR := Lib.hid hr
      clear hf hr
      go_wp2
      go_roundw
      case rel =>
        refine ⟨j + 1, _, by omega, by go_num, (hrow.set j _).congr (g := fun m => .int .u8 (if m = j then bt (bw 8 k n) j else f m)) ?_, ?_, ?_, hbl.setCell (Nat.le_refl _) _⟩
        · intro m hm
          show (if m = j then Value.int IntKind.u8 (↑n / 2 ^ (j * 8) % 256) else Value.int .u8 (f m)) = _
          split
          · rw [bt_digL8 n k j hlt]
          · rfl
        · intro m hm
          show (if m = j then bt (bw 8 k n) j else f m) = _
          split
          · subst m; rfl
          · exact HFF.out m (by omega)
        · intro m
          show 0 ≤ (if m = j then bt (bw 8 k n) j else f m) ∧ (if m = j then bt (bw 8 k n) j else f m) ≤ 255
          split
          · exact ⟨bt_lo _ _, bt_hi _ _⟩
          · exact HR.out m
      case measure => simp [intOf]; omega
    · go_wp2
      go_ret2
      have hjk : j = k := by omega
      subst hjk
      refine ⟨_, rfl, Own.of_row (ay 8 j n) (Nat.le_of_eq HG.out.symm) hrow (Nat.le_refl _) (by unfold maxLen; omega) hf hr, ?_⟩
      rw [← HG.out]
      exact hbl
theorem val_piece_succ {b : List UInt8} {p k : Nat} (h : p + k < b.length) : (val 8 (piece b p (k + 1)) : Int) = val 8 (piece b p k) + 2 ^ (k * 8) * bt b (p + k) := by
  have hk : k < (b.drop p).length := by simp; omega
  have e : piece b p (k + 1) = piece b p k ++ [b[p + k]] := by
    unfold piece
    rw [List.take_succ_eq_append_getElem hk]
    simp
  rw [e, val_append, cw (by omega), cQ h, Nat.mul_comm 8 k]
  rw [val_one]
  push_cast
  rfl
theorem co {b : List UInt8} {p k : Nat} (h : p + k ≤ b.length) : val 8 (piece b p k) < 2 ^ (k * 8) := by
  have := val_lt (all_256 (piece b p k))
  rwa [cw h, Nat.mul_comm] at this
theorem shl_fits {s : Nat} (x : Nat) (h1 : x ≤ 255) (hs : s ≤ 56) : x * 2 ^ s ≤ 18446744073709551615 := by
  have h2 : 2 ^ s ≤ 2 ^ 56 := Nat.pow_le_pow_right (by omega) hs
  have h3 : x * 2 ^ s ≤ 255 * 2 ^ 56 := Nat.mul_le_mul h1 h2
  omega
theorem or_shl {V s : Nat} {x : Int} (h0 : 0 ≤ x) (h1 : x ≤ 255) (hs : s ≤ 56) (hV : V < 2 ^ s) :
    bits .or .u64 (V : Int) (IntKind.u64.wrap (x * 2 ^ s)) = V + 2 ^ s * x := by
  obtain ⟨m, rfl⟩ := Int.eq_ofNat_of_zero_le h0
  have hf := shl_fits (s := s) m (by omega) hs
  have hV' : V < 18446744073709551616 := by
    have h2 : 2 ^ s ≤ 2 ^ 56 := Nat.pow_le_pow_right (by omega) hs
    omega
  have e : ((m : Int) * 2 ^ s) = ((m * 2 ^ s : Nat) : Int) := by push_cast; rfl
  rw [e, IntWalk.u64_in _ ⟨by omega, by omega⟩, u64_or_nat V _ hV' (by omega), Nat.or_comm, nat_join s _ _ (Nat.mul_mod_left m (2 ^ s)) hV]
  push_cast
  rw [Int.mul_comm (2 ^ s) (m : Int), Int.add_comm]
theorem get_ok (A : Option Addr) (n c N : Nat) (b : List UInt8) (p k : Nat) (w : World) (hb : Rd w N A n b) (hn : n ≤ maxLen) (h1 : 1 ≤ k) (h2 : k ≤ 8) (h3 : p + k ≤ n) :
    Calls Tryz.prog 121 #[.slice A n c, .int .i64 p, .int .i64 k] w fun e w' => e = .returned (.tuple #[.int .u64 (val 8 (piece b p k)), .int .i64 0]) ∧ w = w' := by
  unfold maxLen at hn
  go_enter Tryz.func121, Tryz.ntmps121
  go_wp2_with (first | (go_at_call 108; refine (maySize_yes _ _ (by omega) (by omega)).mono ?_; rintro e w' ⟨rfl, rfl⟩))
  go_loop [8, 30] (fun x i => ∃ j : Nat, j ≤ k ∧ i = .int .i64 j ∧ x = .int .u64 (val 8 (piece b p j))) (fun _ i => k - (intOf i).toNat)
  case atStart => exact ⟨0, Nat.zero_le _, rfl, by simp [piece, val]⟩
  case round =>
    obtain ⟨j, hj, rfl, rfl⟩ := hrel
    by_cases hlt : j < k
    · obtain ⟨bA, oA, rfl, hA, cA⟩ := hb.2 (p + j) (by omega)
      have hlo := bt_lo b (p + j)
      have hhi := bt_hi b (p + j)
      go_wp2
      go_round
      case rel =>
        refine ⟨j + 1, by omega, by go_num, ?_⟩
        rw [val_piece_succ (by have := hb.1; omega), or_shl hlo hhi (by omega) (co (by have := hb.1; omega))]
      case measure => simp [intOf]; omega
    · go_wp2
      go_ret2
      have e : j = k := by omega
      subst e
      exact ⟨rfl, rfl⟩
def padL (b : List UInt8) : List UInt8 := b ++ List.replicate (44 - b.length) 0
def headL (n : Nat) (b : List UInt8) : List UInt8 := bw 8 8 n ++ padL b
def sealL (n : Nat) (b : List UInt8) : List UInt8 := headL n b ++ (bw 8 4 (more 0 (headL n b)) ++ bw 8 8 n)
theorem di {b : List UInt8} (h : b.length ≤ 44) : (padL b).length = 44 := by simp [padL]; omega
theorem headL_length {b : List UInt8} (n : Nat) (h : b.length ≤ 44) : (headL n b).length = 52 := by simp [headL, ay, di h]
theorem sealL_length {b : List UInt8} (n : Nat) (h : b.length ≤ 44) : (sealL n b).length = 64 := by simp [sealL, ay, headL_length n h]
def numO (l : List UInt8) : Nat := val 8 (piece l 0 8)
def agO (l : List UInt8) : Nat := val 8 (piece l 56 8)
def sumO (l : List UInt8) : Nat := val 8 (piece l 52 4)
def crcO (l : List UInt8) : Nat := more 0 (piece l 0 52)
def getE (l : List UInt8) : Nat := if numO l = 0 ∨ numO l ≠ agO l then 5 else if sumO l ≠ crcO l then 6 else 0
def getN (l : List UInt8) : Nat := if getE l = 0 then numO l else 0
def getB (l : List UInt8) : List UInt8 := if getE l = 0 then piece l 8 44 else []
theorem getE_form {l : List UInt8} (h : numO l = 0 ∨ numO l ≠ agO l) : getE l = 5 := by unfold getE; rw [if_pos h]
theorem getE_sum {l : List UInt8} (h0 : numO l ≠ 0) (h1 : numO l = agO l) (h : sumO l ≠ crcO l) : getE l = 6 := by
  unfold getE
  rw [if_neg (by omega), if_pos h]
theorem getE_ok {l : List UInt8} (h0 : numO l ≠ 0) (h1 : numO l = agO l) (h : sumO l = crcO l) : getE l = 0 := by
  unfold getE
  rw [if_neg (by omega), if_neg (by omega)]
theorem getN_of {l : List UInt8} (h : getE l = 0) : getN l = numO l := if_pos h
theorem getN_no {l : List UInt8} (h : getE l ≠ 0) : getN l = 0 := if_neg h
theorem getB_of {l : List UInt8} (h : getE l = 0) : getB l = piece l 8 44 := if_pos h
theorem getB_no {l : List UInt8} (h : getE l ≠ 0) : getB l = [] := if_neg h
theorem sumO_lt {l : List UInt8} (h : l.length = 64) : sumO l < 4294967296 := co (b := l) (p := 52) (k := 4) (by omega)
theorem crcO_lt (l : List UInt8) : crcO l < 4294967296 := more_lt (by omega) _
section
variable {n : Nat} {b : List UInt8} (hb : b.length ≤ 44)
include hb
end
def putE (n : Nat) (b : List UInt8) : Nat := if n = 0 then 2 else if 44 < b.length then 3 else 0
def putB (n : Nat) (b : List UInt8) : Blk := if putE n b = 0 then ofL (sealL n b) else al
theorem putE_ok {n : Nat} {b : List UInt8} (h0 : n ≠ 0) (hb : b.length ≤ 44) : putE n b = 0 := by unfold putE; rw [if_neg h0, if_neg (by omega)]
theorem putB_ok {n : Nat} {b : List UInt8} (h : putE n b = 0) : putB n b = ofL (sealL n b) := if_pos h
def evB (n : Nat) : Bool := decide (1 ≤ n ∧ n ≤ 4611686018427387904)
theorem of_evB {n : Nat} (h : evB n = true) : 1 ≤ n ∧ n ≤ 4611686018427387904 := of_decide_eq_true h
theorem padL_full {b : List UInt8} (h : b.length = 44) : padL b = b := by simp [padL, h]
theorem headL_pad {b : List UInt8} (n : Nat) (h : b.length ≤ 44) : headL n (padL b) = headL n b := by unfold headL; rw [padL_full (di h)]
theorem sealL_pad {b : List UInt8} (n : Nat) (h : b.length ≤ 44) : sealL n (padL b) = sealL n b := by unfold sealL; rw [headL_pad n h]
theorem getB_len {b : Blk} (h : getE b.toList = 0) : (getB b.toList).length = 44 := by rw [getB_of h]; exact cw (by simp)
structure Ros where
  m : Int
  s : Int
  r : Int
  st : Vector UInt8 16
  cur : Int
  gone : Bool
deriving DecidableEq
def bh : Ros := ⟨0, 0, 0, Vector.replicate 16 0, 0, false⟩
def sta (x : Ros) (j : Nat) : Int := bt x.st.toList j
def healK (l : List UInt8) : Nat → Nat
  | 0 => 0
  | k + 1 => healK l k + (if bt l k = 2 then 1 else 0)
def cq (x : Ros) : Nat := healK x.st.toList 16
theorem healK_le (l : List UInt8) (k : Nat) : healK l k ≤ k := by
  induction k with
  | zero => exact Nat.le_refl _
  | succ k ih => unfold healK; split <;> omega
def geoB (x : Ros) : Bool := decide (3 ≤ x.m ∧ x.m ≤ 16 ∧ 1 ≤ x.s ∧ x.s ≤ 64 ∧ 40 ≤ x.r ∧ x.r ≤ 256)
def staB (x : Ros) : Bool := (List.range 16).all fun j => decide (sta x j ≤ 2) && (!decide (x.m ≤ (j : Int)) || decide (sta x j = 0))
theorem staB_iff {x : Ros} : staB x = true ↔ ((∀ j, j < 16 → sta x j ≤ 2) ∧ (∀ j : Nat, j < 16 → x.m ≤ (j : Int) → sta x j = 0)) := by
  unfold staB
  simp only [List.all_eq_true, List.mem_range, Bool.and_eq_true, decide_eq_true_eq, Bool.or_eq_true, Bool.not_eq_true', decide_eq_false_iff_not]
  constructor
  · exact fun h => ⟨fun j hj => (h j hj).1, fun j hj hm => (h j hj).2.elim (fun h2 => absurd hm h2) id⟩
  · rintro ⟨h1, h2⟩ j hj
    refine ⟨h1 j hj, ?_⟩
    by_cases hm : x.m ≤ (j : Int)
    · exact .inr (h2 j hj hm)
    · exact .inl hm
def aI (x : Ros) : Bool := geoB x && staB x && decide (cq x ≤ 1) && decide (0 ≤ x.cur ∧ x.cur < x.s ∧ (cq x = 1 ∨ x.cur = 0))
theorem cX {x : Ros} (h : geoB x = true) : 3 ≤ x.m ∧ x.m ≤ 16 ∧ 1 ≤ x.s ∧ x.s ≤ 64 ∧ 40 ≤ x.r ∧ x.r ≤ 256 := of_decide_eq_true h
theorem of_staB {x : Ros} (h : staB x = true) : (∀ j, j < 16 → sta x j ≤ 2) ∧ (∀ j : Nat, j < 16 → x.m ≤ (j : Int) → sta x j = 0) := staB_iff.1 h
theorem cv {x : Ros} (h : aI x = true) : geoB x = true ∧ staB x = true ∧ cq x ≤ 1 ∧ 0 ≤ x.cur ∧ x.cur < x.s ∧ (cq x = 1 ∨ x.cur = 0) := by
  unfold aI at h
  simp only [Bool.and_eq_true, decide_eq_true_eq] at h
  exact ⟨h.1.1.1, h.1.1.2, h.1.2, h.2⟩
theorem fineB_of {x : Ros} (h : geoB x = true ∧ staB x = true ∧ cq x ≤ 1 ∧ 0 ≤ x.cur ∧ x.cur < x.s ∧ (cq x = 1 ∨ x.cur = 0)) : aI x = true := by
  unfold aI
  simp only [Bool.and_eq_true, decide_eq_true_eq]
  exact ⟨⟨⟨h.1, h.2.1⟩, h.2.2.1⟩, h.2.2.2⟩
theorem dU {x : Ros} : geoB x = true ↔ (3 ≤ x.m ∧ x.m ≤ 16 ∧ 1 ≤ x.s ∧ x.s ≤ 64 ∧ 40 ≤ x.r ∧ x.r ≤ 256) := by unfold geoB; rw [decide_eq_true_iff]
theorem geoB_not {x : Ros} : geoB x = false ↔ ¬(3 ≤ x.m ∧ x.m ≤ 16 ∧ 1 ≤ x.s ∧ x.s ≤ 64 ∧ 40 ≤ x.r ∧ x.r ≤ 256) := by unfold geoB; rw [decide_eq_false_iff_not]
theorem healK_succ (l : List UInt8) (k : Nat) : healK l (k + 1) = healK l k + (if bt l k = 2 then 1 else 0) := rfl
def curB (x : Ros) : Bool := if cq x = 0 then decide (x.cur = 0) else decide (0 ≤ x.cur ∧ x.cur < x.s)
theorem fine_split (x : Ros) : aI x = (geoB x && ((staB x && decide (cq x ≤ 1)) && curB x)) := by
  unfold aI curB
  by_cases hg : geoB x = true
  · have hs := (dU.1 hg).2.2.1
    rw [hg, Bool.true_and, Bool.true_and]
    cases staB x
    · rfl
    · by_cases hh : cq x ≤ 1
      · rw [decide_eq_true hh]
        simp only [Bool.true_and]
        split
        · rw [decide_eq_decide]; omega
        · rw [decide_eq_decide]; omega
      · rw [decide_eq_false hh]; rfl
  · rw [Bool.eq_false_iff.2 hg]; rfl
theorem sta_no {x : Ros} {j : Nat} (hj : j < 16) (h : 2 < sta x j ∨ (x.m ≤ (j : Int) ∧ sta x j ≠ 0)) : aI x = false := by
  rw [Bool.eq_false_iff]
  intro hf
  obtain ⟨h1, h2⟩ := of_staB (cv hf).2.1
  rcases h with h | ⟨h, h'⟩
  · have := h1 j hj; omega
  · exact h' (h2 j hj h)
def ofSt (l : List UInt8) : Vector UInt8 16 := Vector.ofFn fun i => l.getD i.val 0
theorem toList_ofSt {l : List UInt8} (h : l.length = 16) : (ofSt l).toList = l := by
  refine eq_of_bt (by simp [h]) fun k hk => ?_
  have hk' : k < 16 := by simpa using hk
  rw [cQ hk, cQ (l := l) (by omega)]
  simp [ofSt, List.getD, List.getElem?_eq_getElem (show k < l.length by omega)]
theorem stL_length (v : Vector UInt8 16) : v.toList.length = 16 := by simp
structure Sup where
  id : Nat
  self : Int
  ros : Ros
deriving DecidableEq
def bD : Sup := ⟨0, 0, bh⟩
def supB (x : Sup) : Bool := decide (x.id ≠ 0) && aI x.ros && decide (0 ≤ x.self ∧ x.self < x.ros.m)
theorem of_supB {x : Sup} (h : supB x = true) : x.id ≠ 0 ∧ aI x.ros = true ∧ 0 ≤ x.self ∧ x.self < x.ros.m := by
  unfold supB at h
  simp only [Bool.and_eq_true, decide_eq_true_eq] at h
  exact ⟨h.1.1, h.1.2, h.2⟩
def goneN (b : Bool) : Nat := if b then 1 else 0
def bodyL (x : Sup) : List UInt8 :=
  bw 8 8 x.id ++ (bw 8 1 x.ros.m.toNat ++ (bw 8 2 x.ros.s.toNat ++ (bw 8 2 x.ros.r.toNat ++ (bw 8 1 x.self.toNat ++ (bw 8 4 (val 2 x.ros.st.toList) ++ (bw 8 2 x.ros.cur.toNat ++ bw 8 1 (goneN x.ros.gone)))))))
theorem dI (x : Sup) : (bodyL x).length = 21 := by simp [bodyL, ay]
def cC (x : Sup) : List UInt8 := padL (bodyL x)
theorem cf (x : Sup) : (cC x).length = 44 := di (by rw [dI]; omega)
theorem putE_full (n : Nat) (x : Sup) : putE n (cC x) = putE n (bodyL x) := by
  unfold putE; rw [cf, dI]; simp
theorem putB_full (n : Nat) (x : Sup) : putB n (cC x) = putB n (bodyL x) := by
  unfold putB; rw [putE_full]; unfold cC; rw [sealL_pad n (by rw [dI]; omega)]
def bL (l : List UInt8) : Sup :=
  ⟨val 8 (piece l 0 8), (val 8 (piece l 13 1) : Nat), ⟨(val 8 (piece l 8 1) : Nat), (val 8 (piece l 9 2) : Nat), (val 8 (piece l 11 2) : Nat), ofSt (bw 2 16 (val 8 (piece l 14 4))), (val 8 (piece l 18 2) : Nat), decide (val 8 (piece l 20 1) = 1)⟩⟩
theorem st_small {x : Ros} (h : staB x = true) : ∀ u ∈ x.st.toList, u.toNat < 2 ^ 2 := by
  intro u hu
  obtain ⟨j, hj, rfl⟩ := List.getElem_of_mem hu
  have h2 := (of_staB h).1 j (by simpa using hj)
  unfold sta at h2
  rw [cQ hj] at h2
  omega
theorem sta_val {x : Ros} (h : staB x = true) : val 2 x.st.toList < 2 ^ 32 := by
  have := val_lt (st_small h)
  simpa using this
def sputE (n : Nat) (x : Sup) : Nat := if evB n = true ∧ supB x = true then 0 else 2
def sputB (n : Nat) (x : Sup) : Blk := if evB n = true ∧ supB x = true then putB n (bodyL x) else al
theorem sputE_ok {n : Nat} {x : Sup} (h : evB n = true) (h' : supB x = true) : sputE n x = 0 := if_pos ⟨h, h'⟩
theorem sputB_ok {n : Nat} {x : Sup} (h : evB n = true) (h' : supB x = true) : sputB n x = putB n (bodyL x) := if_pos ⟨h, h'⟩
theorem sputE_no {n : Nat} {x : Sup} (h : ¬ (evB n = true ∧ supB x = true)) : sputE n x = 2 := if_neg h
theorem sputB_no {n : Nat} {x : Sup} (h : ¬ (evB n = true ∧ supB x = true)) : sputB n x = al := if_neg h
theorem body_putE {n : Nat} (x : Sup) (h : evB n = true) : putE n (bodyL x) = 0 := putE_ok (by have := of_evB h; omega) (by rw [dI]; omega)
def gsE (b : Blk) : Nat := if getE b.toList ≠ 0 then getE b.toList else if evB (getN b.toList) = true ∧ supB (bL (getB b.toList)) = true ∧ cC (bL (getB b.toList)) = getB b.toList then 0 else 5
def gsN (b : Blk) : Nat := if gsE b = 0 then getN b.toList else 0
def gsS (b : Blk) : Sup := if gsE b = 0 then bL (getB b.toList) else bD
theorem gsE_seal {b : Blk} (h : getE b.toList ≠ 0) : gsE b = getE b.toList := if_pos h
theorem gsE_form {b : Blk} (h : getE b.toList = 0) (h' : ¬ (evB (getN b.toList) = true ∧ supB (bL (getB b.toList)) = true ∧ cC (bL (getB b.toList)) = getB b.toList)) : gsE b = 5 := by
  unfold gsE; rw [if_neg (by omega), if_neg h']
theorem gsE_ok {b : Blk} (h : getE b.toList = 0) (h' : evB (getN b.toList) = true ∧ supB (bL (getB b.toList)) = true ∧ cC (bL (getB b.toList)) = getB b.toList) : gsE b = 0 := by
  unfold gsE; rw [if_neg (by omega), if_pos h']
theorem gsN_of {b : Blk} (h : gsE b = 0) : gsN b = getN b.toList := if_pos h
theorem gsN_no {b : Blk} (h : gsE b ≠ 0) : gsN b = 0 := if_neg h
theorem gsS_of {b : Blk} (h : gsE b = 0) : gsS b = bL (getB b.toList) := if_pos h
theorem gsS_no {b : Blk} (h : gsE b ≠ 0) : gsS b = bD := if_neg h
theorem told_id_lt {l : List UInt8} (h : 8 ≤ l.length) : (bL l).id < 18446744073709551616 := co (b := l) (p := 0) (k := 8) (by omega)
def nwN (a b : Blk) : Nat := if gsN a < gsN b then gsN b else gsN a
def nwS (a b : Blk) : Sup := if gsN a < gsN b then gsS b else gsS a
def sloT (a b : Blk) : Nat := if gsN a ≠ 0 ∧ ¬ gsN a < gsN b then 1 else 0
def cntK (l : List UInt8) (c : Int) : Nat → Nat
  | 0 => 0
  | k + 1 => cntK l c k + (if bt l k = c then 1 else 0)
theorem dv (l : List UInt8) (c : Int) (k : Nat) : cntK l c (k + 1) = cntK l c k + (if bt l k = c then 1 else 0) := rfl
theorem cntK_le (l : List UInt8) (c : Int) (k : Nat) : cntK l c k ≤ k := by
  induction k with
  | zero => exact Nat.le_refl _
  | succ k ih => rw [dv]; split <;> omega
theorem healK_cnt (l : List UInt8) (k : Nat) : healK l k = cntK l 2 k := by
  induction k with
  | zero => rfl
  | succ k ih => rw [dv, healK_succ, ih]
def many (x : Ros) (c : Int) : Nat := cntK x.st.toList c 16
theorem many_def (x : Ros) (c : Int) : many x c = cntK x.st.toList c 16 := rfl
theorem dW (x : Ros) : cq x = many x 2 := healK_cnt _ _
theorem many_le (x : Ros) (c : Int) : many x c ≤ 16 := cntK_le _ _ _
def outK (l : List UInt8) : Nat → Nat
  | 0 => 0
  | k + 1 => outK l k + (if bt l k = 0 then 0 else 1)
theorem outK_succ (l : List UInt8) (k : Nat) : outK l (k + 1) = outK l k + (if bt l k = 0 then 0 else 1) := rfl
def outs (x : Ros) : Nat := outK x.st.toList 16
theorem outK_cnt {l : List UInt8} {k : Nat} (h : ∀ j, j < k → bt l j ≤ 2) : outK l k = cntK l 1 k + cntK l 2 k := by
  induction k with
  | zero => rfl
  | succ k ih =>
    have h1 := ih fun j hj => h j (by omega)
    have h2 := h k (by omega)
    have h3 := bt_lo l k
    rw [dv, dv, outK_succ, h1]
    split <;> split <;> split <;> omega
theorem outs_many {x : Ros} (h : staB x = true) : outs x = many x 1 + many x 2 := outK_cnt (of_staB h).1
def setS (x : Ros) (j : Nat) (u : UInt8) : Ros := ⟨x.m, x.s, x.r, x.st.setIfInBounds j u, x.cur, x.gone⟩
def curS (x : Ros) (c : Int) : Ros := ⟨x.m, x.s, x.r, x.st, c, x.gone⟩
theorem setS_list (x : Ros) (j : Nat) (u : UInt8) : (setS x j u).st.toList = x.st.toList.set j u := by
  unfold setS
  simp
theorem bt_set {l : List UInt8} {j : Nat} (h : j < l.length) (u : UInt8) (k : Nat) : bt (l.set j u) k = if k = j then (u.toNat : Int) else bt l k := by
  unfold bt
  simp only [List.getD, List.getElem?_set]
  by_cases e : k = j
  · subst e; simp [h]
  · rw [if_neg (fun e' => e e'.symm), if_neg e]
theorem sta_setS (x : Ros) {j : Nat} (h : j < 16) (u : UInt8) (k : Nat) : sta (setS x j u) k = if k = j then (u.toNat : Int) else sta x k := by
  unfold sta
  rw [setS_list]
  exact bt_set (by simpa using h) u k
theorem cntK_set {l : List UInt8} {j : Nat} (h : j < l.length) (u : UInt8) (c : Int) (k : Nat) : cntK (l.set j u) c k + (if j < k ∧ bt l j = c then 1 else 0) = cntK l c k + (if j < k ∧ (u.toNat : Int) = c then 1 else 0) := by
  induction k with
  | zero => rw [if_neg (by omega), if_neg (by omega)]; rfl
  | succ k ih =>
    rw [dv, dv, bt_set h]
    by_cases e : k = j
    · subst e
      rw [if_neg (by omega), if_neg (by omega)] at ih
      rw [if_pos rfl]
      by_cases h1 : bt l k = c <;> by_cases h2 : (u.toNat : Int) = c <;> simp [h1, h2] <;> omega
    · rw [if_neg e]
      have e1 : (j < k + 1 ∧ bt l j = c) ↔ (j < k ∧ bt l j = c) := by omega
      have e2 : (j < k + 1 ∧ (u.toNat : Int) = c) ↔ (j < k ∧ (u.toNat : Int) = c) := by omega
      simp only [e1, e2]
      omega
theorem many_setS (x : Ros) {j : Nat} (h : j < 16) (u : UInt8) (c : Int) : many (setS x j u) c + (if sta x j = c then 1 else 0) = many x c + (if (u.toNat : Int) = c then 1 else 0) := by
  have := cntK_set (l := x.st.toList) (j := j) (by simpa using h) u c 16
  simp only [h, true_and] at this
  unfold many
  rw [setS_list]
  exact this
theorem staB_setS {x : Ros} (hs : staB x = true) {j : Nat} (h : j < 16) (hm : (j : Int) < x.m) {u : UInt8} (hu : u.toNat ≤ 2) : staB (setS x j u) = true := by
  obtain ⟨h1, h2⟩ := of_staB hs
  refine staB_iff.2 ⟨fun k hk => ?_, fun k hk hkm => ?_⟩
  · rw [sta_setS x h]
    split
    · omega
    · exact h1 k hk
  · have hne : k ≠ j := by
      intro e; subst e
      have : x.m ≤ (k : Int) := hkm
      omega
    rw [sta_setS x h, if_neg hne]
    exact h2 k hk hkm
def hasM (x : Ros) (m : Int) : Bool := decide (0 ≤ m ∧ m < x.m)
def hasC (x : Ros) (s : Int) : Bool := decide (0 ≤ s ∧ s < x.s)
theorem of_hasM {x : Ros} {m : Int} (h : hasM x m = true) : 0 ≤ m ∧ m < x.m := of_decide_eq_true h
def gz (y : Ros) : Ros := ⟨y.m, y.s, y.r, Vector.replicate 16 0, 0, false⟩
theorem heals_gz (y : Ros) : cq (gz y) = 0 := by
  show healK (Vector.replicate 16 (0 : UInt8)).toList 16 = 0
  decide
theorem sta_gz (y : Ros) {j : Nat} (h : j < 16) : sta (gz y) j = 0 := by
  show bt (List.replicate 16 (0 : UInt8)) j = 0
  unfold bt
  rw [List.getD, List.getElem?_replicate]
  split <;> rfl
theorem fine_gz (y : Ros) : aI (gz y) = geoB y := by
  have hg : geoB (gz y) = geoB y := rfl
  by_cases h : geoB y = true
  · rw [h]
    have := cX h
    refine fineB_of ⟨hg.trans h, staB_iff.2 ⟨fun j hj => ?_, fun j hj _ => sta_gz y hj⟩, by rw [heals_gz]; omega, ?_⟩
    · rw [sta_gz y hj]; omega
    · show 0 ≤ (0 : Int) ∧ (0 : Int) < y.s ∧ (cq (gz y) = 1 ∨ (0 : Int) = 0)
      omega
  · rw [Bool.eq_false_iff.2 h, Bool.eq_false_iff]
    intro hf
    exact h (hg.symm.trans (cv hf).1)
def newX (y : Ros) : Ros := if geoB y then gz y else bh
def newEr (y : Ros) : Nat := if geoB y then 0 else 2
def hasB (x : Ros) (m s : Int) : Bool := aI x && (hasM x m && (hasC x s && (decide (sta x m.toNat = 0) || (decide (sta x m.toNat = 2) && decide (s < x.cur)))))
def stN (x : Ros) : Nat :=
  if aI x then if 2 ≤ outs x ∨ (outs x = 1 ∧ x.gone = true) then 5 else if x.gone = true then 4 else if cq x = 1 then 3 else if outs x = 1 then 2 else 1 else 0
def losB (x : Ros) (m : Int) : Bool := aI x && (hasM x m && decide (sta x m.toNat ≠ 1))
def bl (x : Ros) (m : Int) : Ros := if losB x m then (if sta x m.toNat = 2 then setS (curS x 0) m.toNat 1 else setS x m.toNat 1) else x
theorem heals_set (x : Ros) {j : Nat} (h : j < 16) (u : UInt8) : cq (setS x j u) + (if sta x j = 2 then 1 else 0) = cq x + (if (u.toNat : Int) = 2 then 1 else 0) := by
  rw [dW, dW]; exact many_setS x h u 2
theorem heals_cur (x : Ros) (c : Int) : cq (curS x c) = cq x := rfl
theorem sta_cur (x : Ros) (c : Int) (j : Nat) : sta (curS x c) j = sta x j := rfl
theorem u1 : (((1 : UInt8).toNat : Nat) : Int) = 1 := rfl
theorem mem_lt {x : Ros} {m : Int} (hf : aI x = true) (hq : hasM x m = true) : m.toNat < 16 ∧ ((m.toNat : Nat) : Int) < x.m ∧ ((m.toNat : Nat) : Int) = m := by
  have h1 := of_hasM hq
  have h2 := cX (cv hf).1
  omega
theorem fine_los {x : Ros} (m : Int) (hf : aI x = true) : aI (bl x m) = true := by
  unfold bl
  split
  · rename_i hb
    have hq : hasM x m = true := by
      unfold losB at hb
      rw [hf, Bool.true_and, Bool.and_eq_true] at hb
      exact hb.1
    obtain ⟨h16, hlt, _⟩ := mem_lt hf hq
    obtain ⟨hg, hs, h1, c0, c1, c2⟩ := cv hf
    have g := cX hg
    split
    · rename_i h2
      have hh := heals_set (curS x 0) h16 1
      rw [sta_cur, if_pos h2, heals_cur, if_neg (by rw [u1]; omega)] at hh
      refine fineB_of ⟨hg, staB_setS (x := curS x 0) hs h16 hlt (by decide), by omega, ?_⟩
      show (0 : Int) ≤ 0 ∧ (0 : Int) < x.s ∧ (cq _ = 1 ∨ (0 : Int) = 0)
      omega
    · rename_i h2
      have hh := heals_set x h16 1
      rw [if_neg h2, if_neg (by rw [u1]; omega)] at hh
      refine fineB_of ⟨hg, staB_setS hs h16 hlt (by decide), by omega, ?_⟩
      show 0 ≤ x.cur ∧ x.cur < x.s ∧ (cq _ = 1 ∨ x.cur = 0)
      omega
  · exact hf
structure Cod (Y : Type) where
  zero : Y
  may : Y → Bool
  num : Y → Nat
  body : Y → List UInt8
  told : Nat → List UInt8 → Y
  fits : Y → Prop
  may_num : ∀ y, may y = true → 1 ≤ num y ∧ num y ≤ 4611686018427387904
  len : ∀ y, (body y).length ≤ 44
  back : ∀ y, fits y → may y = true → told (num y) (padL (body y)) = y
  num_told : ∀ n l, num (told n l) = n
  fits_told : ∀ n l, l.length = 44 → n < 18446744073709551616 → fits (told n l)
  zero_no : may zero = false
  zero_num : num zero = 0
  zero_fits : fits zero
namespace Cod
variable {Y : Type} (C : Cod Y)
def full (y : Y) : List UInt8 := padL (C.body y)
theorem full_length (y : Y) : (C.full y).length = 44 := di (C.len y)
theorem putE_full (n : Nat) (y : Y) : putE n (C.full y) = putE n (C.body y) := by
  have h1 := C.full_length y
  have h2 := C.len y
  unfold putE
  rw [if_neg (show ¬ 44 < (C.full y).length by omega), if_neg (show ¬ 44 < (C.body y).length by omega)]
theorem putB_full (n : Nat) (y : Y) : putB n (C.full y) = putB n (C.body y) := by
  unfold putB; rw [C.putE_full]; unfold full; rw [sealL_pad n (C.len y)]
theorem body_putE {n : Nat} (y : Y) (h : n ≠ 0) : putE n (C.body y) = 0 := putE_ok h (C.len y)
end Cod
open Go.RowKit
set_option maxRecDepth 100000
set_option linter.unusedVariables false
structure Mrk where
  id : Nat
  ring : Int
  first : Nat
  pos : Nat
deriving DecidableEq
open Go.RowKit
set_option maxRecDepth 100000
set_option linter.unusedVariables false
def hd (n : Nat) : Nat := (n + 15) / 16
open Go.RowKit
set_option maxRecDepth 100000
set_option linter.unusedVariables false
structure Nte where
  seq : Nat
  pos : Nat
  cells : Int
  sum : Nat
deriving DecidableEq
open Go.RowKit
set_option maxRecDepth 100000
set_option linter.unusedVariables false
inductive Stp where
  | wr (n : Int) (b : Blk)
  | fl
def stpE (d : Int) (M : BenS) : Stp → Int
  | .wr n _ => wrE6 M d n
  | .fl => flE6 M d
def stpS (d : Int) (M : BenS) : Stp → BenS
  | .wr n b => wrS6 M d n b
  | .fl => flS6 M d
def goE (d : Int) : BenS → List Stp → Int
  | _, [] => 0
  | M, s :: l => if stpE d M s = 0 then goE d (stpS d M s) l else stpE d M s
def goB (d : Int) : BenS → List Stp → BenS
  | M, [] => M
  | M, s :: l => if stpE d M s = 0 then goB d (stpS d M s) l else stpS d M s
theorem go_ok {d : Int} {M : BenS} {s : Stp} {l : List Stp} (h : stpE d M s = 0) : goE d M (s :: l) = goE d (stpS d M s) l ∧ goB d M (s :: l) = goB d (stpS d M s) l := ⟨if_pos h, if_pos h⟩
theorem go_no {d : Int} {M : BenS} {s : Stp} {l : List Stp} (h : stpE d M s ≠ 0) : goE d M (s :: l) = stpE d M s ∧ goB d M (s :: l) = stpS d M s := ⟨if_neg h, if_neg h⟩
structure LgS where
  d : Nat
  own : Nat
  size : Nat
  cnt : Nat
  fst : Nat
  pos : Nat
  nts : List Nte
end Go.Proofs.YtheponmdbmloaaaGreatDoor
