import Derived.Test.YtdmhelalbemlcaaGreatDoorSkac
namespace Go.Proofs.YtdmhelalbemlcaaGreatDoor
set_option maxHeartbeats 8000000
open Go.Proofs.Tryz
open Go.RowKit
set_option linter.unusedVariables false
set_option maxRecDepth 100000
section
variable {D : Dev} {w w' : World} {p : Nat} {v : Value} {Fs : Nat -> Nat -> Prop} {ps : List Nat} {M : aZ}
theorem uB (n : Int) (x : Blk) (h : bU (cI D) w p v Fs ps M) {k : Nat} (hdk : M.dark = false) (hk : k < M.ds.length) (he : dw (M.ds.getD k cZ).S (M.ds.getD k cZ).g n ≠ 0) :
  Calls prog 94 #[.pointer (some ⟨p, 0, none⟩), .int .i64 k, .int .i64 n, blk x] w fun e w' => e = .returned (.int .i64 (dw (M.ds.getD k cZ).S (M.ds.getD k cZ).g n)) /\ Below w.heap.size w w' := by
 obtain ⟨y, hy⟩ : ∃ y, M.ds.getD k cZ = y := ⟨_, rfl⟩;obtain ⟨q, hq⟩ : ∃ q, ps.getD k 0 = q := ⟨_, rfl⟩;have hA : Below w.heap.size w ((w.alloc (.cells #[.int .i64 n] 3)).alloc (.cells (cel x).toArray 45)) := ((Below.refl _ w).alloc aj _).alloc (by rw [World.size_alloc]; omega) _;have HO := ae (kQ (h.below hA) hdk hk);obtain ⟨hB, k0, k1, k2, hsz⟩ := nI w n x (some ⟨q, 0, none⟩);have hat := (h.below hB).devs.at_ k hk;rw [hy, hq] at hat
 rw [hy] at he ⊢;rw [hq] at HO;have HD := ae (D.sure n hat);have HB := ae hB;obtain ⟨c0, f0⟩ := one_cell k0;obtain ⟨c2, f2⟩ := one_cell k2;rcases fp (S := y.S) (g := y.g) (n := n) with e | e | ⟨e, _⟩
 rotate_right 1
 ·exact absurd e he
 all_goals
  rw [e] at HD ⊢;clear e he h hA hB k0 k1 k2 hat hy hq hdk;go_enter func94, ntmps94;unfold wr3 at *;go_wp2_with (first | (refine az rfl (cm rfl rfl) ?_) | fail);refine HO.out.mono ?_;rintro e w1 ⟨rfl, rfl⟩;go_wp2_with fail;refine HD.out.mono ?_;rintro e w2 ⟨rfl, hb⟩;have HBB := ae (HB.out.trans (hb.mono (by rw [hsz]; omega)));clear hb;go_wp2_with (first | (refine az rfl (aX rfl) ?_) | (refine bw rfl (jo rfl rfl rfl) ?_) | fail);go_ret;exact ⟨rfl, HBB.out.alloc HBB.out.size _⟩
theorem xn (n : Int) (x : Blk) (h : bU (cI D) w p v Fs ps M) {k : Nat} (hdk : M.dark = false) (hk : k < M.ds.length) (he : dw (M.ds.getD k cZ).S (M.ds.getD k cZ).g n = 0) (hs : M.steps < 1000000) (hll : M.left < 9223372036854775808) (hL : (M.ds.getD k cZ).L.length < 1000000) :
  Calls prog 94 #[.pointer (some ⟨p, 0, none⟩), .int .i64 k, .int .i64 n, blk x] w fun e w' => e = .returned (.int .i64 M.dX) /\ Left (cI D) w p v Fs ps M.ds.length (et M (k : Int) n x) w' := by
 obtain ⟨y, hy⟩ : ∃ y, M.ds.getD k cZ = y := ⟨_, rfl⟩;obtain ⟨q, hq⟩ : ∃ q, ps.getD k 0 = q := ⟨_, rfl⟩;have hA : Below w.heap.size w ((w.alloc (.cells #[.int .i64 n] 3)).alloc (.cells (cel x).toArray 45)) := ((Below.refl _ w).alloc aj _).alloc (by rw [World.size_alloc]; omega) _;have HO := ae (kQ (h.below hA) hdk hk);obtain ⟨hB, k0, k1, k2, hsz⟩ := nI w n x (some ⟨q, 0, none⟩);have hat := (h.below hB).devs.at_ k hk;have hr0 : cJ M (k : Int) n = 0 := by unfold cJ; rw [if_pos (mP hdk hk), M.km]; exact he
 rw [hy, hq] at hat
 rw [hy] at he hL;rw [hq] at HO;have HD := ae (D.sure n hat);have HB := ae hB;have HH := ae h;have HK0 := ae k0;have HK1 := ae k1;have HK2 := ae k2;have HE := ae he;have HSS := ae hs;have HLL := ae hll;have HL := ae hL;have HY := ae hy;have HQ := ae hq;have HR := ae hr0;obtain ⟨c0, f0⟩ := one_cell k0;obtain ⟨c2, f2⟩ := one_cell k2;rw [he] at HD;by_cases h1 : M.left = 1
 all_goals
  have H1 := ae h1;clear h1 he h hA hB k0 k1 k2 hat hy hq hdk hs hll hL hr0;go_enter func94, ntmps94;unfold wr3 at *;go_wp2_with (first | (refine az rfl (cm rfl rfl) ?_) | fail);refine HO.out.mono ?_;rintro e w1 ⟨rfl, rfl⟩;go_wp2_with fail;refine HD.out.mono ?_;rintro e w2 ⟨rfl, hb⟩;have hb2 := HB.out.trans (hb.mono (by rw [hsz]; omega));have HBB := ae (hb2.alloc hb2.size (.cells (cel (kN y.S y.g n)).toArray 45));have HA0 := ae (bJ (aC HK0 hb) (.cells (cel (kN y.S y.g n)).toArray 45));have HA1 := ae (bJ (aC HK1 hb) (.cells (cel (kN y.S y.g n)).toArray 45));have HA2 := ae (bJ (aC HK2 hb) (.cells (cel (kN y.S y.g n)).toArray 45));clear hb hb2 c0 c2 f0 f2 hsz;generalize kN y.S y.g n = z at *;go_wp2_with (first | (refine az rfl (aX rfl) ?_) | (refine bw rfl (jo rfl rfl rfl) ?_) | fail);generalize w2.alloc (.cells (cel z).toArray 45) = w3 at *
 ·refine (o6 _ (HH.out.below HBB) H1).mono ?_;rintro e w4 ⟨rfl, h4, ho4⟩;go_wp2_with fail;go_ret;refine ⟨cp (by unfold aZ.dX; rw [if_pos H1.out]), ?_⟩;rw [show et M (k : Int) n x = M.night from by unfold et; rw [if_pos HR.out, if_pos H1.out]];exact Left.above HBB (Left.obj h4 ho4 rfl)
 ·refine (ry 144 #[] _ (HH.out.below HBB) H1 HSS HLL call144 (fun z w4 => z = 0 /\ Left (cI D) w3 p v Fs ps M.ds.length (et M (k : Int) n x) w4) ?_).mono ?_
  ·intro w4 h4 ho4;have hat4 := h4.devs.at_ k hk;rw [show M.done.ds.getD k cZ = y from HY.out, HQ.out] at hat4;have hne : ∀ j, j < 3 -> w.heap.size + j ≠ p := fun j _ e => by have := aS HH.out.at_; omega
   refine (ak2 hat4 HL (ho4.keep HA2 (hne 2 (by omega))) (ho4.keep HA0 (hne 0 (by omega))) (ho4.keep HA1 (hne 1 (by omega)))).mono ?_;rintro e w5 ⟨he5, F', g1, g2, g3⟩;refine ⟨_, he5, HE, Left.behind ho4 (Left.turn h4 hk g2 g3 (d := ⟨y.S, wrL y.S y.L y.g n x, y.g⟩) (show D.Dv _ _ _ _ _ _ by rw [HQ.out]; exact g1) ?_)⟩;unfold et;rw [if_pos HR.out, if_neg H1.out, show M.dev (k : Int) = y from HY.out]
   rfl
  ·rintro e w5 ⟨z, rfl, rfl, hl5⟩;have HL5 := ae (Left.above HBB hl5);clear hl5;go_wp2_with fail;go_ret;exact ⟨cp (by unfold aZ.dX; rw [if_neg H1.out]), HL5⟩
theorem agp (d n : Int) (x : Blk) (h : bU (cI D) w p v Fs ps M) (hr : ∀ i, i < M.ds.length -> (M.ds.getD i cZ).L.length < 1000000) (hs : M.steps < 1000000) (hll : M.left < 9223372036854775808) :
  Calls prog 94 #[.pointer (some ⟨p, 0, none⟩), .int .i64 d, .int .i64 n, blk x] w fun e w' => e = .returned (.int .i64 (eZ M d n)) /\ Left (cI D) w p v Fs ps M.ds.length (et M d n x) w' := by
 by_cases h0 : eO M d = 0
 ·rcases dO M d with ⟨e, _⟩ | ⟨e, _⟩ | ⟨e, hdk, k, rfl, hk⟩
  ·omega
  ·omega
  have hr0 : cJ M (k : Int) n = dw (M.ds.getD k cZ).S (M.ds.getD k cZ).g n := by unfold cJ; rw [if_pos e, M.km]
  by_cases he : dw (M.ds.getD k cZ).S (M.ds.getD k cZ).g n = 0
  ·refine (xn n x h hdk hk he hs hll (hr k hk)).mono ?_;rintro e w' ⟨rfl, hl⟩;exact ⟨by unfold eZ; rw [hr0, if_pos he], hl⟩
  ·refine (uB n x h hdk hk he).mono ?_;rintro e w' ⟨rfl, hb⟩;exact ⟨by unfold eZ; rw [hr0, if_neg he], Left.xD h hb (by unfold et; rw [hr0, if_neg he])⟩
 ·refine (ud d n x h h0).mono ?_;rintro e w' ⟨rfl, hb⟩;have hr0 : cJ M d n = eO M d := by unfold cJ; rw [if_neg h0]
  exact ⟨by unfold eZ; rw [hr0, if_neg h0], Left.xD h hb (by unfold et; rw [hr0, if_neg h0])⟩
end
section
variable {D : Dev} {w w' : World}
theorem aky {A : Option Addr} {n c : Nat} {ks : List Int} (hl : RdE bg w w.heap.size A n ks) (hnc : n <= c) (hc : c <= maxLen) :
  Calls prog 28 #[.slice A n c] w (fL (cI D) w ks) := by
 have hlen : ks.length = n := hl.1;unfold maxLen at hc;by_cases h1 : n < 1
 ·have HN := ae (show ¬ jx ks from fun h => by have := h.1; omega);have h0 : n = 0 := by omega
  subst h0;clear hl hlen h1;go_enter func28, ntmps28;go_wp2;go_ret2;exact fL.no ak HN rfl
 by_cases h2 : 17 < n
 ·have HN := ae (show ¬ jx ks from fun h => by have := h.2.1; omega);have h1' : ¬((n : Int) < 1) := by omega
  have h2' : ((n : Int) > 17) := by omega
  clear hl hlen h1 h2;go_enter func28, ntmps28;go_wp2;go_ret2;exact fL.no ak HN rfl
 have h1' : ¬((n : Int) < 1) := by omega
 have h2' : ¬((n : Int) > 17) := by omega
 have h3' : ¬(17 < (n : Int)) := by omega
 have HL := ae hl;have HLEN := ae hlen;have HMK := ae (show Making (cI D) w (w.alloc (.cells #[.slice none 0 0, .int .i64 0, .int .i64 0, .bool false] 126)) (.slice none 0 0) (fun _ _ => False) [] [] 0 false 0 from
  ⟨heap_alloc_new w _, aQ.nil _ _, ⟨rfl, fun i hi => absurd hi (Nat.not_lt_zero i), fun i j hi => absurd hi (Nat.not_lt_zero i)⟩, fun i hi => absurd hi (Nat.not_lt_zero i), (Below.refl _ w).alloc aj _⟩)
 clear hl hlen;go_enter func28, ntmps28;go_wp2_with fail;generalize w.alloc (.cells #[.slice none 0 0, .int .i64 0, .int .i64 0, .bool false] 126) = w0 at *;clear h1' h2' h3'
 go_loopw [21] (fun i wr => ∃ (j : Nat) (v : Value) (Fs : Nat -> Nat -> Prop) (ps : List Nat), j <= n /\ i = .int .i64 j /\ Making (cI D) w wr v Fs ps ((ks.take j).map oW) 0 false 0 /\ ∀ q, q < j -> 1 <= ks.getD q 0 /\ ks.getD q 0 <= 512) (fun i _ => n - (intOf i).toNat)
 case atStart => exact ⟨0, _, _, _, Nat.zero_le _, rfl, HMK, fun q hq => absurd hq (Nat.not_lt_zero q)⟩
 case round =>
  obtain ⟨j, v, Fs, ps, hj, rfl, hmk, hall⟩ := hrel;have HALL := ae hall;clear hall HMK;by_cases hlt : j < n
  ·have hlj : (j : Int) < (n : Int) := by omega
   obtain ⟨bA, oA, rfl, hbA, hcA⟩ := (HL.out.below hmk.below).int hlt;have HM := ae hmk;obtain ⟨AS, cS, rfl, hs1, hs2⟩ := hmk.row.form;unfold maxLen at hs2;have hpl : ps.length = j := by have := hmk.devs.len; rw [List.length_map, List.length_take] at this; have := HLEN.out; omega
   have HPL := ae hpl;obtain ⟨z, hz⟩ : ∃ z, ks.getD j 0 = z := ⟨_, rfl⟩;rw [hz] at hcA;have HZ := ae hz;clear hmk hz hpl;by_cases hok : 1 <= z /\ z <= 512
   ·obtain ⟨k, rfl⟩ : ∃ k : Nat, z = k := ⟨z.toNat, by omega⟩;have hk1 : 1 <= k := by omega
    have hk2 : k <= 512 := by omega
    clear hok;go_wp2_with fail;refine (D.new_ok k wr hk1 hk2).mono ?_;rintro e w1 ⟨p', F', rfl, hd1, hb1, hF1⟩;have hat1 := aC HM.out.at_ hb1;obtain ⟨c0, c1, c2, c3⟩ := eM hat1;have hrow1 := HM.out.row.below hb1;have hrow2 := hrow1.below ((Below.refl _ w1).alloc aj (.cells ((cI D).E.cel p').toArray (cI D).E.t));have HR := ae hrow2;have HNEW := ae (eB (E := (cI D).E) (l := [p']) w1 ((cI D).E.cel p').toArray (cI D).E.t (by rw [eN]; simp [cH]));have HSZ := ae (show w.heap.size <= (w1.alloc (.cells ((cI D).E.cel p').toArray (cI D).E.t)).heap.size by rw [World.size_alloc]; have := HM.out.below.size; have := hb1.size; omega);have HD1 := ae hd1;have HB1 := ae hb1;have HF1 := ae hF1;have HAT := ae hat1;have HPS := ae (show ps.length + 1 <= 34359738368 by have := HPL.out; omega);clear hd1 hb1 hF1 hat1 hrow1 hrow2;have hal : w.heap.size < w1.heap.size := aS HAT;go_wp2_with (first | (refine az rfl (da (E := (cI D).E) (a := p') rfl rfl rfl (by decide)) ?_) | (at_builtin; refine kq (cI D).E rfl _ _ rfl w.heap.size _ _ _ _ ps [p'] _ rfl rfl HR HNEW HSZ HPS ?_) | fail);intro v' w3 hm3 hg3 ho3;have hxv : v'.ownBlock ≠ some w.heap.size := fun e => by
     rcases ho3 _ e with e' | e'
     ·exact HM.out.row.dZ HM.out.at_ (cI D).ne e'
     ·omega
    have HNX := ae (HM.out.next (fun _ _ => rfl) HB1 HF1 (d := oW k) HD1 hm3 hg3 ho3);have hvx : (Value.slice AS ps.length cS).ownBlock ≠ some w.heap.size := HM.out.row.dZ HM.out.at_ (cI D).ne;have hat3 : w3.heap[w.heap.size]? = some _ := (hg3.block w.heap.size (by rw [World.size_alloc]; omega) (fun e => hvx e.symm)).trans (bJ HAT _);obtain ⟨AV, cV, rfl, _, _⟩ := hm3.form;obtain ⟨d0, d1, d2, d3⟩ := eM hat3;have f0 := frozen_of_row w3 w.heap.size 0 _ _ hat3;clear hm3 hg3 ho3 hat3 c0 c1 c2 c3;go_wp2_with fail;go_roundw
    case rel =>
     refine ⟨j + 1, .slice AV (ps.length + 1) cV, upF Fs (List.map oW (List.take j ks)).length F', ps ++ [p'], by omega, by go_num, ?_, fun q hq => ?_⟩
     ·rw [lP (by have := HLEN.out; omega), HZ.out];have h6 := HNX.out;rw [show (ps ++ [p']).length = ps.length + 1 from by simp] at h6;exact h6
     ·by_cases e : q = j
      ·subst e; rw [HZ.out]; omega
      ·exact HALL.out q (by omega)
    case measure => simp [intOf]; omega
   ·have HB := ae HM.out.below;have HN := ae (show ¬ jx ks from fun h => hok (by have := h.2.2 z (by rw [<- HZ.out]; exact lj (by have := HLEN.out; omega)); exact this));go_wp2_with fail;refine (D.new_no z wr hok).mono ?_;rintro e w1 ⟨rfl, hb1⟩;have HB1 := ae (HB.out.trans (hb1.mono HB.out.size));clear hb1 hok;go_wp2_with fail;go_ret2;exact fL.no HB1 HN rfl
  ·have hjn : j = n := by omega
   subst hjn;have hlj : ¬((j : Int) < (j : Int)) := by omega
   have HM := ae hmk;clear hmk;go_wp2_with fail;go_ret2;have h5 := HM.out;have hLL := HLEN.out;rw [<- hLL, List.take_length] at h5;obtain ⟨g1, g2, g3⟩ := h5.done (by rw [List.length_map]; omega) (by rw [List.length_map]; omega);refine ⟨g3, .inl ⟨⟨by omega, by omega, fun k hk => ?_⟩, _, _, _, _, rfl, g1, g2⟩⟩;obtain ⟨i, hi, rfl⟩ := List.getElem_of_mem hk;have := HALL.out i (by omega);rwa [List.getD_eq_getElem?_getD, List.getElem?_eq_getElem hi] at this
end
structure ahk where
 read : FuncId
 write : FuncId
 flush : FuncId
 fail : FuncId
 devices : FuncId
 gd : FuncId
structure aZ.Wf (M : aZ) : Prop where
 one : 1 <= M.ds.length
 cap : M.ds.length <= 17
 len : ∀ i, i < M.ds.length -> 1 <= (M.ds.getD i cZ).S.length /\ (M.ds.getD i cZ).S.length <= 512
structure Ben (I : ahk) where
 Bn : World -> (Nat -> Prop) -> Nat -> aZ -> Prop
 lt : ∀ {w F p M}, Bn w F p M -> ∀ b, F b -> b < w.heap.size
 only : ∀ {w w' F G p M}, Bn w F p M -> Only G w w' -> (∀ b, F b -> ¬ G b) -> Bn w' F p M
 wf : ∀ {w F p M}, Bn w F p M -> M.Wf
 read : ∀ {w F p M} (d n : Int), Bn w F p M -> Calls prog I.read #[.pointer (some ⟨p, 0, none⟩), .int .i64 d, .int .i64 n] w fun e w' => e = .returned (.tuple #[blk (fo M d n), .int .i64 (cJ M d n)]) /\ Below w.heap.size w w'
 write : ∀ {w F p M} (d n : Int) (b : Blk), Room M 1 -> Bn w F p M -> Calls prog I.write #[.pointer (some ⟨p, 0, none⟩), .int .i64 d, .int .i64 n, blk b] w fun e w' => e = .returned (.int .i64 (eZ M d n)) /\ ∃ F', Bn w' F' p (et M d n b) /\ Only F w w' /\ Grow w F F'
 flush : ∀ {w F p M} (d : Int), Room M 1 -> Bn w F p M -> Calls prog I.flush #[.pointer (some ⟨p, 0, none⟩), .int .i64 d] w fun e w' => e = .returned (.int .i64 (ib M d)) /\ ∃ F', Bn w' F' p (gh M d) /\ Only F w w' /\ Grow w F F'
 fail : ∀ {w F p M} (d : Int), Bn w F p M -> Calls prog I.fail #[.pointer (some ⟨p, 0, none⟩), .int .i64 d] w fun e w' => e = .returned (.int .i64 (oq M d)) /\ ∃ F', Bn w' F' p (ki M d) /\ Only F w w' /\ Grow w F F'
 devices : ∀ {w F p M}, Bn w F p M -> Calls prog I.devices #[.pointer (some ⟨p, 0, none⟩)] w fun e w' => e = .returned (.int .i64 (M.ds.length : Int)) /\ Below w.heap.size w w'
 gd : ∀ {w F p M} (d : Int), Bn w F p M -> Calls prog I.gd #[.pointer (some ⟨p, 0, none⟩), .int .i64 d] w fun e w' => e = .returned (.int .i64 (iV M d)) /\ Below w.heap.size w w'
theorem Ben.below {I : ahk} (R : Ben I) {w w' : World} {F : Nat -> Prop} {p : Nat} {M : aZ} (h : R.Bn w F p M) (k : Below w.heap.size w w') : R.Bn w' F p M := R.only h (Only.of_below (fun _ => False) k) fun _ _ e => e
section
variable {k : ij} {w w' : World} {F G : Nat -> Prop} {p : Nat} {M M' : aZ}
def ajs (Bn : World -> (Nat -> Prop) -> Nat -> aZ -> Prop) (w : World) (ks : List Int) (e : Ending) (w' : World) : Prop :=
 Below w.heap.size w w' /\ ((jx ks /\ ∃ p F, e = .returned (.tuple #[.pointer (some ⟨p, 0, none⟩), .int .i64 0]) /\ Bn w' F p (fI ks) /\ ∀ b, F b -> w.heap.size <= b) \/ (¬ jx ks /\ e = .returned (.tuple #[.pointer none, .int .i64 2])))
def InB (k : ij) (w : World) (F : Nat -> Prop) (p : Nat) (M : aZ) : Prop := ∃ v Fs ps, F = iY p v Fs M.ds.length /\ bU k w p v Fs ps M
theorem InB.lt (h : InB k w F p M) : ∀ b, F b -> b < w.heap.size := by
 obtain ⟨v, Fs, ps, rfl, h⟩ := h;exact h.lt
theorem InB.only (h : InB k w F p M) (ho : Only G w w') (hn : ∀ b, F b -> ¬ G b) : InB k w' F p M := by
 obtain ⟨v, Fs, ps, rfl, h⟩ := h;exact ⟨v, Fs, ps, rfl, h.only ho hn⟩
theorem Left.out {v : Value} {Fs : Nat -> Nat -> Prop} {ps : List Nat} (h : Left k w p v Fs ps M.ds.length M' w') : ∃ F', InB k w' F' p M' /\ Only (iY p v Fs M.ds.length) w w' /\ Grow w (iY p v Fs M.ds.length) F' := by
 obtain ⟨Fs', ps', h1, h2, h3⟩ := h;exact ⟨_, ⟨v, Fs', ps', rfl, h1⟩, h2, h3⟩
end
def akJ : ahk where
 read := 164
 write := 94
 flush := 213
 fail := 14
 devices := 75
 gd := 129
theorem Dev.akK {D : Dev} {w : World} {p : Nat} {v : Value} {Fs : Nat -> Nat -> Prop} {ps : List Nat} {M : aZ} (h : bU (cI D) w p v Fs ps M) : M.Wf :=
 ⟨h.one, h.cap, fun i hi => ⟨(D.fit (h.devs.at_ i hi)).2, D.cap (h.devs.at_ i hi)⟩⟩
def ald (D : Dev) : Ben akJ where
 Bn := InB (cI D)
 lt := InB.lt
 only := InB.only
 wf := fun ⟨_, _, _, _, h⟩ => D.akK h
 read := fun d n ⟨_, _, _, _, h⟩ => ajv d n h
 write := fun d n b hr ⟨_, _, _, e, h⟩ => by
  subst e;exact (agp d n b h (fun i hi => hr.at_ hi) (by have := hr.1; omega) hr.2.1).mono fun e w' ⟨h1, h2⟩ => ⟨h1, h2.out⟩
 flush := fun d hr ⟨_, _, _, e, h⟩ => by
  subst e;exact (ag6 d h (by have := hr.1; omega) hr.2.1).mono fun e w' ⟨h1, h2⟩ => ⟨h1, h2.out⟩
 fail := fun d ⟨_, _, _, e, h⟩ => by
  subst e;exact (ain d h).mono fun e w' ⟨h1, h2⟩ => ⟨h1, h2.out⟩
 devices := fun ⟨_, _, _, _, h⟩ => (rC h).mono fun e w' ⟨h1, h2⟩ => ⟨h1, i2 h2⟩
 gd := fun d ⟨_, _, _, _, h⟩ => abn d h
theorem fL.hid {k : ij} {w w' : World} {ks : List Int} {e : Ending} (h : fL k w ks e w') : ajs (InB k) w ks e w' := by
 obtain ⟨h1, h | h⟩ := h
 ·obtain ⟨h0, p, v, Fs, ps, h2, h3, h4⟩ := h;exact ⟨h1, .inl ⟨h0, p, _, h2, ⟨v, Fs, ps, rfl, h3⟩, h4⟩⟩
 ·exact ⟨h1, .inr h⟩
structure akO extends Ben akJ where
 new : ∀ {w A n c ks}, RdE bg w w.heap.size A n ks -> n <= c -> c <= maxLen -> Calls prog 28 #[.slice A n c] w (ajs Bn w ks)
def bL : akO where
 toBen := ald ajB
 new := fun h1 h2 h3 => (aky h1 h2 h3).mono fun _ _ h => h.hid
section
variable {ρ : Operand -> Value} {o : Oper} {x y : Operand} {w : World} {a : Int}
theorem afZ : (convert 3 53 (.int .i64 a)).run prog w = .ok (.int .u64 (IntKind.u64.wrap a)) w := by
 simp [convert, go_sem]
theorem afT (h : IntKind.i64.wrap a = a) : (convert 53 3 (.int .u64 a)).run prog w = .ok (.int .i64 a) w := by
 simp [convert, go_sem, h]
theorem pL (ho : o.op = .convert 3 53 x) (hx : ρ x = .int .i64 a) : (execOp ρ o).run prog w = .ok (.value (.int .u64 (IntKind.u64.wrap a))) w := by
 unfold execOp;simp only [ho, hx, Sem.run_bind, afZ, Result.andThen_ok, Sem.run_pure]
theorem tY (ho : o.op = .convert 3 53 x) (hx : ρ x = .int .i64 a) (h : IntKind.u64.wrap a = a) : (execOp ρ o).run prog w = .ok (.value (.int .u64 a)) w := by
 have := pL (ρ := ρ) (w := w) ho hx;rwa [h] at this
theorem tX (ho : o.op = .convert 53 3 x) (hx : ρ x = .int .u64 a) (h : IntKind.i64.wrap a = a) : (execOp ρ o).run prog w = .ok (.value (.int .i64 a)) w := by
 unfold execOp;simp only [ho, hx, Sem.run_bind, afT h, Result.andThen_ok, Sem.run_pure]
theorem sm {t r : TypeId} {b c : Int} (ho : o.op = .binOp .rem t x y r) (hx : ρ x = .int .u64 a) (hy : ρ y = .int .u64 b) (h0 : b ≠ 0) (h : a.tmod b = c) : (execOp ρ o).run prog w = .ok (.value (.int .u64 c)) w := by
 unfold execOp;simp [ho, hx, hy, eqGuard, binOp, Op.intDiv, h, h0]
end
theorem zB (a : Int) (n : Nat) (h : 0 < n) : ∃ k : Nat, k < n /\ (IntKind.u64.wrap a).tmod (n : Int) = (k : Int) := by
 have h1 : 0 <= IntKind.u64.wrap a := by rw [IntKind.wrap_u64]; omega
 have h2 := Int.tmod_eq_emod_of_nonneg (b := (n : Int)) h1;have h3 := Int.emod_nonneg (IntKind.u64.wrap a) (b := (n : Int)) (by omega);have h4 := Int.emod_lt_of_pos (IntKind.u64.wrap a) (b := (n : Int)) (by omega);obtain ⟨k, hk⟩ := Int.eq_ofNat_of_zero_le h3;exact ⟨k, by omega, by rw [h2, hk]⟩
section
variable {ρ : Operand -> Value} {o : Oper} {x y : Operand} {w : World} {a : Int}
theorem aaF {t r : TypeId} {b c : Int} (ho : o.op = .binOp .rem t x y r) (hx : ρ x = .int .u8 a) (hy : ρ y = .int .u8 b) (h0 : b ≠ 0) (h : a.tmod b = c) : (execOp ρ o).run prog w = .ok (.value (.int .u8 c)) w := by
 unfold execOp;simp [ho, hx, hy, eqGuard, binOp, Op.intDiv, h, h0]
theorem agF (h : IntKind.i64.wrap a = a) : (convert 5 3 (.int .u8 a)).run prog w = .ok (.int .i64 a) w := by
 simp [convert, go_sem, h]
theorem vE (ho : o.op = .convert 5 3 x) (hx : ρ x = .int .u8 a) (h : IntKind.i64.wrap a = a) : (execOp ρ o).run prog w = .ok (.value (.int .i64 a)) w := by
 unfold execOp;simp only [ho, hx, Sem.run_bind, agF h, Result.andThen_ok, Sem.run_pure]
end
theorem eF {a : Int} (h : -9223372036854775808 <= a /\ a <= 9223372036854775807) : IntKind.i64.wrap a = a := IntWalk.i64_in _ ⟨by omega, by omega⟩
def jH : Elt (Int × Blk) := vG 181 218 underlying181 (by kernel_rfl)
structure eS (w : World) (p : Nat) (vS vL : Value) (S : List Blk) (L : List (Int × Blk)) (g : Bool) : Prop where
 at_ : w.heap[p]? = some (.cells #[vS, vL, .bool g] 183)
 S_ : aQ gP w 0 vS S
 L_ : aQ jH w 0 vL L
section
variable {w w' : World} {p : Nat} {vS vL : Value} {S : List Blk} {L : List (Int × Blk)} {g : Bool} {F : Nat -> Prop}
theorem eS.lt (h : eS w p vS vL S L g) : ∀ k, foot p vS vL k -> k < w.heap.size := by
 intro k hk;rcases hk with rfl | hk | hk
 ·exact (Array.getElem?_eq_some_iff.1 h.at_).1
 ·exact h.S_.kE k hk
 ·exact h.L_.kE k hk
theorem eS.only (h : eS w p vS vL S L g) (k : Only F w w') (hn : ∀ b, foot p vS vL b -> ¬ F b) : eS w' p vS vL S L g :=
 ⟨k.keep h.at_ (hn p (.inl rfl)), h.S_.only k fun b hb => hn b (.inr (.inl hb)), h.L_.only k fun b hb => hn b (.inr (.inr hb))⟩
theorem eS.below (h : eS w p vS vL S L g) (k : Below w.heap.size w w') : eS w' p vS vL S L g := h.only (Only.of_below (fun _ => False) k) fun _ _ e => e
end
theorem l8 (p : Nat) (vS vL : Value) (S : List Blk) (L : List (Int × Blk)) (g : Bool) (n : Int) (w : World) (h : eS w p vS vL S L g) :
  Calls prog 149 #[.pointer (some ⟨p, 0, none⟩), .int .i64 n] w fun e w' => e = .returned (.int .i64 (dw S g n)) /\ w = w' := by
 obtain ⟨c0, c1, c2⟩ := cells3 h.at_;obtain ⟨A, c, rfl, hc1, hc2⟩ := h.S_.form;by_cases h0 : n < 0
 ·have HE := ae (pG (S := S) (n := n) g (by omega));go_enter func149, ntmps149;go_wp2;go_ret;exact ⟨cp HE.out.symm, rfl⟩
 ·by_cases h1 : n < S.length
  ·cases g
   ·have HE := ae (lK (S := S) (n := n) (by omega));go_enter func149, ntmps149;go_wp2;go_ret;exact ⟨cp HE.out.symm, rfl⟩
   ·have HE := ae (rk (S := S) (n := n) (by omega));go_enter func149, ntmps149;go_wp2;go_ret;exact ⟨cp HE.out.symm, rfl⟩
  ·have HE := ae (pG (S := S) (n := n) g (by omega));go_enter func149, ntmps149;go_wp2;go_ret;exact ⟨cp HE.out.symm, rfl⟩
theorem aaG (p : Nat) (vS vL : Value) (S : List Blk) (L : List (Int × Blk)) (g : Bool) (n : Int) (w : World) (h : eS w p vS vL S L g) (he0 : dw S g n ≠ 0) :
  Calls prog 196 #[.pointer (some ⟨p, 0, none⟩), .int .i64 n] w fun e w' => e = .returned (.tuple #[blk (ge S L g n), .int .i64 (dw S g n)]) /\ Below w.heap.size w w' := by
 have hA := (Below.refl w.heap.size w).alloc aj (.cells (cel aF).toArray 45);have h1 := h.below hA;have HT := ae (eu w aF 45);have HA := ae hA;have HS := ae (pI (L := L) he0);clear hA;rcases fp (S := S) (g := g) (n := n) with he | he | ⟨he, _⟩
 ·have HE := ae he;clear he he0;go_enter func196, ntmps196;go_wp2_with (first | (refine az rfl (aX rfl) ?_) | fail);refine (l8 p vS vL S L g n _ h1).mono ?_;rintro e w1 ⟨rfl, rfl⟩;rw [HE.out];go_wp2_with (first | (refine az rfl (cQ (c := aF) (parts := []) rfl rfl) ?_) | (refine bw rfl (aU rfl rfl rfl HT.out) ?_));refine bodyPost_ret (cj rfl _ _ _ rfl (World.rangeAt_setCells_same _ _ _ _ (by rw [aK]; exact HT))) rfl ⟨by rw [HS.out, HE.out]; rfl, below_setCells HA aj _⟩
 ·have HE := ae he;clear he he0;go_enter func196, ntmps196;go_wp2_with (first | (refine az rfl (aX rfl) ?_) | fail);refine (l8 p vS vL S L g n _ h1).mono ?_;rintro e w1 ⟨rfl, rfl⟩;rw [HE.out];go_wp2_with (first | (refine az rfl (cQ (c := aF) (parts := []) rfl rfl) ?_) | (refine bw rfl (aU rfl rfl rfl HT.out) ?_));refine bodyPost_ret (cj rfl _ _ _ rfl (World.rangeAt_setCells_same _ _ _ _ (by rw [aK]; exact HT))) rfl ⟨by rw [HS.out, HE.out]; rfl, below_setCells HA aj _⟩
 ·exact absurd he he0
theorem abu (p k : Nat) (vS vL : Value) (S : List Blk) (L : List (Int × Blk)) (w : World) (h : eS w p vS vL S L false) (hk : k < S.length) :
  Calls prog 196 #[.pointer (some ⟨p, 0, none⟩), .int .i64 k] w fun e w' => e = .returned (.tuple #[blk (ge S L false k), .int .i64 0]) /\ Below w.heap.size w w' := by
 have hA := (Below.refl w.heap.size w).alloc aj (.cells (cel aF).toArray 45);have h1 := h.below hA;have he : dw S false k = 0 := lK (by omega);have HE := ae he;have HS := ae (qk (L := L) he);have HN1 := kB w (cel aF).toArray 45;clear he;obtain ⟨A, c, rfl, hrd, hc1, hc2⟩ := h1.S_.open_ rfl;obtain ⟨b, off, rfl, hb, hr⟩ := hrd.blk hk;obtain ⟨c0, c1, c2⟩ := cells3 h1.at_;generalize S.getD k aF = x at *;have HR := ae hr;have HH := ae h1;have HA := ae hA;have HN := ae HN1;have HSZ := ae (World.size_alloc w (.cells (cel aF).toArray 45));clear hr hrd h1 hA h HN1;go_enter func196, ntmps196;go_wp2_with (first | (refine az rfl (aX rfl) ?_) | fail);generalize w.alloc (.cells (cel aF).toArray 45) = w1 at *;refine (l8 p _ vL S L false k _ HH).mono ?_;rintro e w2 ⟨rfl, rfl⟩;rw [HE.out];go_wp2_with (first | (refine az rfl (aV rfl rfl HR.out) ?_) | (refine az rfl (aX rfl) ?_) | (refine bw rfl (jo rfl rfl rfl) ?_) | fail);have HY := ae (kB w1 (cel x).toArray 45);have HH2 := ae (HH.out.below (ak.alloc aj (.cells (cel x).toArray 45)));have HK2 := ae (bJ HN (.cells (cel x).toArray 45));have HA2 := ae (HA.out.alloc HA.out.size (.cells (cel x).toArray 45));have HF := ae HH.out.lt;have hyw : w.heap.size < w1.heap.size := by rw [HSZ.out]; omega
 have HSZ2 := ae (World.size_alloc w1 (.cells (cel x).toArray 45));clear HH HN HA c0 c1 c2 HR;generalize hy : w1.heap.size = y at *;generalize w1.alloc (.cells (cel x).toArray 45) = w2 at *;clear hy;go_wp2_with fail
 go_loopw [8] (fun i wr => ∃ j : Nat, j <= L.length /\ i = .int .i64 j /\ Only (fun b => b = y) w2 wr /\ wr.heap[y]? = some (.cells (cel (ls (L.take j) k x)).toArray 45)) (fun i _ => L.length - (intOf i).toNat)
 case atStart => exact ⟨0, Nat.zero_le _, rfl, Only.refl _ _, HY⟩
 case round =>
  obtain ⟨j, hj, rfl, hon, hY⟩ := hrel;have hH := HH2.out.only hon (fun b hb e => by have := HF.out b hb; omega);obtain ⟨c0, c1, c2⟩ := cells3 hH.at_;obtain ⟨AL, cL, rfl, hrd, hl1, hl2⟩ := hH.L_.open_ rfl;unfold maxLen at hl2;have HON := ae hon;have HYW := ae hY;clear hon hY hH;by_cases hlt : j < L.length
  ·have HNX := ae (lW (L := L) (k : Int) x hlt);obtain ⟨bA, oA, rfl, hA, cA, rA⟩ := hrd.pair hlt;generalize L.getD j (0, aF) = q at *;obtain ⟨qn, qb⟩ := q;have HRA := ae rA;have HTY := ae (bQ HYW);clear rA hrd;have hAw : bA ≠ y := by have := HF.out bA (.inr (.inr rfl)); omega
   have hLL : (j : Int) < (L.length : Int) := by omega
   by_cases e : qn = (k : Int)
   ·simp only [e, if_true] at HNX;subst e;go_wp2_with (first | (refine az rfl (aV rfl rfl HRA.out) ?_) | (refine bw rfl (aU rfl rfl rfl HTY.out) ?_));go_roundw
    case rel => exact ⟨j + 1, by omega, by go_num, HON.out.setCells (.inl rfl) _ _, by rw [HNX.out]; exact mQ HYW⟩
    case measure => simp [intOf]; omega
   ·rw [if_neg e] at HNX;go_wp2_with (first | (refine az rfl (aV rfl rfl HRA.out) ?_) | (refine bw rfl (aU rfl rfl rfl HTY.out) ?_));go_roundw
    case rel => exact ⟨j + 1, by omega, by go_num, HON, by rw [HNX.out]; exact HYW⟩
    case measure => simp [intOf]; omega
  ·have hjn : j = L.length := by omega
   subst hjn;have HR := ae (HON.out.keep HK2 (by omega));have HTR := ae (bQ HR);have HRY := ae (jG HYW);rw [List.take_length] at HRY;generalize ls L (k : Int) x = z at *;have hLL : ¬((L.length : Int) < (L.length : Int)) := by omega
   go_wp2_with (first | (refine az rfl (aV rfl rfl HRY.out) ?_) | (refine bw rfl (aU rfl rfl rfl HTR.out) ?_));refine bodyPost_ret (cj rfl _ _ _ rfl (World.rangeAt_setCells_same _ _ _ _ (by rw [aK]; exact HTR))) rfl ⟨by rw [HS.out]; rfl, ?_⟩;exact below_setCells (HA2.out.trans (HON.out.below (fun b hb => by omega) (by rw [HSZ2.out]; omega))) aj _
theorem ajp (p : Nat) (vS vL : Value) (S : List Blk) (L : List (Int × Blk)) (g : Bool) (n : Int) (w : World) (h : eS w p vS vL S L g) :
  Calls prog 196 #[.pointer (some ⟨p, 0, none⟩), .int .i64 n] w fun e w' => e = .returned (.tuple #[blk (ge S L g n), .int .i64 (dw S g n)]) /\ Below w.heap.size w w' := by
 by_cases he : dw S g n = 0
 ·rcases fp (S := S) (g := g) (n := n) with h1 | h1 | ⟨_, rfl, k, rfl, hk⟩
  ·omega
  ·omega
  ·rw [he]; exact abu p k vS vL S L w h hk
 ·exact aaG p vS vL S L g n w h he
section
variable {w w' : World} {p : Nat} {vS vL : Value} {S : List Blk} {L : List (Int × Blk)} {g : Bool}
theorem eS.ak9 (h : eS w p vS vL S L g) (g' : Bool) : eS (w.setCell ⟨p, 2, none⟩ (.bool g')) p vS vL S L g' := by
 have hO := eE w p 2 (.bool g');refine ⟨?_, h.S_.only hO fun b hb e => h.S_.dZ h.at_ (by decide) (by rw [hb, e]), h.L_.only hO fun b hb e => h.L_.dZ h.at_ (by decide) (by rw [hb, e])⟩;have := heap_setCell_same w p 2 _ _ (.bool g') h.at_
 simpa using this
theorem eS.dk (h : eS w p vS vL S L g) {vL' : Value} {L' : List (Int × Blk)} (h' : aQ jH w 0 vL' L') : eS (w.setCell ⟨p, 1, none⟩ vL') p vS vL' S L' g := by
 have hO := eE w p 1 vL';refine ⟨?_, h.S_.only hO fun b hb e => h.S_.dZ h.at_ (by decide) (by rw [hb, e]), h'.only hO fun b hb e => h'.dZ h.at_ (by decide) (by rw [hb, e])⟩;have := heap_setCell_same w p 1 _ _ vL' h.at_
 simpa using this
theorem akS (hp : w.heap[p]? = some (.cells #[vS, vL, .bool g] 183)) (hS : aQ gP w 0 vS S) {vL' : Value} {L' : List (Int × Blk)} (h' : aQ jH w 0 vL' L') : eS (w.setCell ⟨p, 1, none⟩ vL') p vS vL' S L' g := by
 have hO := eE w p 1 vL';refine ⟨?_, hS.only hO fun b hb e => hS.dZ hp (by decide) (by rw [hb, e]), h'.only hO fun b hb e => h'.dZ hp (by decide) (by rw [hb, e])⟩;have := heap_setCell_same w p 1 _ _ vL' hp
 simpa using this
theorem aln {b : Nat} : (Instr.fieldAt 183 (.pointer (some ⟨b, 0, none⟩)) 0).run prog w = .ok (.pointer (some ⟨b, 0, none⟩)) w := by kernel_rfl
theorem agW {b : Nat} : (Instr.fieldAt 183 (.pointer (some ⟨b, 0, none⟩)) 1).run prog w = .ok (.pointer (some ⟨b, 1, none⟩)) w := by kernel_rfl
theorem ajz {a : Addr} {A : Option Addr} {n c : Nat} (h : w.cell? a = some (.slice A n c)) : (Instr.loadAt 181 (.pointer (some a))).run prog w = .ok (.slice A n c) w := by simp [go_sem, h]
theorem stS {a : Addr} {v : Value} {A : Option Addr} {n c : Nat} (h : w.cell? a = some v) (hf : w.frozen? a = false) : (Instr.storeAt 181 (.pointer (some a)) (.slice A n c)).run prog w = .ok () (w.setCell a (.slice A n c)) := by simp [go_sem, h, hf]
theorem yj (k : Int) (b : Blk) : (Instr.build 218 #[(0, .int .i64 k), (1, blk b)]).run prog w = .ok (i9 k b) w := by
 have hz := lI jH w;have h1 := dm (place := fun i => (#[(0, 1), (1, 64)] : Array (Nat × Nat))[i]?) (i := 0) (off := 0) (size := 1) (v := .int .i64 k) (pre := []) (mid := [.int .i64 0]) (post := cel aF) (vs := [.int .i64 k]) (rest := [(1, blk b)]) rfl rfl rfl rfl rfl;have h2 := dm (place := fun i => (#[(0, 1), (1, 64)] : Array (Nat × Nat))[i]?) (i := 1) (off := 1) (size := 64) (v := blk b) (pre := [.int .i64 k]) (mid := cel aF) (post := []) (vs := cel b) (rest := []) rfl rfl (aK b) rfl (aK aF);simp only [List.nil_append, List.append_nil, List.singleton_append] at h1 h2;have h3 := h1.trans h2;have hz' : (zeroValue 218).run prog w = .ok (i9 0 aF) w := hz;have hc : (i9 0 aF).cells = (.int .i64 0 :: cel aF).toArray := rfl;simp only [Instr.build, Sem.run_bind, hz', run_underlying underlying218, Result.andThen_ok, hc];refine Eq.trans (congrArg (fun r => Result.andThen r _) (?h : _ = Result.ok #[(0, 1), (1, 64)] w)) ?_
 case h => kernel_rfl
 simp only [Result.andThen_ok];have h4 : Instr.fill (fun i => (#[(0, 1), (1, 64)] : Array (Nat × Nat))[i]?) (.int .i64 k :: cel b).toArray [] = some (.int .i64 k :: cel b).toArray := by rw [Instr.fill]
 rw [h3.trans h4]
 rfl
theorem uh {ρ : Operand -> Value} {o : Oper} {x y : Operand} {k : Int} {b : Blk} (ho : o.op = .build 218 #[(0, x), (1, y)]) (hx : ρ x = .int .i64 k) (hy : ρ y = blk b) : (execOp ρ o).run prog w = .ok (.value (i9 k b)) w := by
 have h := yj (w := w) k b;unfold execOp;simp only [ho, List.map_toArray, List.map_cons, List.map_nil, hx, hy, Sem.run_bind, h, Result.andThen_ok, Sem.run_pure]
theorem pair_cells (k : Int) (b : Blk) : (i9 k b).cells = (jH.cel (k, b)).toArray := rfl
end
theorem ah9 (p : Nat) (vS vL : Value) (S : List Blk) (L : List (Int × Blk)) (g : Bool) (w : World) (h : eS w p vS vL S L g) :
  Calls prog 101 #[.pointer (some ⟨p, 0, none⟩)] w fun e w' => (∃ v, e = .returned v) /\ eS w' p vS (.slice none 0 0) S [] true /\ Only (foot p vS vL) w w' := by
 obtain ⟨c0, c1, c2⟩ := cells3 h.at_;have f1 := frozen_of_row w p 1 _ _ h.at_;have f2 := frozen_of_row w p 2 _ _ h.at_;have H := ae h;clear h;go_enter func101, ntmps101;go_wp2;refine bodyPost_end (results_none rfl _ _ _) rfl ⟨⟨_, rfl⟩, (H.out.ak9 true).dk (aQ.nil _ _), ?_⟩;exact ((eE w p 2 _).trans (eE _ p 1 _) fun b hb => .inl hb).widen fun b hb => .inl hb
theorem yg (p : Nat) (vS vL : Value) (S : List Blk) (L : List (Int × Blk)) (g : Bool) (n : Int) (b : Blk) (w : World) (h : eS w p vS vL S L g) (he0 : dw S g n ≠ 0) :
  Calls prog 151 #[.pointer (some ⟨p, 0, none⟩), .int .i64 n, blk b] w fun e w' => e = .returned (.int .i64 (dw S g n)) /\ Below w.heap.size w w' := by
 have hA := (Below.refl w.heap.size w).alloc aj (.cells (cel b).toArray 45);have h1 := h.below hA;have HA := ae hA;clear hA;have H0 := ae he0;rcases fp (S := S) (g := g) (n := n) with he | he | ⟨he, _⟩
 ·have HE := ae he;clear he he0;go_enter func151, ntmps151;go_wp2_with (first | (refine az rfl (cm rfl rfl) ?_) | fail);refine (l8 p vS vL S L g n _ h1).mono ?_;rintro e w1 ⟨rfl, rfl⟩;rw [HE.out];go_wp2_with fail;go_ret;exact ⟨cp HE.out.symm, HA⟩
 ·have HE := ae he;clear he he0;go_enter func151, ntmps151;go_wp2_with (first | (refine az rfl (cm rfl rfl) ?_) | fail);refine (l8 p vS vL S L g n _ h1).mono ?_;rintro e w1 ⟨rfl, rfl⟩;rw [HE.out];go_wp2_with fail;go_ret;exact ⟨cp HE.out.symm, HA⟩
 ·exact absurd he he0
theorem yO (p k : Nat) (vS vL : Value) (S : List Blk) (L : List (Int × Blk)) (b : Blk) (w : World) (h : eS w p vS vL S L false) (hk : k < S.length) (hL : L.length < 1000000) :
  Calls prog 151 #[.pointer (some ⟨p, 0, none⟩), .int .i64 k, blk b] w fun e w' => e = .returned (.int .i64 0) /\ ∃ vL', eS w' p vS vL' S (L ++ [((k : Int), b)]) false /\ Only (foot p vS vL) w w' /\ (∀ x, vL'.ownBlock = some x -> vL.ownBlock = some x \/ w.heap.size <= x) := by
 have hA := (Below.refl w.heap.size w).alloc aj (.cells (cel b).toArray 45);have h1 := h.below hA;have HA := ae hA;have HE := ae (lK (S := S) (n := (k : Int)) (by omega));have HB := ae (kB w (cel b).toArray 45);clear hA;obtain ⟨AL, cL, rfl, hl1, hl2⟩ := h1.L_.form;go_enter func151, ntmps151;go_wp2_with (first | (refine az rfl (cm rfl rfl) ?_) | fail);refine (l8 p vS _ S L false k _ h1).mono ?_;rintro e w1 ⟨rfl, rfl⟩;rw [HE.out];go_wp2_with fail;generalize hy : w.heap.size = y at *;generalize w.alloc (.cells (cel b).toArray 45) = w1 at *;refine kM (fun w' => w'.heap[p]? = some (.cells #[vS, .slice AL L.length cL, .bool false] 183) /\ w'.heap[y]? = some (.cells (cel b).toArray 45)) 12 (by kernel_rfl) ?_;change fE _ _ _ _ _ _ 13 _ _ w1.drew;have hS : w1.drew.heap[p]? = some (.cells #[vS, .slice AL L.length cL, .bool false] 183) /\ w1.drew.heap[y]? = some (.cells (cel b).toArray 45) := ⟨h1.at_, HB⟩;refine alQ 0 rfl (fun _ hw => aL rfl alW) hS ?_;refine alQ 1 rfl (fun _ hw => aL rfl alW) hS ?_;refine alQ 2 rfl (fun _ hw => bj rfl alW) hS ?_;refine alQ 3 rfl (fun _ hw => ax rfl alW agW) hS ?_;refine alQ 4 rfl (fun _ hw => aE rfl alW (ajz (cells3 hw.1).2.1)) hS ?_;refine alQ 5 rfl (fun _ hw => aL rfl alW) hS ?_;refine alQ 6 rfl (fun _ hw => aV rfl alW (jG hw.2)) hS ?_;refine alQ 7 rfl (fun _ hw => uh rfl alW alW) hS ?_;have hr : eS w1.drew p vS (.slice AL L.length cL) S L false := ⟨h1.at_, h1.S_, h1.L_⟩;have hS2 : eS (w1.drew.alloc (.cells (jH.cel ((k : Int), b)).toArray jH.t)) p vS (.slice AL L.length cL) S L false := hr.below (ak.alloc aj _);have hb2 := bJ hS.2 (.cells (jH.cel ((k : Int), b)).toArray jH.t);have hnew : RdE jH _ _ _ 1 _ := eB (E := jH) (l := [((k : Int), b)]) w1.drew (jH.cel ((k : Int), b)).toArray jH.t (by rw [eN]; simp [cH]);obtain ⟨v3, w3, hrun, hm3, hg3, ho3⟩ := ip jH _ 181 0 _ 1 1 _ _ _ _ hS2.L_ hnew (Nat.zero_le _) (by omega);have hO2 : Only (foot p vS (.slice AL L.length cL)) w (w1.drew.alloc (.cells (jH.cel ((k : Int), b)).toArray jH.t)) := (Only.of_below _ (hy ▸ HA.out)).drew.alloc _;have hO3 := hO2.grown hg3 (fun x hx => .inl (.inr (.inr hx)));have hp3 : w3.heap[p]? = some (.cells #[vS, .slice AL L.length cL, .bool false] 183) := (hg3.block p (aS hS2.at_) (fun e => hS2.L_.dZ hS2.at_ (by decide) e.symm)).trans hS2.at_;have hy3 : w3.heap[y]? = some (.cells (cel b).toArray 45) := (hg3.block y (aS hb2) (fun e => hS2.L_.dZ hb2 (by decide) e.symm)).trans hb2;have hSS3 := hS2.S_.kept hg3 (hS2.S_.other hS2.L_ (by decide));refine fW 8 rfl (by kernel_rfl) rfl (da (E := jH) (a := ((k : Int), b)) rfl alW (pair_cells _ _) (by decide)) (fun _ => ⟨hS2.at_, hb2⟩) ?_;simp only [aa];refine fW 9 rfl (by kernel_rfl) rfl (fX (E := jH) rfl alW alW hrun) (fun _ => ⟨hp3, hy3⟩) ?_;simp only [aa];refine fW 10 rfl (by kernel_rfl) rfl (bj rfl alW) (fun _ => ⟨hp3, hy3⟩) ?_;simp only [aa];refine fW 11 rfl (by kernel_rfl) rfl (ax rfl alW agW) (fun _ => ⟨hp3, hy3⟩) ?_;simp only [aa];obtain ⟨A3, c3, rfl, _, _⟩ := hm3.form;refine uG 12 rfl (by kernel_rfl) rfl (dh rfl (ev rfl) (ev rfl) (stS (cells3 hp3).2.1 (frozen_of_row _ _ _ _ _ hp3))) (fun e => absurd rfl e) ?_;simp only [Act.put];refine n7 (by kernel_rfl) ?_ _;go_wp2_with fail;go_ret;refine ⟨rfl, _, akS hp3 hSS3 hm3, hO3.setCell (.inl (.inl rfl)) _, fun x hx => ?_⟩;rcases ho3 x hx with e | e
 ·exact .inl e
 ·refine .inr (ar ?_ e);have := hO2.size;omega
theorem ahr (p : Nat) (vS vL : Value) (S : List Blk) (L : List (Int × Blk)) (g : Bool) (n : Int) (b : Blk) (w : World) (h : eS w p vS vL S L g) (hL : L.length < 1000000) :
  Calls prog 151 #[.pointer (some ⟨p, 0, none⟩), .int .i64 n, blk b] w fun e w' => e = .returned (.int .i64 (dw S g n)) /\ ∃ vL', eS w' p vS vL' S (wrL S L g n b) g /\ Only (foot p vS vL) w w' /\ (∀ x, vL'.ownBlock = some x -> vL.ownBlock = some x \/ w.heap.size <= x) := by
 by_cases he : dw S g n = 0
 ·rcases fp (S := S) (g := g) (n := n) with h1 | h1 | ⟨_, rfl, k, rfl, hk⟩
  ·omega
  ·omega
  ·have e : wrL S L false k b = L ++ [((k : Int), b)] := by unfold wrL; rw [if_pos he]
   rw [e, he];exact yO p k vS vL S L b w h hk hL
 ·have e : wrL S L g n b = L := by unfold wrL; rw [if_neg he]
  rw [e];exact (yg p vS vL S L g n b w h he).mono fun e w' ⟨h1, h2⟩ => ⟨h1, vL, h.below h2, Only.of_below _ h2, fun x hx => .inl hx⟩
section
variable {w : World} {p b off gg n c k : Nat} {vL : Value} {S : List Blk} {L : List (Int × Blk)} {g : Bool}
theorem alg : (Instr.fieldAt 218 (.pointer (some ⟨b, off, none⟩)) 0).run prog w = .ok (.pointer (some ⟨b, off, none⟩)) w := by kernel_rfl
theorem alz : (Instr.fieldAt 218 (.pointer (some ⟨b, off, none⟩)) 1).run prog w = .ok (.pointer (some ⟨b, off + 1, none⟩)) w := by kernel_rfl
theorem eS.hJ (h : eS w p (.slice (some ⟨gg, 0, none⟩) n c) vL S L g) (hk : k < n) (x : Blk) : eS (w.setCells gg (k * 64) (cel x)) p (.slice (some ⟨gg, 0, none⟩) n c) vL (S.set k x) L g := by
 have hO : Only (fun b => b = gg) w (w.setCells gg (k * 64) (cel x)) := (Only.refl (fun b => b = gg) w).setCells (.inl rfl) _ _;refine ⟨hO.keep h.at_ (fun e => h.S_.dZ h.at_ (by decide) (by rw [e]; rfl)), h.S_.store hk x, h.L_.only hO fun b hb e => ?_⟩;rcases h.L_.other h.S_ (by decide) with e' | e'
 ·rw [e'] at hb; cases hb
 ·exact e' (by rw [hb, e]; rfl)
end
theorem sH (p : Nat) (vS vL : Value) (S : List Blk) (L : List (Int × Blk)) (w : World) (h : eS w p vS vL S L true) :
  Calls prog 219 #[.pointer (some ⟨p, 0, none⟩)] w fun e w' => e = .returned (.int .i64 9) /\ w = w' := by
 obtain ⟨c0, c1, c2⟩ := cells3 h.at_;go_enter func219, ntmps219;go_wp2;go_ret;exact ⟨rfl, rfl⟩
theorem ym (p : Nat) (vS vL : Value) (S : List Blk) (L : List (Int × Blk)) (w : World) (h : eS w p vS vL S L false) (hF : Fit S L) :
  Calls prog 219 #[.pointer (some ⟨p, 0, none⟩)] w fun e w' => e = .returned (.int .i64 0) /\ eS w' p vS (.slice none 0 0) (flS S L) [] false /\ Only (foot p vS vL) w w' := by
 obtain ⟨c0, c1, c2⟩ := cells3 h.at_;obtain ⟨AL, cL, rfl, hl1, hl2⟩ := h.L_.form;unfold maxLen at hl2;have HH := ae h;have HF := ae hF;clear h hF;go_enter func219, ntmps219;go_wp2;clear c0 c1 c2
 go_loopw [3] (fun i wr => ∃ j : Nat, j <= L.length /\ i = .int .i64 j /\ eS wr p vS (.slice AL L.length cL) (flS S (L.take j)) L false /\ Only (foot p vS (.slice AL L.length cL)) w wr) (fun i _ => L.length - (intOf i).toNat)
 case atStart => exact ⟨0, Nat.zero_le _, rfl, HH, Only.refl _ _⟩
 case round =>
  obtain ⟨j, hj, rfl, hr, hon⟩ := hrel;obtain ⟨c0, c1, c2⟩ := cells3 hr.at_;by_cases hlt : j < L.length
  ·obtain ⟨k, hqk, hk⟩ := HF.out.at_ hlt;have hlenS := mV S (L.take j);obtain ⟨gS, cS, rfl⟩ := hr.S_.slice hlenS (by omega);obtain ⟨bA, oA, hAe, hAl, cA, rA⟩ := hr.L_.rd.pair hlt;have HS := ae (wH (S := S) hlt);rw [hqk] at cA HS;generalize (L.getD j (0, aF)).2 = x at *;have HRA := ae rA;have HA := ae (⟨c0, c1⟩ : _ /\ _);have HRr := ae hr;have HON := ae hon;subst hAe;have HKT := ae (show wr.there gS (k * 64) 64 from by
    have := HRr.out.S_.there hk (j := 0) (m := 64) aj;rw [Nat.add_zero] at this;exact this)
   clear hr hon rA hqk hlenS;have hLL : (j : Int) < (L.length : Int) := by omega
   go_wp2_with fail;refine wp_region_still_tail 21 (by kernel_rfl) (by kernel_rfl) ?_;simp only [ac];refine aM rfl (aL rfl alW) ?_;simp only [aa];refine aM rfl (bj rfl alW) ?_;simp only [aa];refine aM rfl (ax rfl alW aln) ?_;simp only [aa];refine aM rfl (aE rfl alW (ldB HA.out.1)) ?_;simp only [aa];refine aM rfl (aL rfl alW) ?_;simp only [aa];refine aM rfl (bj rfl alW) ?_;simp only [aa];refine aM rfl (ax rfl alW agW) ?_;simp only [aa];refine aM rfl (aE rfl alW (ajz HA.out.2)) ?_;simp only [aa];refine aM rfl (aL rfl alW) ?_;simp only [aa];refine aM rfl (cu (E := jH) rfl alW alW hlt) ?_;simp only [aa];refine aM rfl (ax rfl alW alg) ?_;simp only [aa];refine aM rfl (aE rfl alW (ldI cA)) ?_;simp only [aa];refine aM rfl (aL rfl alW) ?_;simp only [aa];refine aM rfl (bj rfl alW) ?_;simp only [aa];refine aM rfl (ax rfl alW agW) ?_;simp only [aa];refine aM rfl (aE rfl alW (ajz HA.out.2)) ?_;simp only [aa];refine aM rfl (aL rfl alW) ?_;simp only [aa];refine aM rfl (cu (E := jH) rfl alW alW hlt) ?_;simp only [aa];refine aM rfl (ax rfl alW alz) ?_;simp only [aa];refine aM rfl (aV rfl alW HRA) ?_;simp only [aa];refine aM rfl (kY (E := gP) rfl alW alW hk) ?_;simp only [aa];refine wpStill_nil ?_;change wpList _ _ _ _ _ wr.drew;go_wp2_with (first | (refine bw rfl (aU rfl rfl rfl HKT.out) ?_));go_roundw
   case rel =>
    have hd : eS wr.drew p (.slice (some ⟨gS, 0, none⟩) S.length cS) (.slice (some ⟨bA, oA, none⟩) L.length cL) (flS S (L.take j)) L false := ⟨HRr.out.at_, HRr.out.S_, HRr.out.L_⟩;exact ⟨j + 1, by omega, by go_num, by rw [HS.out]; exact hd.hJ hk x, HON.out.drew.setCells (.inl (.inr (.inl rfl))) _ _⟩
   case measure => simp [intOf]; omega
  ·have hjn : j = L.length := by omega
   subst hjn;have f1 := frozen_of_row wr p 1 _ _ hr.at_;have HRr := ae hr;have HON := ae hon;clear hr hon;have hLL : ¬((L.length : Int) < (L.length : Int)) := by omega
   go_wp2;go_ret;have hd := HRr.out.dk (aQ.nil _ _);rw [List.take_length] at hd;exact ⟨rfl, hd, HON.out.setCell (.inl (.inl rfl)) _⟩
theorem aeU (k : Nat) (w : World) (h1 : 1 <= k) (h2 : k <= 512) :
  Calls prog 73 #[.int .i64 k] w fun e w' => ∃ p vS, e = .returned (.tuple #[.pointer (some ⟨p, 0, none⟩), .int .i64 0]) /\ eS w' p vS (.slice none 0 0) (List.replicate k aF) [] false /\ Below w.heap.size w w' /\ ∀ b, foot p vS (.slice none 0 0) b -> w.heap.size <= b := by
 go_enter func73, ntmps73;have HM := ae (heap_alloc_new w (.cells (madeCells (cel aF).toArray (k * 64)) 45));have HB := ae ((Below.refl w.heap.size w).alloc aj (.cells (madeCells (cel aF).toArray (k * 64)) 45));have HSZ := ae (World.size_alloc w (.cells (madeCells (cel aF).toArray (k * 64)) 45));go_wp2_with (first | (refine az rfl (rh (n := k) rfl rfl rfl (by omega)) ?_));generalize w.alloc (.cells (madeCells (cel aF).toArray (k * 64)) 45) = w1 at *;go_ret2;have hS : aQ gP w1 0 (.slice (some ⟨w.heap.size, 0, none⟩) k k) (List.replicate k aF) := aQ.of_block (E := gP) HM (by rw [<- qN]; rfl) (Nat.zero_le _) (by simp) (by unfold maxLen; omega);have hnw := heap_alloc_new w1 (.cells #[.slice (some ⟨w.heap.size, 0, none⟩) k k, .slice none 0 0, .bool false] 183);rw [HSZ.out] at hnw;refine ⟨w.heap.size + 1, _, rfl, ⟨hnw, hS.below (ak.alloc aj _), aQ.nil _ _⟩, HB.out.alloc HB.out.size _, fun b hb => ?_⟩;rcases hb with rfl | hb | hb
 ·omega
 ·simp [Value.ownBlock] at hb; omega
 ·simp [Value.ownBlock] at hb
theorem acY (n : Int) (w : World) (h : ¬(1 <= n /\ n <= 512)) :
  Calls prog 73 #[.int .i64 n] w fun e w' => e = .returned (.tuple #[.pointer none, .int .i64 2]) /\ w = w' := by
 have hor : n < 1 \/ (1 <= n /\ 512 < n) := by omega
 clear h;rcases hor with h | ⟨h, h'⟩
 all_goals
  go_enter func73, ntmps73;go_wp2;go_ret2;exact ⟨rfl, rfl⟩
def Rv (w : World) (F : Nat -> Prop) (p : Nat) (S : List Blk) (L : List (Int × Blk)) (g : Bool) : Prop := ∃ vS vL, F = foot p vS vL /\ eS w p vS vL S L g /\ Fit S L
section
variable {w w' : World} {F G : Nat -> Prop} {p : Nat} {S : List Blk} {L : List (Int × Blk)} {g : Bool}
theorem Rv.lt (h : Rv w F p S L g) : ∀ b, F b -> b < w.heap.size := by
 obtain ⟨vS, vL, rfl, h, _⟩ := h;exact h.lt
theorem Rv.only (h : Rv w F p S L g) (k : Only G w w') (hn : ∀ b, F b -> ¬ G b) : Rv w' F p S L g := by
 obtain ⟨vS, vL, rfl, h, hF⟩ := h;exact ⟨vS, vL, rfl, h.only k hn, hF⟩
end
section
variable {w : World} {F : Nat -> Prop} {p : Nat} {S : List Blk} {L : List (Int × Blk)} {g : Bool}
theorem ag9 (n : Int) (h : Rv w F p S L g) : Calls prog 196 #[.pointer (some ⟨p, 0, none⟩), .int .i64 n] w fun e w' => e = .returned (.tuple #[blk (ge S L g n), .int .i64 (dw S g n)]) /\ Below w.heap.size w w' := by
 obtain ⟨vS, vL, rfl, h, _⟩ := h;exact ajp p vS vL S L g n w h
theorem adB (n : Int) (b : Blk) (hL : L.length < 1000000) (h : Rv w F p S L g) : Calls prog 151 #[.pointer (some ⟨p, 0, none⟩), .int .i64 n, blk b] w fun e w' => e = .returned (.int .i64 (dw S g n)) /\ ∃ F', Rv w' F' p S (wrL S L g n b) g /\ Only F w w' /\ Grow w F F' := by
 obtain ⟨vS, vL, rfl, h, hF⟩ := h;refine (ahr p vS vL S L g n b w h hL).mono ?_;rintro e w' ⟨he, vL', h1, h2, h3⟩;refine ⟨he, _, ⟨vS, vL', rfl, h1, hF.wr g n b⟩, h2, fun k hk => ?_⟩;rcases hk with e | e | e
 ·exact .inl (.inl e)
 ·exact .inl (.inr (.inl e))
 ·rcases h3 k e with e | e
  ·exact .inl (.inr (.inr e))
  ·exact .inr e
theorem ae4 (h : Rv w F p S L g) : Calls prog 219 #[.pointer (some ⟨p, 0, none⟩)] w fun e w' => e = .returned (.int .i64 (if g = true then 9 else 0)) /\ ∃ F', Rv w' F' p (if g = true then S else flS S L) (if g = true then L else []) g /\ Only F w w' /\ Grow w F F' := by
 obtain ⟨vS, vL, rfl, h, hF⟩ := h;cases g
 ·refine (ym p vS vL S L w h hF).mono ?_;rintro e w' ⟨he, h1, h2⟩;refine ⟨he, _, ⟨vS, _, rfl, h1, Fit.nil _⟩, h2, fun k hk => ?_⟩;rcases hk with e | e | e
  ·exact .inl (.inl e)
  ·exact .inl (.inr (.inl e))
  ·simp [Value.ownBlock] at e
 ·refine (sH p vS vL S L w h).mono ?_;rintro e w' ⟨he, rfl⟩;exact ⟨he, _, ⟨vS, vL, rfl, h, hF⟩, Only.refl _ _, Grow.same _ _⟩
theorem agw (h : Rv w F p S L g) : Calls prog 101 #[.pointer (some ⟨p, 0, none⟩)] w fun e w' => (∃ v, e = .returned v) /\ ∃ F', Rv w' F' p S [] true /\ Only F w w' /\ Grow w F F' := by
 obtain ⟨vS, vL, rfl, h, hF⟩ := h;refine (ah9 p vS vL S L g w h).mono ?_;rintro e w' ⟨he, h1, h2⟩;refine ⟨he, _, ⟨vS, _, rfl, h1, Fit.nil _⟩, h2, fun k hk => ?_⟩;rcases hk with e | e | e
 ·exact .inl (.inl e)
 ·exact .inl (.inr (.inl e))
 ·simp [Value.ownBlock] at e
theorem aij (k : Nat) (w : World) (h1 : 1 <= k) (h2 : k <= 512) : Calls prog 73 #[.int .i64 k] w fun e w' => ∃ p F, e = .returned (.tuple #[.pointer (some ⟨p, 0, none⟩), .int .i64 0]) /\ Rv w' F p (List.replicate k aF) [] false /\ Below w.heap.size w w' /\ ∀ b, F b -> w.heap.size <= b := by
 refine (aeU k w h1 h2).mono ?_;rintro e w' ⟨p, vS, he, hr, hb, hf⟩;exact ⟨p, _, he, ⟨vS, _, rfl, hr, Fit.nil _⟩, hb, hf⟩
end
def dv : ij where
 K := ⟨Rv, Rv.lt, Rv.only⟩
 s := 127
 t := 130
 und := underlying127
 info := by kernel_rfl
 o := 129
 cs := fun v left dark steps => #[v, .int .i64 left, .bool dark, .int .i64 steps]
 ne := by decide
theorem tf {w : World} {b : Nat} {t : TypeId} {x y z u : Value} (h : w.heap[b]? = some (.cells #[x, y, z, u] t (0, 0))) : w.cell? ⟨b, 0, none⟩ = some x /\ w.cell? ⟨b, 1, none⟩ = some y /\ w.cell? ⟨b, 2, none⟩ = some z /\ w.cell? ⟨b, 3, none⟩ = some u := by
 refine ⟨?_, ?_, ?_, ?_⟩
 ·rw [cell_of_row w b 0 _ t (0, 0) h]; rfl
 ·rw [cell_of_row w b 1 _ t (0, 0) h]; rfl
 ·rw [cell_of_row w b 2 _ t (0, 0) h]; rfl
 ·rw [cell_of_row w b 3 _ t (0, 0) h]; rfl
theorem z2 {w : World} {F : Nat -> Prop} {p : Nat} {S : List Blk} {L : List (Int × Blk)} {g : Bool} (n : Int) (h : Rv w F p S L g) : Calls prog 149 #[.pointer (some ⟨p, 0, none⟩), .int .i64 n] w fun e w' => e = .returned (.int .i64 (dw S g n)) /\ w = w' := by
 obtain ⟨vS, vL, rfl, h, _⟩ := h;exact l8 p vS vL S L g n w h
theorem pi {w : World} {F : Nat -> Prop} {p : Nat} {S : List Blk} {L : List (Int × Blk)} {g : Bool} (h : Rv w F p S L g) : ∃ A c, w.cell? ⟨p, 0, none⟩ = some (.slice A S.length c) /\ w.cell? ⟨p, 2, none⟩ = some (.bool g) := by
 obtain ⟨vS, vL, rfl, h, _⟩ := h;obtain ⟨c0, c1, c2⟩ := cells3 h.at_;obtain ⟨A, c, rfl, _, _⟩ := h.S_.form;exact ⟨A, c, c0, c2⟩
section
variable {w w' : World} {p : Nat} {v : Value} {Fs : Nat -> Nat -> Prop} {ps : List Nat} {M : aZ}
theorem bU.gk (h : bU dv w p v Fs ps M) : w.cell? ⟨p, 0, none⟩ = some v /\ w.cell? ⟨p, 1, none⟩ = some (.int .i64 M.left) /\ w.cell? ⟨p, 2, none⟩ = some (.bool M.dark) /\ w.cell? ⟨p, 3, none⟩ = some (.int .i64 M.steps) := tf h.at_
theorem abD (h : bU dv w p v Fs ps M) :
  Calls prog 79 #[.pointer (some ⟨p, 0, none⟩)] w fun e w' => e = .returned (.int .i64 (M.ds.length : Int)) /\ w = w' := by
 obtain ⟨g, c, rfl, _, _⟩ := h.slice;obtain ⟨c0, c1, c2, c3⟩ := h.gk;go_enter func79, ntmps79;go_wp2;go_ret;exact ⟨rfl, rfl⟩
theorem pC (h : bU dv w p v Fs ps M) {d : Int} (hd : ¬(0 <= d /\ d < M.ds.length)) :
  Calls prog 100 #[.pointer (some ⟨p, 0, none⟩), .int .i64 d] w fun e w' => e = .returned (.bool false) /\ w = w' := by
 obtain ⟨g, c, rfl, _, _⟩ := h.slice;obtain ⟨c0, c1, c2, c3⟩ := h.gk;clear h;by_cases h0 : 0 <= d
 ·have h1 : ¬(d < (M.ds.length : Int)) := by omega
  clear hd;go_enter func100, ntmps100;go_wp2;go_ret;exact ⟨rfl, rfl⟩
 ·clear hd;go_enter func100, ntmps100;go_wp2;go_ret;exact ⟨rfl, rfl⟩
theorem oS (h : bU dv w p v Fs ps M) {k : Nat} (hk : k < M.ds.length) :
  Calls prog 100 #[.pointer (some ⟨p, 0, none⟩), .int .i64 k] w fun e w' => e = .returned (.bool true) /\ w = w' := by
 obtain ⟨g, c, rfl, _, _⟩ := h.slice;obtain ⟨c0, c1, c2, c3⟩ := h.gk;clear h;go_enter func100, ntmps100;go_wp2;go_ret;exact ⟨rfl, rfl⟩
theorem qJ (d : Int) (h : bU dv w p v Fs ps M) :
  Calls prog 148 #[.pointer (some ⟨p, 0, none⟩), .int .i64 d] w fun e w' => e = .returned (.int .i64 (eO M d)) /\ w = w' := by
 obtain ⟨c0, c1, c2, c3⟩ := h.gk;rcases dO M d with ⟨e, hdk⟩ | ⟨e, hdk, ho⟩ | ⟨e, hdk, k, rfl, hk⟩
 ·rw [e];rw [hdk] at c2;clear e hdk h;go_enter func148, ntmps148;go_wp2;go_ret;exact ⟨rfl, rfl⟩
 ·rw [e];rw [hdk] at c2;have HO := ae (pC h ho);clear e hdk h ho;go_enter func148, ntmps148;go_wp2_with fail;refine HO.out.mono ?_;rintro e w1 ⟨rfl, rfl⟩;go_wp2_with fail;go_ret;exact ⟨rfl, rfl⟩
 ·rw [e];rw [hdk] at c2;have HO := ae (oS h hk);clear e hdk h hk;go_enter func148, ntmps148;go_wp2_with fail;refine HO.out.mono ?_;rintro e w1 ⟨rfl, rfl⟩;go_wp2_with fail;go_ret;exact ⟨rfl, rfl⟩
theorem abr (d : Int) (h : bU dv w p v Fs ps M) :
  Calls prog 80 #[.pointer (some ⟨p, 0, none⟩), .int .i64 d] w fun e w' => e = .returned (.int .i64 (iV M d)) /\ w = w' := by
 rcases lH M d with ⟨e, ho⟩ | ⟨e, k, rfl, hk⟩
 ·have HS : Hid (iV M d = 0) := ae (by unfold iV; rw [if_neg (by omega)]);have HO := ae (pC h ho);clear e h ho;go_enter func80, ntmps80;go_wp2_with fail;refine HO.out.mono ?_;rintro e w1 ⟨rfl, rfl⟩;go_wp2_with fail;go_ret;exact ⟨cp HS.out.symm, rfl⟩
 ·obtain ⟨x, hx⟩ : ∃ x, M.ds.getD k cZ = x := ⟨_, rfl⟩;have hat := h.devs.at_ k hk;rw [hx] at hat
  have HS : Hid (iV M (k : Int) = (x.S.length : Int)) := ae (by unfold iV; rw [if_pos e, M.km, hx]);have HO := ae (oS h hk);obtain ⟨g, c, rfl, _, _⟩ := h.slice;obtain ⟨c0, c1, c2, c3⟩ := h.gk;have ck := h.cell hk;obtain ⟨AS, cS, d0, d2⟩ := pi hat
  clear e h hat hx;generalize ps.getD k 0 = q at *;go_enter func80, ntmps80;go_wp2_with fail;refine HO.out.mono ?_;rintro e w1 ⟨rfl, rfl⟩;go_wp2_with fail;go_ret;exact ⟨cp HS.out.symm, rfl⟩
theorem ahZ (d n : Int) (h : bU dv w p v Fs ps M) :
  Calls prog 181 #[.pointer (some ⟨p, 0, none⟩), .int .i64 d, .int .i64 n] w fun e w' => e = .returned (.tuple #[blk (fo M d n), .int .i64 (cJ M d n)]) /\ Below w.heap.size w w' := by
 have hA := (Below.refl w.heap.size w).alloc aj (.cells (cel aF).toArray 45);have h1 := h.below hA;have HT := ae (eu w aF 45);have HA := ae hA;have HO := ae (qJ d h1);by_cases hl : eO M d = 0
 ·rcases dO M d with ⟨e, _⟩ | ⟨e, _⟩ | ⟨e, hdk, k, rfl, hk⟩
  ·omega
  ·omega
  obtain ⟨x, hx⟩ : ∃ x, M.ds.getD k cZ = x := ⟨_, rfl⟩;have hat := h1.devs.at_ k hk;rw [hx] at hat
  have HB : Hid (fo M (k : Int) n = ge x.S x.L x.g n) := ae (by unfold fo; rw [if_pos e, <- hx]; rfl);have HE : Hid (cJ M (k : Int) n = dw x.S x.g n) := ae (by unfold cJ; rw [if_pos e, <- hx]; rfl);rw [e] at HO;have HD := ae (ag9 n hat);have HSZ := ae (World.size_alloc w (.cells (cel aF).toArray 45));obtain ⟨g, c, rfl, _, _⟩ := h1.slice;obtain ⟨c0, c1, c2, c3⟩ := h1.gk;have ck := h1.cell hk;clear e h h1 hat hx hdk hA hl;rw [HB.out, HE.out];clear HB HE;generalize ge x.S x.L x.g n = y at *;generalize dw x.S x.g n = z at *;generalize ps.getD k 0 = q at *;go_enter func181, ntmps181;go_wp2_with (first | (refine az rfl (aX rfl) ?_) | fail);refine HO.out.mono ?_;rintro e w1 ⟨rfl, rfl⟩;go_wp2_with fail;refine HD.out.mono ?_;rintro e w2 ⟨rfl, hb⟩;have HT2 := ae (cg HT (by rw [HSZ.out]; omega) hb);have HB2 := ae (HA.out.trans (hb.mono (by rw [HSZ.out]; omega)));clear hb;go_wp2_with (first | (refine bw rfl (aU rfl rfl rfl HT2.out) ?_) | fail);exact bodyPost_ret (cj rfl _ _ _ rfl (World.rangeAt_setCells_same _ _ _ _ (by rw [aK]; exact HT2))) rfl ⟨rfl, below_setCells HB2 aj _⟩
 ·have HB : Hid (fo M d n = aF) := ae (by unfold fo; rw [if_neg hl]);have HE : Hid (cJ M d n = eO M d) := ae (by unfold cJ; rw [if_neg hl]);clear h h1 hA;rw [HB.out, HE.out];rcases dO M d with ⟨e, _⟩ | ⟨e, _⟩ | ⟨e, _⟩
  rotate_right 1
  ·exact absurd e hl
  all_goals
   rw [e] at HO ⊢;clear e hl;go_enter func181, ntmps181;go_wp2_with (first | (refine az rfl (aX rfl) ?_) | fail);refine HO.out.mono ?_;rintro e w1 ⟨rfl, rfl⟩;go_wp2_with (first | (refine az rfl (cQ (c := aF) (parts := []) rfl rfl) ?_) | (refine bw rfl (aU rfl rfl rfl HT.out) ?_));exact bodyPost_ret (cj rfl _ _ _ rfl (World.rangeAt_setCells_same _ _ _ _ (by rw [aK]; exact HT))) rfl ⟨rfl, below_setCells HA aj _⟩
theorem ajQ (d : Int) (h : bU dv w p v Fs ps M) :
  Calls prog 40 #[.pointer (some ⟨p, 0, none⟩), .int .i64 d] w fun e w' => e = .returned (.int .i64 (oq M d)) /\ Left dv w p v Fs ps M.ds.length (ki M d) w' := by
 rcases lH M d with ⟨e, ho⟩ | ⟨e, k, rfl, hk⟩
 ·have HL := ae (Left.same h (M' := ki M d) (by unfold ki; rw [if_neg (by omega)]));have HO := ae (pC h ho);have HE := ae e;clear e h ho;go_enter func40, ntmps40;go_wp2_with fail;refine HO.out.mono ?_;rintro e w1 ⟨rfl, rfl⟩;go_wp2_with fail;go_ret;exact ⟨cp HE.out.symm, HL⟩
 ·obtain ⟨x, hx⟩ : ∃ x, M.ds.getD k cZ = x := ⟨_, rfl⟩;have hat := h.devs.at_ k hk;rw [hx] at hat
  have HS : Hid (ki M (k : Int) = M.put k ⟨x.S, [], true⟩) := ae (by unfold ki; rw [if_pos e, <- hx]; rfl);have HO := ae (oS h hk);have HD := ae (agw hat);have HE := ae e;have HH := ae h;obtain ⟨g, c, rfl, _, _⟩ := h.slice;obtain ⟨c0, c1, c2, c3⟩ := h.gk;have ck := h.cell hk;obtain ⟨q, hq⟩ : ∃ q, ps.getD k 0 = q := ⟨_, rfl⟩;rw [hq] at ck HD;have HQ := ae hq;clear e h hat hx hq;go_enter func40, ntmps40;go_wp2_with fail;refine HO.out.mono ?_;rintro e w1 ⟨rfl, rfl⟩;go_wp2_with fail;refine HD.out.mono ?_;rintro e w2 ⟨⟨z, rfl⟩, F', h1, h2, h3⟩;go_wp2_with fail;go_ret;exact ⟨cp HE.out.symm, Left.turn HH hk h2 h3 (d := ⟨x.S, [], true⟩) (by rw [HQ.out]; exact h1) HS⟩
def aZ.step (M : aZ) : aZ := if M.left = 1 then M.night else M.done
theorem aeo (h : bU dv w p v Fs ps M) (hs : M.steps < 1000000) (hll : M.left < 9223372036854775808) :
  Calls prog 150 #[.pointer (some ⟨p, 0, none⟩)] w fun e w' => e = .returned (.int .i64 M.dX) /\ bU dv w' p v Fs ps M.step /\ Only (fun b => b = p) w w' := by
 obtain ⟨c0, c1, c2, c3⟩ := h.gk;have f1 := frozen_of_row w p 1 _ _ h.at_;have f2 := frozen_of_row w p 2 _ _ h.at_;have f3 := frozen_of_row w p 3 _ _ h.at_;have HH := ae h;clear h;by_cases h1 : M.left = 1
 ·have HE : Hid (M.dX = 8) := ae (by unfold aZ.dX; rw [if_pos h1]);have HS : Hid (M.step = M.night) := ae (by unfold aZ.step; rw [if_pos h1]);rw [h1] at c1;clear h1 hs hll;go_enter func150, ntmps150;go_wp2_with fail;go_ret;have ho := eE w p 2 (.bool true);refine ⟨cp HE.out.symm, ?_, ho⟩;rw [HS.out];refine HH.out.obj _ _ _ ho ?_;have := heap_setCell_same w p 2 _ _ (.bool true) HH.out.at_
  simpa [dv] using this
 ·have HE : Hid (M.dX = 0) := ae (by unfold aZ.dX; rw [if_neg h1]);have HS : Hid (M.step = M.done) := ae (by unfold aZ.step; rw [if_neg h1]);by_cases h2 : 1 < M.left
  ·have hl1 : ((M.left : Int) == 1) = false := by simpa using (by omega : ¬ (M.left : Int) = 1)
   go_enter func150, ntmps150;go_wp2_with fail;go_ret;have ho := (eE w p 1 (.int .i64 ((M.left : Int) - 1))).setCell (p := ⟨p, 3, none⟩) (.inl rfl) (.int .i64 ((M.steps : Int) + 1));refine ⟨cp HE.out.symm, ?_, ho⟩;rw [HS.out];refine HH.out.obj _ _ _ ho ?_;have h3 := heap_setCell_same _ p 3 _ _ (.int .i64 ((M.steps : Int) + 1)) (heap_setCell_same w p 1 _ _ (.int .i64 ((M.left : Int) - 1)) HH.out.at_);have e : ((M.left - 1 : Nat) : Int) = (M.left : Int) - 1 := by omega
   simpa [dv, e] using h3
  ·have hl0 : M.left = 0 := by omega
   have HL0 := ae hl0;rw [hl0] at c1;clear h1 hll h2 hl0;go_enter func150, ntmps150;go_wp2_with fail;go_ret;have ho := eE w p 3 (.int .i64 ((M.steps : Int) + 1));refine ⟨cp HE.out.symm, ?_, ho⟩;rw [HS.out];refine HH.out.obj _ _ _ ho ?_;have h3 := heap_setCell_same w p 3 _ _ (.int .i64 ((M.steps : Int) + 1)) HH.out.at_
   simpa [dv, HL0.out] using h3
end
section
variable {w w' : World} {p : Nat} {v : Value} {Fs : Nat -> Nat -> Prop} {ps : List Nat} {M : aZ}
theorem tQ {d : Int} (h0 : eO M d ≠ 0) : eO M d = 8 \/ eO M d = 2 := by
 rcases dO M d with ⟨e, _⟩ | ⟨e, _⟩ | ⟨e, _⟩
 ·exact .inl e
 ·exact .inr e
 ·exact absurd e h0
theorem yI (d : Int) (h : bU dv w p v Fs ps M) (hl : gO M d ≠ 0) :
  Calls prog 209 #[.pointer (some ⟨p, 0, none⟩), .int .i64 d] w fun e w' => e = .returned (.int .i64 (ib M d)) /\ Left dv w p v Fs ps M.ds.length (gh M d) w' := by
 have HE : Hid (ib M d = gO M d) := ae (by unfold ib; rw [if_neg hl]);have HL := ae (Left.same h (M' := gh M d) (by unfold gh; rw [if_neg hl]));have HO := ae (qJ d h);by_cases h0 : eO M d = 0
 ·rcases dO M d with ⟨e, _⟩ | ⟨e, _⟩ | ⟨e, hdk, k, rfl, hk⟩
  ·omega
  ·omega
  obtain ⟨x, hx⟩ : ∃ x, M.ds.getD k cZ = x := ⟨_, rfl⟩;have hat := h.devs.at_ k hk;rw [hx] at hat
  have hg : x.g = true := by
   cases hg : x.g
   ·exfalso; apply hl; unfold gO; rw [if_pos e, show M.dev (k : Int) = x from hx, hg, if_neg (by decide)]
   ·rfl
  have H9 : Hid (gO M (k : Int) = 9) := ae (by unfold gO; rw [if_pos e, show M.dev (k : Int) = x from hx, hg, if_pos rfl]);obtain ⟨g, c, rfl, _, _⟩ := h.slice;obtain ⟨c0, c1, c2, c3⟩ := h.gk;have ck := h.cell hk;obtain ⟨AS, cS, d0, d2⟩ := pi hat
  rw [hg] at d2;rw [e] at HO;clear e h hat hx hdk hl h0 hg;generalize ps.getD k 0 = q at *;go_enter func209, ntmps209;go_wp2_with fail;refine HO.out.mono ?_;rintro e w1 ⟨rfl, rfl⟩;go_wp2_with fail;go_ret;exact ⟨cp (by rw [HE.out, H9.out]), HL⟩
 ·have HA : Hid (gO M d = eO M d) := ae (by unfold gO; rw [if_neg h0]);clear h hl;rw [HE.out, HA.out];rcases tQ h0 with e | e
  all_goals
   rw [e] at HO ⊢;clear e h0;go_enter func209, ntmps209;go_wp2_with fail;refine HO.out.mono ?_;rintro e w1 ⟨rfl, rfl⟩;go_wp2_with fail;go_ret;exact ⟨rfl, HL⟩
theorem af4 (d : Int) (h : bU dv w p v Fs ps M) (hs : M.steps < 1000000) (hll : M.left < 9223372036854775808) :
  Calls prog 209 #[.pointer (some ⟨p, 0, none⟩), .int .i64 d] w fun e w' => e = .returned (.int .i64 (ib M d)) /\ Left dv w p v Fs ps M.ds.length (gh M d) w' := by
 by_cases hl : gO M d = 0;rotate_left 1
 ·exact yI d h hl
 have hlit : eO M d = 0 := by
  unfold gO at hl;by_cases h0 : eO M d = 0
  ·exact h0
  ·rw [if_neg h0] at hl; exact hl
 rcases dO M d with ⟨e, _⟩ | ⟨e, _⟩ | ⟨e, hdk, k, rfl, hk⟩
 ·omega
 ·omega
 obtain ⟨x, hx⟩ : ∃ x, M.ds.getD k cZ = x := ⟨_, rfl⟩;have hat := h.devs.at_ k hk;rw [hx] at hat
 have hg : x.g = false := by
  cases hg : x.g
  ·rfl
  ·exfalso; unfold gO at hl; rw [if_pos e, show M.dev (k : Int) = x from hx, hg, if_pos rfl] at hl; omega
 have HEE : Hid (ib M (k : Int) = M.dX) := ae (by unfold ib; rw [if_pos hl]);have HO := ae (qJ (k : Int) h);rw [e] at HO;have HST := ae (aeo h hs hll);obtain ⟨q, hq⟩ : ∃ q, ps.getD k 0 = q := ⟨_, rfl⟩;obtain ⟨g, c, rfl, _, _⟩ := h.slice;obtain ⟨c0, c1, c2, c3⟩ := h.gk;have ck := h.cell hk;obtain ⟨AS, cS, d0, d2⟩ := pi hat
 rw [hg] at d2;rw [hq] at ck d2 d0;by_cases h1 : M.left = 1
 ·have HE : Hid (M.dX = 8) := ae (by unfold aZ.dX; rw [if_pos h1]);have HN : Hid (M.step = M.night) := ae (by unfold aZ.step; rw [if_pos h1]);have HS : Hid (gh M (k : Int) = M.night) := ae (by unfold gh; rw [if_pos hl, if_pos h1]);clear e h hat hx hdk hl hg h1 hlit hs hll hq;go_enter func209, ntmps209;go_wp2_with fail;refine HO.out.mono ?_;rintro e w1 ⟨rfl, rfl⟩;go_wp2_with fail;refine HST.out.mono ?_;rintro e w2 ⟨rfl, h2, ho2⟩;rw [HE.out];have H2 := ae h2;have HO2 := ae ho2;clear h2 ho2;go_wp2_with fail;go_ret;refine ⟨cp (by rw [HEE.out, HE.out]), ?_⟩;rw [HS.out, <- HN.out];exact Left.obj H2 HO2 (by rw [HN.out]; rfl)
 ·have HE : Hid (M.dX = 0) := ae (by unfold aZ.dX; rw [if_neg h1]);have HN : Hid (M.step = M.done) := ae (by unfold aZ.step; rw [if_neg h1]);have HS : Hid (gh M (k : Int) = M.done.put k ⟨flS x.S x.L, [], x.g⟩) := ae (by unfold gh; rw [if_pos hl, if_neg h1, show M.dev (k : Int) = x from hx]; rfl);have HX := ae hx;have HG := ae hg;have HQ := ae hq;clear e h hat hx hdk hl hg h1 hlit hs hll hq;go_enter func209, ntmps209;go_wp2_with fail;refine HO.out.mono ?_;rintro e w1 ⟨rfl, rfl⟩;go_wp2_with fail;refine HST.out.mono ?_;rintro e w2 ⟨rfl, h2, ho2⟩;rw [HE.out];rw [HN.out] at h2;obtain ⟨e0, e1, e2, e3⟩ := h2.gk;have ek := bU.cell (M := M.done) h2 (i := k) hk;rw [HQ.out] at ek;have hat2 := h2.devs.at_ k hk;rw [show M.done.ds.getD k cZ = x from HX.out, HQ.out] at hat2;have HD := ae (ae4 hat2);have H2 := ae h2;have HO2 := ae ho2;clear h2 ho2 hat2 c0 c1 c2 c3 ck d0 d2;go_wp2_with fail;refine HD.out.mono ?_;rintro e w3 ⟨rfl, F', g1, g2, g3⟩;rw [HG.out];have HL := ae (Left.behind HO2 (Left.turn H2 (i := k) hk g2 g3 (d := ⟨flS x.S x.L, [], x.g⟩) (show Rv _ _ _ _ _ _ by rw [HQ.out]; simpa [HG.out] using g1) HS));clear g1 g2 g3;go_wp2_with fail;go_ret;exact ⟨cp (by rw [HEE.out, HE.out]), HL⟩
end
section
variable {w w' : World} {p : Nat} {v : Value} {Fs : Nat -> Nat -> Prop} {ps : List Nat} {M : aZ}
theorem akz {b : Nat} : (Instr.fieldAt 129 (.pointer (some ⟨b, 0, none⟩)) 0).run prog w = .ok (.pointer (some ⟨b, 0, none⟩)) w := by kernel_rfl
theorem alr {a : Addr} {A : Option Addr} {n c : Nat} (h : w.cell? a = some (.slice A n c)) : (Instr.loadAt 127 (.pointer (some a))).run prog w = .ok (.slice A n c) w := by simp [go_sem, h]
theorem alm {a : Addr} {A : Option Addr} (h : w.cell? a = some (.pointer A)) : (Instr.loadAt 130 (.pointer (some a))).run prog w = .ok (.pointer A) w := by simp [go_sem, h]
theorem acb {k : ij} {ρ : Operand -> Value} {o : Oper} {x y : Operand} {w : World} {b n c j : Nat} (ho : o.op = .indexAddr k.E.s x y) (hx : ρ x = .slice (some ⟨b, 0, none⟩) n c) (hy : ρ y = .int .i64 (j : Int)) (hj : j < n) : (execOp ρ o).run prog w = .ok (.value (.pointer (some ⟨b, j, none⟩))) w := by
 have h := cu (E := k.E) (w := w) ho hx hy hj;rwa [show 0 + j * k.E.n = j from by show 0 + j * 1 = j; omega] at h
theorem xv (d n : Int) (x : Blk) (h : bU dv w p v Fs ps M) (hr : cJ M d n ≠ 0) :
  Calls prog 98 #[.pointer (some ⟨p, 0, none⟩), .int .i64 d, .int .i64 n, blk x] w fun e w' => e = .returned (.int .i64 (cJ M d n)) /\ Below w.heap.size w w' := by
 have hA := (Below.refl w.heap.size w).alloc aj (.cells (cel x).toArray 45);have h1 := h.below hA;have HO := ae (qJ d h1);have HA := ae hA;by_cases h0 : eO M d = 0
 ·rcases dO M d with ⟨e, _⟩ | ⟨e, _⟩ | ⟨e, hdk, k, rfl, hk⟩
  ·omega
  ·omega
  obtain ⟨y, hy⟩ : ∃ y, M.ds.getD k cZ = y := ⟨_, rfl⟩;have hat := h1.devs.at_ k hk;rw [hy] at hat
  have hr0 : cJ M (k : Int) n = dw y.S y.g n := by unfold cJ; rw [if_pos e, M.km, hy]
  rw [hr0] at hr ⊢;have HD := ae (z2 n hat);obtain ⟨g, c, rfl, _, _⟩ := h1.slice;obtain ⟨c0, c1, c2, c3⟩ := h1.gk;have ck := h1.cell hk;rw [e] at HO;clear e h h1 hA hat hy hdk h0 hr0;generalize ps.getD k 0 = q at *;rcases fp (S := y.S) (g := y.g) (n := n) with e | e | ⟨e, _⟩
  rotate_right 1
  ·exact absurd e hr
  all_goals
   rw [e] at HD ⊢;clear e hr;go_enter func98, ntmps98;go_wp2_with (first | (refine az rfl (cm rfl rfl) ?_) | fail);refine HO.out.mono ?_;rintro e w1 ⟨rfl, rfl⟩;go_wp2_with fail;refine HD.out.mono ?_;rintro e w2 ⟨rfl, rfl⟩;go_wp2_with fail;go_ret;exact ⟨rfl, HA⟩
 ·have hr0 : cJ M d n = eO M d := by unfold cJ; rw [if_neg h0]
  rw [hr0];clear h h1 hA hr hr0;rcases tQ h0 with e | e
  all_goals
   rw [e] at HO ⊢;clear e h0;go_enter func98, ntmps98;go_wp2_with (first | (refine az rfl (cm rfl rfl) ?_) | fail);refine HO.out.mono ?_;rintro e w1 ⟨rfl, rfl⟩;go_wp2_with fail;go_ret;exact ⟨rfl, HA⟩
theorem wQ (n : Int) (x : Blk) (h : bU dv w p v Fs ps M) {k : Nat} (hdk : M.dark = false) (hk : k < M.ds.length) (he : dw (M.ds.getD k cZ).S (M.ds.getD k cZ).g n = 0) (hs : M.steps < 1000000) (hll : M.left < 9223372036854775808) (hL : (M.ds.getD k cZ).L.length < 1000000) :
  Calls prog 98 #[.pointer (some ⟨p, 0, none⟩), .int .i64 k, .int .i64 n, blk x] w fun e w' => e = .returned (.int .i64 M.dX) /\ Left dv w p v Fs ps M.ds.length (et M (k : Int) n x) w' := by
 obtain ⟨y, hy⟩ : ∃ y, M.ds.getD k cZ = y := ⟨_, rfl⟩;obtain ⟨q, hq⟩ : ∃ q, ps.getD k 0 = q := ⟨_, rfl⟩;have hA := (Below.refl w.heap.size w).alloc aj (.cells (cel x).toArray 45);have h1 := h.below hA;have HO := ae (qJ (k : Int) h1);rw [mP hdk hk] at HO;have hat := h1.devs.at_ k hk;have hr0 : cJ M (k : Int) n = 0 := by unfold cJ; rw [if_pos (mP hdk hk), M.km]; exact he
 rw [hy, hq] at hat
 rw [hy] at he hL;have HD := ae (z2 n hat);rw [he] at HD;have HST := ae (aeo h1 hs hll);obtain ⟨g, c, rfl, _, _⟩ := h1.slice;obtain ⟨c0, c1, c2, c3⟩ := h1.gk;have ck := h1.cell hk;rw [hq] at ck;have HA := ae hA;have HE := ae he;have HL := ae hL;have HY := ae hy;have HQ := ae hq;have HR := ae hr0;have HB := ae (kB w (cel x).toArray 45);have HPW := ae (aS h.at_);by_cases h2 : M.left = 1
 ·have HE1 : Hid (M.dX = 8) := ae (by unfold aZ.dX; rw [if_pos h2]);have HN : Hid (M.step = M.night) := ae (by unfold aZ.step; rw [if_pos h2]);have HW : Hid (et M (k : Int) n x = M.night) := ae (by unfold et; rw [if_pos hr0, if_pos h2]);clear h h1 h2 hA hat hr0 hy hq hdk he hs hll hL;go_enter func98, ntmps98;go_wp2_with (first | (refine az rfl (cm rfl rfl) ?_) | fail);refine HO.out.mono ?_;rintro e w1 ⟨rfl, rfl⟩;go_wp2_with fail;refine HD.out.mono ?_;rintro e w2 ⟨rfl, rfl⟩;go_wp2_with fail;refine HST.out.mono ?_;rintro e w3 ⟨rfl, h3, ho3⟩;rw [HE1.out];have HLL := ae (Left.above HA (Left.obj h3 ho3 (n := M.ds.length) (by rw [HN.out]; rfl)));clear h3 ho3;go_wp2_with fail;go_ret;exact ⟨cp HE1.out.symm, by rw [HW.out, <- HN.out]; exact HLL⟩
 ·have HE1 : Hid (M.dX = 0) := ae (by unfold aZ.dX; rw [if_neg h2]);have HN : Hid (M.step = M.done) := ae (by unfold aZ.step; rw [if_neg h2]);have HW : Hid (et M (k : Int) n x = M.done.put k ⟨y.S, wrL y.S y.L y.g n x, y.g⟩) := ae (by unfold et; rw [if_pos hr0, if_neg h2, show M.dev (k : Int) = y from hy]; rfl);clear h h1 h2 hA hat hr0 hy hq hdk he hs hll hL;go_enter func98, ntmps98;go_wp2_with (first | (refine az rfl (cm rfl rfl) ?_) | fail);refine HO.out.mono ?_;rintro e w1 ⟨rfl, rfl⟩;go_wp2_with fail;refine HD.out.mono ?_;rintro e w2 ⟨rfl, rfl⟩;go_wp2_with fail;refine HST.out.mono ?_;rintro e w3 ⟨rfl, h3, ho3⟩;rw [HE1.out];rw [HN.out] at h3;have hb3 := ho3.keep HB (fun e => by have := HPW.out; omega);have H3 := ae h3;have HB3 := ae hb3;have HO3 := ae (Only.trans (Only.of_below (fun b => b = p) HA) ho3 fun b hb => .inl hb);clear h3 ho3 hb3 c0 c1 c2 c3 ck;go_wp2_with fail;have hdr : bU dv w3.drew p (.slice (some ⟨g, 0, none⟩) M.ds.length c) Fs ps M.done := H3.out.below (bd ak);refine wp_region_still_tail 9 (by kernel_rfl) (by kernel_rfl) ?_;simp only [ac];refine aM rfl (aL rfl alW) ?_;simp only [aa];refine aM rfl (bj rfl alW) ?_;simp only [aa];refine aM rfl (ax rfl alW akz) ?_;simp only [aa];refine aM rfl (aE rfl alW (alr hdr.gk.1)) ?_;simp only [aa];refine aM rfl (aL rfl alW) ?_;simp only [aa];refine aM rfl (acb (k := dv) rfl alW alW hk) ?_;simp only [aa];refine aM rfl (aE rfl alW (alm (bU.cell (M := M.done) hdr (i := k) hk))) ?_;simp only [aa];refine aM rfl (aL rfl alW) ?_;simp only [aa];refine aM rfl (aV rfl alW (jG HB3)) ?_;simp only [aa];refine wpStill_nil ?_;change wpList _ _ _ _ _ w3.drew;rw [HQ.out];have hat3 := hdr.devs.at_ k hk;rw [show M.done.ds.getD k cZ = y from HY.out, HQ.out] at hat3;have HDR := ae hdr;have HD3 := ae (adB n x HL hat3);clear hdr hat3;go_wp2_with fail;refine HD3.out.mono ?_;rintro e w4 ⟨rfl, F', g1, g2, g3⟩;rw [HE.out];have HLT := ae (Left.behind (HO3.out.drew) (Left.turn HDR (i := k) hk g2 g3 (d := ⟨y.S, wrL y.S y.L y.g n x, y.g⟩) (show Rv _ _ _ _ _ _ by rw [HQ.out]; exact g1) HW));clear g1 g2 g3;go_wp2_with fail;go_ret;exact ⟨cp HE1.out.symm, HLT⟩
theorem agE (d n : Int) (x : Blk) (h : bU dv w p v Fs ps M) (hr : ∀ i, i < M.ds.length -> (M.ds.getD i cZ).L.length < 1000000) (hs : M.steps < 1000000) (hll : M.left < 9223372036854775808) :
  Calls prog 98 #[.pointer (some ⟨p, 0, none⟩), .int .i64 d, .int .i64 n, blk x] w fun e w' => e = .returned (.int .i64 (eZ M d n)) /\ Left dv w p v Fs ps M.ds.length (et M d n x) w' := by
 by_cases hr0 : cJ M d n = 0
 ·have hlit : eO M d = 0 := by
   by_cases h0 : eO M d = 0
   ·exact h0
   ·unfold cJ at hr0; rw [if_neg h0] at hr0; exact hr0
  rcases dO M d with ⟨e, _⟩ | ⟨e, _⟩ | ⟨e, hdk, k, rfl, hk⟩
  ·omega
  ·omega
  have he : dw (M.ds.getD k cZ).S (M.ds.getD k cZ).g n = 0 := by unfold cJ at hr0; rwa [if_pos e, M.km] at hr0
  refine (wQ n x h hdk hk he hs hll (hr k hk)).mono ?_;rintro e w' ⟨rfl, hl⟩;exact ⟨by unfold eZ; rw [if_pos hr0], hl⟩
 ·refine (xv d n x h hr0).mono ?_;rintro e w' ⟨rfl, hb⟩;exact ⟨by unfold eZ; rw [if_neg hr0], Left.xD h hb (by unfold et; rw [if_neg hr0])⟩
end
section
variable {w w' : World}
theorem aj2 {A : Option Addr} {n c : Nat} {ks : List Int} (hl : RdE bg w w.heap.size A n ks) (hnc : n <= c) (hc : c <= maxLen) :
  Calls prog 29 #[.slice A n c] w (fL dv w ks) := by
 have hlen : ks.length = n := hl.1;unfold maxLen at hc;by_cases h1 : n < 1
 ·have HN := ae (show ¬ jx ks from fun h => by have := h.1; omega);have h0 : n = 0 := by omega
  subst h0;clear hl hlen h1;go_enter func29, ntmps29;go_wp2;go_ret2;exact fL.no ak HN rfl
 by_cases h2 : 17 < n
 ·have HN := ae (show ¬ jx ks from fun h => by have := h.2.1; omega);have h1' : ¬((n : Int) < 1) := by omega
  have h2' : ((n : Int) > 17) := by omega
  clear hl hlen h1 h2;go_enter func29, ntmps29;go_wp2;go_ret2;exact fL.no ak HN rfl
 have h1' : ¬((n : Int) < 1) := by omega
 have h2' : ¬((n : Int) > 17) := by omega
 have h3' : ¬(17 < (n : Int)) := by omega
 have HL := ae hl;have HLEN := ae hlen;have HMK := ae (show Making dv w (w.alloc (.cells #[.slice none 0 0, .int .i64 0, .bool false, .int .i64 0] 129)) (.slice none 0 0) (fun _ _ => False) [] [] 0 false 0 from
  ⟨heap_alloc_new w _, aQ.nil _ _, ⟨rfl, fun i hi => absurd hi (Nat.not_lt_zero i), fun i j hi => absurd hi (Nat.not_lt_zero i)⟩, fun i hi => absurd hi (Nat.not_lt_zero i), (Below.refl _ w).alloc aj _⟩)
 clear hl hlen;go_enter func29, ntmps29;go_wp2_with fail;generalize w.alloc (.cells #[.slice none 0 0, .int .i64 0, .bool false, .int .i64 0] 129) = w0 at *;clear h1' h2' h3'
 go_loopw [5] (fun i wr => ∃ (j : Nat) (v : Value) (Fs : Nat -> Nat -> Prop) (ps : List Nat), j <= n /\ i = .int .i64 j /\ Making dv w wr v Fs ps ((ks.take j).map oW) 0 false 0 /\ ∀ q, q < j -> 1 <= ks.getD q 0 /\ ks.getD q 0 <= 512) (fun i _ => n - (intOf i).toNat)
 case atStart => exact ⟨0, _, _, _, Nat.zero_le _, rfl, HMK, fun q hq => absurd hq (Nat.not_lt_zero q)⟩
 case round =>
  obtain ⟨j, v, Fs, ps, hj, rfl, hmk, hall⟩ := hrel;have HALL := ae hall;clear hall HMK;by_cases hlt : j < n
  ·have hlj : (j : Int) < (n : Int) := by omega
   obtain ⟨bA, oA, rfl, hbA, hcA⟩ := (HL.out.below hmk.below).int hlt;have HM := ae hmk;obtain ⟨AS, cS, rfl, hs1, hs2⟩ := hmk.row.form;unfold maxLen at hs2;have hpl : ps.length = j := by have := hmk.devs.len; rw [List.length_map, List.length_take] at this; have := HLEN.out; omega
   have HPL := ae hpl;obtain ⟨z, hz⟩ : ∃ z, ks.getD j 0 = z := ⟨_, rfl⟩;rw [hz] at hcA;have HZ := ae hz;clear hmk hz hpl;by_cases hok : 1 <= z /\ z <= 512
   ·obtain ⟨k, rfl⟩ : ∃ k : Nat, z = k := ⟨z.toNat, by omega⟩;have hk1 : 1 <= k := by omega
    have hk2 : k <= 512 := by omega
    clear hok;go_wp2_with fail;refine (aij k wr hk1 hk2).mono ?_;rintro e w1 ⟨p', F', rfl, hd1, hb1, hF1⟩;have hat1 := aC HM.out.at_ hb1;obtain ⟨c0, c1, c2, c3⟩ := tf hat1;have hrow1 := HM.out.row.below hb1;have hrow2 := hrow1.below ((Below.refl _ w1).alloc aj (.cells (dv.E.cel p').toArray dv.E.t));have HR := ae hrow2;have HNEW := ae (eB (E := dv.E) (l := [p']) w1 (dv.E.cel p').toArray dv.E.t (by rw [eN]; simp [cH]));have HSZ := ae (show w.heap.size <= (w1.alloc (.cells (dv.E.cel p').toArray dv.E.t)).heap.size by rw [World.size_alloc]; have := HM.out.below.size; have := hb1.size; omega);have HD1 := ae hd1;have HB1 := ae hb1;have HF1 := ae hF1;have HAT := ae hat1;have HPS := ae (show ps.length + 1 <= 34359738368 by have := HPL.out; omega);clear hd1 hb1 hF1 hat1 hrow1 hrow2;have hal : w.heap.size < w1.heap.size := aS HAT;go_wp2_with (first | (refine az rfl (da (E := dv.E) (a := p') rfl rfl rfl (by decide)) ?_) | (at_builtin; refine kq dv.E rfl _ _ rfl w.heap.size _ _ _ _ ps [p'] _ rfl rfl HR HNEW HSZ HPS ?_) | fail);intro v' w3 hm3 hg3 ho3;have hxv : v'.ownBlock ≠ some w.heap.size := fun e => by
     rcases ho3 _ e with e' | e'
     ·exact HM.out.row.dZ HM.out.at_ dv.ne e'
     ·omega
    have HNX := ae (HM.out.next (fun _ _ => rfl) HB1 HF1 (d := oW k) HD1 hm3 hg3 ho3);have hvx : (Value.slice AS ps.length cS).ownBlock ≠ some w.heap.size := HM.out.row.dZ HM.out.at_ dv.ne;have hat3 : w3.heap[w.heap.size]? = some _ := (hg3.block w.heap.size (by rw [World.size_alloc]; omega) (fun e => hvx e.symm)).trans (bJ HAT _);obtain ⟨AV, cV, rfl, _, _⟩ := hm3.form;obtain ⟨d0, d1, d2, d3⟩ := tf hat3;have f0 := frozen_of_row w3 w.heap.size 0 _ _ hat3;clear hm3 hg3 ho3 hat3 c0 c1 c2 c3;go_wp2_with fail;go_roundw
    case rel =>
     refine ⟨j + 1, .slice AV (ps.length + 1) cV, upF Fs (List.map oW (List.take j ks)).length F', ps ++ [p'], by omega, by go_num, ?_, fun q hq => ?_⟩
     ·rw [lP (by have := HLEN.out; omega), HZ.out];have h6 := HNX.out;rw [show (ps ++ [p']).length = ps.length + 1 from by simp] at h6;exact h6
     ·by_cases e : q = j
      ·subst e; rw [HZ.out]; omega
      ·exact HALL.out q (by omega)
    case measure => simp [intOf]; omega
   ·have HB := ae HM.out.below;have HN := ae (show ¬ jx ks from fun h => hok (by have := h.2.2 z (by rw [<- HZ.out]; exact lj (by have := HLEN.out; omega)); exact this));go_wp2_with fail;refine (acY z wr hok).mono ?_;rintro e w1 ⟨rfl, rfl⟩;have HB1 := ae HB;clear hok;go_wp2_with fail;go_ret2;exact fL.no HB1 HN rfl
  ·have hjn : j = n := by omega
   subst hjn;have hlj : ¬((j : Int) < (j : Int)) := by omega
   have HM := ae hmk;clear hmk;go_wp2_with fail;go_ret2;have h5 := HM.out;have hLL := HLEN.out;rw [<- hLL, List.take_length] at h5;obtain ⟨g1, g2, g3⟩ := h5.done (by rw [List.length_map]; omega) (by rw [List.length_map]; omega);refine ⟨g3, .inl ⟨⟨by omega, by omega, fun k hk => ?_⟩, _, _, _, _, rfl, g1, g2⟩⟩;obtain ⟨i, hi, rfl⟩ := List.getElem_of_mem hk;have := HALL.out i (by omega);rwa [List.getD_eq_getElem?_getD, List.getElem?_eq_getElem hi] at this
end
def akH : ahk where
 read := 181
 write := 98
 flush := 209
 fail := 40
 devices := 79
 gd := 80
def RB (w : World) (F : Nat -> Prop) (p : Nat) (M : aZ) : Prop := InB dv w F p M /\ M.Wf
theorem qA {M : aZ} {k : Nat} {d : jW} (h : M.Wf) (hd : d.S.length = (M.ds.getD k cZ).S.length) : (M.put k d).Wf := by
 refine ⟨by rw [M.oL]; exact h.one, by rw [M.oL]; exact h.cap, fun i hi => ?_⟩;rw [M.oL] at hi
 show 1 <= ((M.ds.set k d).getD i cZ).S.length /\ ((M.ds.set k d).getD i cZ).S.length <= 512
 by_cases e : i = k
 ·subst e; rw [kI hi, hd]; exact h.len i hi
 ·rw [jI e]; exact h.len i hi
theorem yU {M : aZ} (h : M.Wf) : M.done.Wf := ⟨h.one, h.cap, h.len⟩
theorem uN {M : aZ} (h : M.Wf) : M.night.Wf := ⟨h.one, h.cap, h.len⟩
theorem akw {M : aZ} (h : M.Wf) (d n : Int) (b : Blk) : (et M d n b).Wf := by
 unfold et
 split
 ·split
  ·exact uN h
  ·exact qA (yU h) rfl
 ·exact h
theorem ajZ {M : aZ} (h : M.Wf) (d : Int) : (gh M d).Wf := by
 unfold gh
 split
 ·split
  ·exact uN h
  ·exact qA (yU h) (by rw [mV]; rfl)
 ·exact h
theorem aj1 {M : aZ} (h : M.Wf) (d : Int) : (ki M d).Wf := by
 unfold ki
 split
 ·exact qA h rfl
 ·exact h
theorem aju {ks : List Int} (h : jx ks) : (fI ks).Wf := by
 refine ⟨by rw [jv, List.length_map]; exact h.1, by rw [jv, List.length_map]; exact h.2.1, fun i hi => ?_⟩;rw [jv, List.length_map] at hi;have : ((fI ks).ds.getD i cZ) = oW (ks.getD i 0) := by
  rw [jv, List.getD, List.getD, List.getElem?_map, List.getElem?_eq_getElem hi]; rfl
 rw [this];have h2 := h.2.2 _ (lj (x := 0) hi)
 show 1 <= (List.replicate _ _).length /\ (List.replicate _ _).length <= 512
 rw [List.length_replicate];omega
def alv : Ben akH where
 Bn := RB
 lt := fun h => h.1.lt
 only := fun h ho hn => ⟨h.1.only ho hn, h.2⟩
 wf := fun h => h.2
 read := fun d n ⟨⟨_, _, _, _, h⟩, _⟩ => ahZ d n h
 write := fun d n b hr ⟨⟨_, _, _, e, h⟩, hw⟩ => by
  subst e;exact (agE d n b h (fun i hi => hr.at_ hi) (by have := hr.1; omega) hr.2.1).mono fun e w' ⟨h1, h2⟩ => ⟨h1, by obtain ⟨F', g1, g2⟩ := h2.out; exact ⟨F', ⟨g1, akw hw _ _ _⟩, g2⟩⟩
 flush := fun d hr ⟨⟨_, _, _, e, h⟩, hw⟩ => by
  subst e;exact (af4 d h (by have := hr.1; omega) hr.2.1).mono fun e w' ⟨h1, h2⟩ => ⟨h1, by obtain ⟨F', g1, g2⟩ := h2.out; exact ⟨F', ⟨g1, ajZ hw _⟩, g2⟩⟩
 fail := fun d ⟨⟨_, _, _, e, h⟩, hw⟩ => by
  subst e;exact (ajQ d h).mono fun e w' ⟨h1, h2⟩ => ⟨h1, by obtain ⟨F', g1, g2⟩ := h2.out; exact ⟨F', ⟨g1, aj1 hw _⟩, g2⟩⟩
 devices := fun ⟨⟨_, _, _, _, h⟩, _⟩ => (abD h).mono fun e w' ⟨h1, h2⟩ => ⟨h1, by subst h2; exact ak⟩
 gd := fun d ⟨⟨_, _, _, _, h⟩, _⟩ => (abr d h).mono fun e w' ⟨h1, h2⟩ => ⟨h1, by subst h2; exact ak⟩
structure alc extends Ben akH where
 new : ∀ {w A n c ks}, RdE bg w w.heap.size A n ks -> n <= c -> c <= maxLen -> Calls prog 29 #[.slice A n c] w (ajs Bn w ks)
def dB : alc where
 toBen := alv
 new := fun h1 h2 h3 => (aj2 h1 h2 h3).mono fun e w' h => by
  obtain ⟨g1, g | g⟩ := h
  ·obtain ⟨g0, p, v, Fs, ps, g2, g3, g4⟩ := g;exact ⟨g1, .inl ⟨g0, p, _, g2, ⟨⟨v, Fs, ps, rfl, g3⟩, aju g0⟩, g4⟩⟩
  ·exact ⟨g1, .inr g⟩
section
variable {ρ : Operand -> Value} {o : Oper} {x y : Operand} {w : World} {t : TypeId} {old cs : Array Value}
theorem mb (hz : (prog.info? t).map (·.size) = some cs.size) (he : old.size = cs.size) (h1 : cs.toList.all Value.oneCell' = true) (ho : o.op = .store t x y) (hx : ρ x = .pointer (some ⟨w.heap.size, 0, none⟩)) (hy : ρ y = .agg cs) :
  (execOp ρ o).run prog (w.alloc (.cells old t)) = .ok .skip (w.alloc (.cells cs t)) := by
 have h := run_storeAt_new (P := prog) w t old cs hz he (by simpa using h1);unfold execOp;simp only [ho, hx, hy, Sem.run_bind, h, Result.andThen_ok, Sem.run_pure]
end
def arr (l : List UInt8) : Value := .agg (vals l).toArray
section
variable {ρ : Operand -> Value} {o : Oper} {x y : Operand} {w : World} {b off : Nat} {t : TypeId} {cs ds : List Value} {d : TypeDesc}
theorem bN (hu : prog.underlying t = some d) (hd : d.isRow = true) (hz : (prog.info? t).map (·.size) = some cs.length) (ho : o.op = .load t x) (hx : ρ x = .pointer (some ⟨b, off, none⟩)) (hc : w.rangeAt b off cs) :
  (execOp ρ o).run prog w = .ok (.value (.agg cs.toArray)) w := aE ho hx (run_loadAt_mid w b off t cs d hc hu hd hz)
theorem ct (ho : o.op = .box t x) (hx : ρ x = .agg cs.toArray) : (execOp ρ o).run prog w = .ok (.value (.pointer (some ⟨w.heap.size, 0, none⟩))) (w.alloc (.cells cs.toArray t)) := by
 unfold execOp;simp [ho, hx, Instr.box, newVar, newRow, Value.cells]
theorem gB {v : Value} (h : (prog.info? t).map (fun i => i.zero) = some (some v)) (w : World) : (zeroValue t).run prog w = .ok v w := by
 cases hq : prog.info? t with
 |none => rw [hq] at h; cases h
 |some i =>
  rw [hq] at h;simp only [Option.map_some, Option.some.injEq] at h;simp [zeroValue, typeInfo, hq, h]
theorem dR (h : (prog.info? t).map (fun i => i.zero) = some (some (.agg cs.toArray))) (ho : o.op = .alloc t) : (execOp ρ o).run prog w = .ok (.value (.pointer (some ⟨w.heap.size, 0, none⟩))) (w.alloc (.cells cs.toArray t)) := by
 have hz := gB h w;unfold execOp;simp [ho, Instr.alloc, hz, newVar, newRow, Value.cells]
theorem ix (hz : (prog.info? t).map (·.size) = some cs.length) (h1 : ∀ v ∈ cs, v.oneCell' = true) (ho : o.op = .store t x y) (hx : ρ x = .pointer (some ⟨b, off, none⟩)) (hy : ρ y = .agg cs.toArray) (ht : w.there b off cs.length) :
  (execOp ρ o).run prog w = .ok .skip (w.setCells b off cs) := by
 have h := run_storeAt_mid (P := prog) w b off t cs.toArray (by simpa using ht) (by simpa using hz) (all_oneCell_toArray h1);refine dh ho hx hy ?_
 simpa using h
theorem gF (hz : (prog.info? t).map (·.size) = some cs.length) (he : ds.length = cs.length) (h1 : ∀ v ∈ cs, v.oneCell' = true) (ho : o.op = .store t x y) (hx : ρ x = .pointer (some ⟨w.heap.size, 0, none⟩)) (hy : ρ y = .agg cs.toArray) :
  (execOp ρ o).run prog (w.alloc (.cells ds.toArray t)) = .ok .skip (w.alloc (.cells cs.toArray t)) :=
 mb (by simpa using hz) (by simpa using he) (by simpa using h1) ho hx hy
theorem lE {v : Value} (ho : o.op = .build t #[]) (h : (Instr.build t #[]).run prog w = .ok v w) : (execOp ρ o).run prog w = .ok (.value v) w := by
 unfold execOp;simp only [ho, List.map_toArray, List.map_nil, Sem.run_bind, h, Result.andThen_ok, Sem.run_pure]
theorem aeh {r : TypeId} {xs ys : Array Value} {c : Bool} (hg : prog.eqGuardType prog.depth t = false) (he : (Op.equalIn 10000 t (.agg xs) (.agg ys)).run prog w = .ok c w) (ho : o.op = .binOp .eql t x y r) (hx : ρ x = .agg xs) (hy : ρ y = .agg ys) :
  (execOp ρ o).run prog w = .ok (.value (.bool c)) w := by
 have h := run_eql_struct (P := prog) w t xs ys;rw [he] at h;unfold execOp;simp only [ho, hx, hy, Sem.run_bind, run_eqGuard_agg w .eql t x y xs ys hg, Result.andThen_ok];rw [h];simp
theorem aeB {r : TypeId} {xs ys : Array Value} {c : Bool} (hg : prog.eqGuardType prog.depth t = false) (he : (Op.equalIn 10000 t (.agg xs) (.agg ys)).run prog w = .ok c w) (ho : o.op = .binOp .neq t x y r) (hx : ρ x = .agg xs) (hy : ρ y = .agg ys) :
  (execOp ρ o).run prog w = .ok (.value (.bool (!c))) w := by
 have h := run_neq_struct (P := prog) w t xs ys;rw [he] at h;unfold execOp;simp only [ho, hx, hy, Sem.run_bind, run_eqGuard_agg w .neq t x y xs ys hg, Result.andThen_ok];rw [h];simp
end
section
variable {ρ : Operand -> Value} {o : Oper} {x y : Operand} {w : World} {t r : TypeId} {k : IntKind} {a b : Int}
theorem ey (c : Bool) (ho : o.op = .binOp .gtr t x y r) (hx : ρ x = .int k a) (hy : ρ y = .int k b) (h : decide (b < a) = c) : (execOp ρ o).run prog w = .ok (.value (.bool c)) w := by
 unfold execOp;simp [ho, hx, hy, eqGuard, binOp, Op.intCmp, h]
theorem dM (c : Bool) (ho : o.op = .binOp .geq t x y r) (hx : ρ x = .int k a) (hy : ρ y = .int k b) (h : decide (b <= a) = c) : (execOp ρ o).run prog w = .ok (.value (.bool c)) w := by
 unfold execOp;simp [ho, hx, hy, eqGuard, binOp, Op.intCmp, h]
theorem jy (c : Bool) (ho : o.op = .binOp .leq t x y r) (hx : ρ x = .int k a) (hy : ρ y = .int k b) (h : decide (a <= b) = c) : (execOp ρ o).run prog w = .ok (.value (.bool c)) w := by
 unfold execOp;simp [ho, hx, hy, eqGuard, binOp, Op.intCmp, h]
theorem aY (c : Bool) (ho : o.op = .binOp .lss t x y r) (hx : ρ x = .int k a) (hy : ρ y = .int k b) (h : decide (a < b) = c) : (execOp ρ o).run prog w = .ok (.value (.bool c)) w := by
 unfold execOp;simp [ho, hx, hy, eqGuard, binOp, Op.intCmp, h]
theorem q6 {ad : Addr} {n : Int} (h : w.cell? ad = some (.int .u8 n)) : (Instr.loadAt 5 (.pointer (some ad))).run prog w = .ok (.int .u8 n) w := by simp [go_sem, h]
end
theorem bV {w : World} {ad : Addr} {k : Int} (h : w.cell? ad = some (.int .i64 k)) : (Instr.loadAt 3 (.pointer (some ad))).run prog w = .ok (.int .i64 k) w := by simp [go_sem, h]
theorem lh {w : World} {ad : Addr} {k : Int} (h : w.cell? ad = some (.int .u64 k)) : (Instr.loadAt 46 (.pointer (some ad))).run prog w = .ok (.int .u64 k) w := by simp [go_sem, h]
theorem rK {t : TypeId} {n : Nat} (hu : prog.underlying t = some (.array n 5)) (w : World) (a b : List UInt8) (ha : a.length = n) (hb : b.length = n) (d : Nat) : (Op.equalIn (d + 2) t (arr a) (arr b)).run prog w = .ok (decide (a = b)) w := by
 have he : ∀ x y : Int, (Op.equalIn (d + 1) 5 (.int .u8 x) (.int .u8 y)).run prog w = .ok (x == y) w := fun x y => run_equalIn_int w d 5 .u8 .u8 x y underlying5
 have hp : ∀ (c : List UInt8) (i : Nat), i < c.length -> (part 5 (vals c).toArray (i * 1)).run prog w = .ok (.int .u8 (bt c i)) w := fun c i hi => by
  have := ja hi;simp [part, this]
 show (Op.equalIn ((d + 1) + 1) t (arr a) (arr b)).run prog w = .ok (decide (a = b)) w
 generalize d + 1 = e at *;have key : ∀ (l : List Nat), (∀ i ∈ l, i < n) ->
   ((forIn l ((none : Option Bool), ()) fun i r => do
    let x <- part 5 (vals a).toArray (i * 1)
    let y <- part 5 (vals b).toArray (i * 1)
    let z <- Op.equalIn e 5 x y
    if (!z) = true then pure (ForInStep.done (some false, ())) else pure (ForInStep.yield (none, ())) : Sem _)).run prog w =
   .ok (if l.all (fun i => bt a i == bt b i) then (none, ()) else (some false, ())) w := by
  intro l
  induction l with
  |nil => intro _; simp
  |cons i l ih =>
   intro hl;have hi := hl i (by simp);simp only [List.forIn_cons, Sem.run_bind, hp a i (by omega), hp b i (by omega), Result.andThen_ok, he];by_cases h : bt a i = bt b i
   ·have hb : (bt a i == bt b i) = true := by simpa using h
    simp only [hb, Bool.not_true, Bool.false_eq_true, if_false, Sem.run_pure, Result.andThen_ok, List.all_cons, Bool.true_and];exact ih fun j hj => hl j (by simp [hj])
   ·have hb : (bt a i == bt b i) = false := by simpa using h
    simp [hb]
 have hall : ((List.range' 0 n).all fun i => bt a i == bt b i) = decide (a = b) := by
  rw [Bool.eq_iff_iff, List.all_eq_true, decide_eq_true_iff]
  constructor
  ·intro h;exact kV (by omega) fun j hj => by simpa using h j (by simp [List.mem_range']; omega)
  ·rintro rfl i _;simp
 have hk := key (List.range' 0 n) (fun i hi => by simp [List.mem_range'] at hi; omega);rw [hall] at hk;simp only [Op.equalIn, arr, Sem.run_bind, run_underlying hu, Result.andThen_ok, Tryz.sizeOf5, Std.Legacy.Range.forIn_eq_forIn_range'];simp only [Std.Legacy.Range.size, Nat.sub_zero, Nat.add_sub_cancel, Nat.div_one];rw [hk];by_cases h : a = b
 ·simp [h]
 ·simp [h]
theorem aP {w : World} {b : Nat} {t : TypeId} {cs : List Value} (h : w.heap[b]? = some (.cells cs.toArray t (0, 0))) : w.rangeAt b 0 cs := fun j v hj => by
 rw [cell_of_row w b (0 + j) _ t (0, 0) h, Nat.zero_add]
 simpa using hj
theorem fx {w : World} {b o k : Nat} {cs ds es fs : List Value} (h : w.rangeAt b o cs) (e : cs = ds ++ (es ++ fs)) (hk : ds.length = k) : w.rangeAt b (o + k) es := fun j v hj => by
 subst e hk;have := h (ds.length + j) v (by
  rw [List.getElem?_append_right (by omega), Nat.add_sub_cancel_left, List.getElem?_append_left (List.getElem?_eq_some_iff.1 hj).1];exact hj)
 rwa [<- Nat.add_assoc] at this
theorem eR {w : World} {b : Nat} {t : TypeId} {cs : List Value} (h : w.heap[b]? = some (.cells cs.toArray t (0, 0))) {o n : Nat} (hn : o + n <= cs.length) : w.there b o n := fun j hj => by
 rw [cell_of_row w b (o + j) _ t (0, 0) h, frozen_of_row w b (o + j) _ t h];exact ⟨by simp; omega, rfl⟩
theorem mH {fn : Func} {p q u : Tmp} {t : TypeId} {cs : List Value} {d : TypeDesc} (h : fn.results = #[.tmp p, .cell q t, .tmp u]) (tmps : Array Value) (w : World) (b : Nat) (hq : tmps.getD q undef = .pointer (some ⟨b, 0, none⟩)) (hr : w.rangeAt b 0 cs) (hu : prog.underlying t = some d) (hd : d.isRow = true) (hz : (prog.info? t).map (·.size) = some cs.length) :
  (results fn tmps).run prog w = .ok (.tuple #[tmps.getD p undef, .agg cs.toArray, tmps.getD u undef]) w := by
 have hl : (loadVar t ⟨b, 0, none⟩).run prog w = .ok (.agg cs.toArray) w := run_loadVar_mid (P := prog) w b 0 t cs d hr hu hd hz;have hq' : tmps[q]?.getD undef = .pointer (some ⟨b, 0, none⟩) := by simpa using hq
 simp [results, h, hq', asAddr, hl]
theorem mR {fn : Func} {p : Tmp} {t : TypeId} {cs : List Value} {d : TypeDesc} (h0 : fn.results = #[.cell p t]) (tmps : Array Value) (w : World) (b : Nat) (hp : tmps.getD p undef = .pointer (some ⟨b, 0, none⟩)) (hr : w.rangeAt b 0 cs) (hu : prog.underlying t = some d) (hd : d.isRow = true) (hz : (prog.info? t).map (·.size) = some cs.length) :
  (results fn tmps).run prog w = .ok (.agg cs.toArray) w := by
 have hl : (loadVar t ⟨b, 0, none⟩).run prog w = .ok (.agg cs.toArray) w := run_loadVar_mid (P := prog) w b 0 t cs d hr hu hd hz;have hp' : tmps[p]?.getD undef = .pointer (some ⟨b, 0, none⟩) := by simpa using hp
 simp [results, h0, hp', asAddr, hl]
theorem size_setCells (w : World) (b o : Nat) (vs : List Value) : (w.setCells b o vs).heap.size = w.heap.size := (fF b vs o w).1
theorem cell1 {w : World} {b : Nat} {t : TypeId} {x : Value} (h : w.heap[b]? = some (.cells #[x] t (0, 0))) : w.cell? ⟨b, 0, none⟩ = some x /\ w.frozen? ⟨b, 0, none⟩ = false :=
 ⟨by rw [cell_of_row w b 0 _ t (0, 0) h]; rfl, frozen_of_row w b 0 _ t h⟩
theorem set1 {w : World} {b : Nat} {t : TypeId} {x : Value} (h : w.heap[b]? = some (.cells #[x] t (0, 0))) (y : Value) : (w.setCell ⟨b, 0, none⟩ y).heap[b]? = some (.cells #[y] t (0, 0)) := by
 have := heap_setCell_same w b 0 #[x] t y h
 simpa using this
theorem rW (w : World) (b o : Nat) (y : Value) : w.grownBy (w.setCell ⟨b, o, none⟩ y) (some b) :=
 ⟨rfl, rfl, rfl, by simp [World.setCell], fun k hk hne => heap_setCell_other w ⟨b, o, none⟩ k y (fun e => hne (by rw [e]))⟩
theorem cz {w w' : World} {b k : Nat} {o : Obj} (h : w.heap[b]? = some o) (hg : w.grownBy w' (some k)) (hne : b ≠ k) : w'.heap[b]? = some o := (hg.block b (aS h) (fun e => hne (by injection e))).trans h
end Go.Proofs.YtdmhelalbemlcaaGreatDoor
