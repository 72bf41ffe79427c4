import Derived.Test.YtlmdklakcmnaiaaGreatDoorBhac
import Derived.Deep.DeepCutAuto
namespace Go.Proofs.YtlmdklakcmnaiaaGreatDoor
set_option maxHeartbeats 8000000
open Go.Proofs.Tryz
open Go.RowKit
set_option linter.unusedVariables false
set_option maxRecDepth 100000
section
variable {D : Dev} {w w' : World} {p : Nat} {v : Value} {Fs : Nat -> Nat -> Prop} {ps : List Nat} {M : aV}
theorem aig (d n : Int) (h : bV (cy D) w p v Fs ps M) :
  Calls prog 141 #[.pointer (some ⟨p, 0, none⟩), .int .i64 d, .int .i64 n] w fun e w' => e = .returned (.tuple #[blk (gF M d n), .int .i64 (dr M d n)]) /\ Below w.heap.size w w' := by
 have hA := (Below.refl w.heap.size w).alloc aj (.cells (cel aJ).toArray 44);have h1 := h.below hA;have HT := ae (fB w aJ 44);have HA := ae hA;by_cases hl : gG M d = 0
 ·rcases fM M d with ⟨e, _⟩ | ⟨e, _⟩ | ⟨e, hdk, k, rfl, hk⟩
  ·omega
  ·omega
  obtain ⟨x, hx⟩ : ∃ x, M.ds.getD k bF = x := ⟨_, rfl⟩;have hat := h1.devs.at_ k hk;rw [hx] at hat
  have HB : Hid (gF M (k : Int) n = jl x.S x.L x.g n) := ae (by unfold gF; rw [if_pos e, <- hx]; rfl);have HE : Hid (dr M (k : Int) n = dN x.S x.g n) := ae (by unfold dr; rw [if_pos e, <- hx]; rfl);have HO := ae (ki h1 hdk hk);have HD := ae (D.read n hat);have HSZ := ae (World.size_alloc w (.cells (cel aJ).toArray 44));clear e h h1 hat hx hdk hA hl;rw [HB.out, HE.out];clear HB HE;generalize jl x.S x.L x.g n = y at *;generalize dN x.S x.g n = z at *;generalize ps.getD k 0 = q at *;go_enter func141, ntmps141;go_wp2_with (first | (refine az rfl (bU rfl) ?_) | fail);refine HO.out.mono ?_;rintro e w1 ⟨rfl, rfl⟩;go_wp2_with fail;refine HD.out.mono ?_;rintro e w2 ⟨rfl, hb⟩;have HT2 := ae (ci HT (by rw [HSZ.out]; omega) hb);have HB2 := ae (HA.out.trans (hb.mono (by rw [HSZ.out]; omega)));clear hb;go_wp2_with (first | (refine bN rfl (bO rfl rfl rfl HT2.out) ?_) | fail);exact bodyPost_ret (dC rfl _ _ _ rfl (World.rangeAt_setCells_same _ _ _ _ (by rw [aO]; exact HT2))) rfl ⟨rfl, below_setCells HB2 aj _⟩
 ·have HB : Hid (gF M d n = aJ) := ae (by unfold gF; rw [if_neg hl]);have HE : Hid (dr M d n = gG M d) := ae (by unfold dr; rw [if_neg hl]);have HO := ae (pe h1 hl);clear h h1 hA;rw [HB.out, HE.out];rcases fM M d with ⟨e, _⟩ | ⟨e, _⟩ | ⟨e, _⟩
  rotate_right 1
  ·exact absurd e hl
  all_goals
   rw [e] at HO ⊢;clear e hl;go_enter func141, ntmps141;go_wp2_with (first | (refine az rfl (bU rfl) ?_) | fail);refine HO.out.mono ?_;rintro e w1 ⟨rfl, rfl⟩;go_wp2_with (first | (refine az rfl (dy (c := aJ) (parts := []) rfl rfl) ?_) | (refine bN rfl (bO rfl rfl rfl HT.out) ?_));exact bodyPost_ret (dC rfl _ _ _ rfl (World.rangeAt_setCells_same _ _ _ _ (by rw [aO]; exact HT))) rfl ⟨rfl, below_setCells HA aj _⟩
theorem agW (d n : Int) (h : bV (cy D) w p v Fs ps M) :
  Calls prog 12 #[.pointer (some ⟨p, 0, none⟩), .int .i64 d, .int .i64 n] w fun e w' => e = .returned (.tuple #[blk (qD M d n), .int .i64 (qE M d n)]) /\ Below w.heap.size w w' := by
 have hA := (Below.refl w.heap.size w).alloc aj (.cells (cel aJ).toArray 44);have h1 := h.below hA;have HT := ae (fB w aJ 44);have HA := ae hA;rcases jH M d with ⟨e, ho⟩ | ⟨e, k, rfl, hk⟩
 ·have HB : Hid (qD M d n = aJ) := ae (by unfold qD; rw [if_neg (by omega)]);have HE : Hid (qE M d n = 2) := ae (by unfold qE; rw [if_neg (by omega), e]);have HO := ae (iG h1 ho);clear e h h1 ho hA;rw [HB.out, HE.out];go_enter func12, ntmps12;go_wp2_with (first | (refine az rfl (bU rfl) ?_) | fail);refine HO.out.mono ?_;rintro e w1 ⟨rfl, rfl⟩;go_wp2_with (first | (refine az rfl (dy (c := aJ) (parts := []) rfl rfl) ?_) | (refine bN rfl (bO rfl rfl rfl HT.out) ?_));exact bodyPost_ret (dC rfl _ _ _ rfl (World.rangeAt_setCells_same _ _ _ _ (by rw [aO]; exact HT))) rfl ⟨rfl, below_setCells HA aj _⟩
 ·obtain ⟨x, hx⟩ : ∃ x, M.ds.getD k bF = x := ⟨_, rfl⟩;have hat := h1.devs.at_ k hk;rw [hx] at hat
  have HB : Hid (qD M (k : Int) n = iI x.S x.g n) := ae (by unfold qD; rw [if_pos e, <- hx]; rfl);have HE : Hid (qE M (k : Int) n = dN x.S x.g n) := ae (by unfold qE; rw [if_pos e, <- hx]; rfl);have HO := ae (iN h1 hk);have HD := ae (D.sure n hat);have HSZ := ae (World.size_alloc w (.cells (cel aJ).toArray 44));clear e h h1 hat hx hA;rw [HB.out, HE.out];clear HB HE;generalize iI x.S x.g n = y at *;generalize dN x.S x.g n = z at *;generalize ps.getD k 0 = q at *;go_enter func12, ntmps12;go_wp2_with (first | (refine az rfl (bU rfl) ?_) | fail);refine HO.out.mono ?_;rintro e w1 ⟨rfl, rfl⟩;go_wp2_with fail;refine HD.out.mono ?_;rintro e w2 ⟨rfl, hb⟩;have HT2 := ae (ci HT (by rw [HSZ.out]; omega) hb);have HB2 := ae (HA.out.trans (hb.mono (by rw [HSZ.out]; omega)));clear hb;go_wp2_with (first | (refine bN rfl (bO rfl rfl rfl HT2.out) ?_) | fail);exact bodyPost_ret (dC rfl _ _ _ rfl (World.rangeAt_setCells_same _ _ _ _ (by rw [aO]; exact HT2))) rfl ⟨rfl, below_setCells HB2 aj _⟩
theorem vF (d : Int) (h : bV (cy D) w p v Fs ps M) (hl : iT M d ≠ 0) :
  Calls prog 72 #[.pointer (some ⟨p, 0, none⟩), .int .i64 d] w fun e w' => e = .returned (.int .i64 (eI M d)) /\ Left (cy D) w p v Fs ps M.ds.length (fL M d) w' := by
 have HE : Hid (eI M d = iT M d) := ae (by unfold eI; rw [if_neg hl]);have HL : Hid (∀ w', Below w.heap.size w w' -> Left (cy D) w p v Fs ps M.ds.length (fL M d) w') := ae (fun w' hb => by
  have e : fL M d = M := by unfold fL; rw [if_neg hl]
  rw [e];exact ⟨Fs, ps, h.below hb, Only.of_below _ hb, Grow.same _ _⟩)
 by_cases h0 : gG M d = 0
 ·rcases fM M d with ⟨e, _⟩ | ⟨e, _⟩ | ⟨e, hdk, k, rfl, hk⟩
  ·omega
  ·omega
  obtain ⟨x, hx⟩ : ∃ x, M.ds.getD k bF = x := ⟨_, rfl⟩;have hat := h.devs.at_ k hk;rw [hx] at hat
  have hg : x.g = true := by
   cases hg : x.g
   ·exfalso; apply hl; unfold iT; rw [if_pos e, show M.dev (k : Int) = x from hx, hg, if_neg (by decide)]
   ·rfl
  have H9 : Hid (iT M (k : Int) = 9) := ae (by unfold iT; rw [if_pos e, show M.dev (k : Int) = x from hx, hg, if_pos rfl]);have HO := ae (ki h hdk hk);have HD := ae (D.dead hat);have HG := ae hg;clear e h hat hx hdk hl h0 hg;generalize ps.getD k 0 = q at *;go_enter func72, ntmps72;go_wp2_with fail;refine HO.out.mono ?_;rintro e w1 ⟨rfl, rfl⟩;go_wp2_with fail;refine HD.out.mono ?_;rintro e w2 ⟨rfl, hb⟩;rw [HG.out];have HBB := ae hb;clear hb;go_wp2_with fail;go_ret;exact ⟨dv (by rw [HE.out, H9.out]), HL.out _ HBB⟩
 ·have HA : Hid (iT M d = gG M d) := ae (by unfold iT; rw [if_neg h0]);have HO := ae (pe h h0);clear h hl;rw [HE.out, HA.out];rcases fM M d with ⟨e, _⟩ | ⟨e, _⟩ | ⟨e, _⟩
  rotate_right 1
  ·exact absurd e h0
  all_goals
   rw [e] at HO ⊢;clear e h0;go_enter func72, ntmps72;go_wp2_with fail;refine HO.out.mono ?_;rintro e w1 ⟨rfl, rfl⟩;go_wp2_with fail;go_ret;exact ⟨rfl, HL.out _ ak⟩
theorem afN (d : Int) (h : bV (cy D) w p v Fs ps M) (hs : M.steps < 1000000) (hll : M.left < 9223372036854775808) :
  Calls prog 72 #[.pointer (some ⟨p, 0, none⟩), .int .i64 d] w fun e w' => e = .returned (.int .i64 (eI M d)) /\ Left (cy D) w p v Fs ps M.ds.length (fL M d) w' := by
 by_cases hl : iT M d = 0;rotate_left 1
 ·exact vF d h hl
 have hlit : gG M d = 0 := by
  unfold iT at hl;by_cases h0 : gG M d = 0
  ·exact h0
  ·rw [if_neg h0] at hl; exact hl
 rcases fM M d with ⟨e, _⟩ | ⟨e, _⟩ | ⟨e, hdk, k, rfl, hk⟩
 ·omega
 ·omega
 obtain ⟨x, hx⟩ : ∃ x, M.ds.getD k bF = x := ⟨_, rfl⟩;have hat := h.devs.at_ k hk;rw [hx] at hat
 have hg : x.g = false := by
  cases hg : x.g
  ·rfl
  ·exfalso; unfold iT at hl; rw [if_pos e, show M.dev (k : Int) = x from hx, hg, if_pos rfl] at hl; omega
 have HEE : Hid (eI M (k : Int) = M.fo) := ae (by unfold eI; rw [if_pos hl]);have HO := ae (ki h hdk hk);have HD := ae (D.dead hat);have HG := ae hg;obtain ⟨q, hq⟩ : ∃ q, ps.getD k 0 = q := ⟨_, rfl⟩;rw [hq] at HO HD;by_cases h1 : M.left = 1
 ·have HE : Hid (M.fo = 8) := ae (by unfold aV.fo; rw [if_pos h1]);have HS : Hid (fL M (k : Int) = M.night) := ae (by unfold fL; rw [if_pos hl, if_pos h1]);have HH := ae h;have H1 := ae h1;clear e h hat hx hdk hl hg h1 hlit hs hll hq;go_enter func72, ntmps72;go_wp2_with fail;refine HO.out.mono ?_;rintro e w1 ⟨rfl, rfl⟩;go_wp2_with fail;refine HD.out.mono ?_;rintro e w2 ⟨rfl, hb⟩;rw [HG.out];have HBB := ae hb;clear hb;go_wp2_with fail;refine (oD _ (HH.out.below HBB) H1).mono ?_;rintro e w3 ⟨rfl, h3, ho3⟩;go_wp2_with fail;go_ret;refine ⟨dv (by rw [HEE.out, HE.out]), ?_⟩;rw [HS.out];exact ⟨Fs, ps, h3, (Only.of_below _ HBB).trans (mP _ ho3) fun b hb => .inl hb, Grow.same _ _⟩
 ·have HE : Hid (M.fo = 0) := ae (by unfold aV.fo; rw [if_neg h1]);have HS : Hid (fL M (k : Int) = M.done.put k ⟨flS x.S x.L, [], x.g⟩) := ae (by unfold fL; rw [if_pos hl, if_neg h1, show M.dev (k : Int) = x from hx]; rfl);have HH := ae h;have H1 := ae h1;have HX := ae hx;have HSS := ae hs;have HLL := ae hll;have HQ := ae hq;clear e h hat hx hdk hl hg h1 hlit hs hll hq;go_enter func72, ntmps72;go_wp2_with fail;refine HO.out.mono ?_;rintro e w1 ⟨rfl, rfl⟩;go_wp2_with fail;refine HD.out.mono ?_;rintro e w2 ⟨rfl, hb⟩;rw [HG.out];have HBB := ae hb;clear hb;go_wp2_with fail;refine (qQ 108 #[.pointer (some ⟨q, 0, none⟩)] #[] (HH.out.below HBB) H1 HSS HLL call108 (fun z w3 => z = 0 /\ Left (cy D) w2 p v Fs ps M.ds.length (fL M (k : Int)) w3) ?_).mono ?_
  ·intro w3 h3 ho3;have hat3 := h3.devs.at_ k hk;rw [show M.done.ds.getD k bF = x from HX.out, HG.out, HQ.out] at hat3;refine (D.flush hat3).mono ?_;rintro e w4 ⟨he, F', g1, g2, g3⟩;refine ⟨0, by simpa using he, rfl, Left.behind ho3 (Left.turn h3 hk g2 g3 (d := ⟨flS x.S x.L, [], x.g⟩) (show D.Dv _ _ _ _ _ _ by rw [HG.out, HQ.out]; simpa using g1) HS)⟩
  ·rintro e w4 ⟨z, rfl, rfl, Fs', ps', h4, ho4, hg4⟩;go_wp2_with fail;go_ret;refine ⟨dv (by rw [HEE.out, HE.out]), Fs', ps', h4, (Only.of_below _ HBB).trans ho4 fun b hb => .inl hb, fun b hb => ?_⟩;rcases hg4 b hb with e | e
   ·exact .inl e
   ·exact .inr (aq HBB.out.size e)
end
section
variable {D : Dev} {w w' : World} {p : Nat} {v : Value} {Fs : Nat -> Nat -> Prop} {ps : List Nat} {M : aV}
def wr3 (w : World) (n : Int) (b : Blk) (q : Option Addr) : World := ((w.alloc (.cells #[.int .i64 n] 3)).alloc (.cells (cel b).toArray 44)).alloc (.cells #[.pointer q] 83)
theorem mU (w : World) (n : Int) (b : Blk) (q : Option Addr) : Below w.heap.size w (wr3 w n b q) /\ (wr3 w n b q).heap[w.heap.size]? = some (.cells #[.int .i64 n] 3) /\ (wr3 w n b q).heap[w.heap.size + 1]? = some (.cells (cel b).toArray 44) /\ (wr3 w n b q).heap[w.heap.size + 1 + 1]? = some (.cells #[.pointer q] 83) /\ (wr3 w n b q).heap.size = w.heap.size + 1 + 1 + 1 := by
 unfold wr3;have e1 := World.size_alloc (w := w) (o := .cells #[.int .i64 n] 3);have e2 := World.size_alloc (w := w.alloc (.cells #[.int .i64 n] 3)) (o := .cells (cel b).toArray 44);have e3 := World.size_alloc (w := (w.alloc (.cells #[.int .i64 n] 3)).alloc (.cells (cel b).toArray 44)) (o := .cells #[.pointer q] 83);have n1 := lM w #[.int .i64 n] 3;have n2 := lM (w.alloc (.cells #[.int .i64 n] 3)) (cel b).toArray 44;have n3 := lM ((w.alloc (.cells #[.int .i64 n] 3)).alloc (.cells (cel b).toArray 44)) #[.pointer q] 83;rw [e2, e1] at n3;rw [e1] at n2;refine ⟨(((Below.refl _ w).alloc aj _).alloc (by omega) _).alloc (by omega) _, bu (bu n1 _) _, bu n2 _, n3, by omega⟩
theorem ajG {q a b c : Nat} {n : Int} {x : Blk} {F : Nat -> Prop} {S : List Blk} {L : List (Int × Blk)} {g : Bool} (h : D.Dv w F q S L g) (hL : L.length < 1000000) (hq : w.heap[a]? = some (.cells #[.pointer (some ⟨q, 0, none⟩)] 83)) (hn : w.heap[b]? = some (.cells #[.int .i64 n] 3)) (hx : w.heap[c]? = some (.cells (cel x).toArray 44)) :
  Calls prog 113 #[.pointer (some ⟨a, 0, none⟩), .pointer (some ⟨b, 0, none⟩), .pointer (some ⟨c, 0, none⟩)] w fun e w' => e = .returned (.int .i64 (dN S g n)) /\ ∃ F', D.Dv w' F' q S (wrL S L g n x) g /\ Only F w w' /\ Grow w F F' := by
 obtain ⟨c1, f1⟩ := one_cell hq;obtain ⟨c2, f2⟩ := one_cell hn;have HR := ae (rH hx);have HD := ae (D.write n x hL h);clear h hq hn hx;go_enter func113, ntmps113;go_wp2_with (first | (refine az rfl (bI rfl rfl HR) ?_) | fail);refine HD.out.mono ?_;rintro e w4 ⟨rfl, F', g1, g2, g3⟩;go_wp2_with fail;go_ret;exact ⟨rfl, F', g1, g2, g3⟩
theorem tp (d n : Int) (x : Blk) (h : bV (cy D) w p v Fs ps M) (h0 : gG M d ≠ 0) :
  Calls prog 76 #[.pointer (some ⟨p, 0, none⟩), .int .i64 d, .int .i64 n, blk x] w fun e w' => e = .returned (.int .i64 (gG M d)) /\ Below w.heap.size w w' := by
 have hA : Below w.heap.size w ((w.alloc (.cells #[.int .i64 n] 3)).alloc (.cells (cel x).toArray 44)) := ((Below.refl _ w).alloc aj _).alloc (by rw [World.size_alloc]; omega) _;have HO := ae (pe (h.below hA) h0);have HF := ae (mU w n x none).1;clear h hA;rcases fM M d with ⟨e, _⟩ | ⟨e, _⟩ | ⟨e, _⟩
 rotate_right 1
 ·exact absurd e h0
 all_goals
  rw [e] at HO ⊢;clear e h0;go_enter func76, ntmps76;go_wp2_with (first | (refine az rfl (cY rfl rfl) ?_) | fail);refine HO.out.mono ?_;rintro e w1 ⟨rfl, rfl⟩;go_wp2_with fail;go_ret;exact ⟨rfl, HF⟩
end
section
variable {D : Dev} {w w' : World} {p : Nat} {v : Value} {Fs : Nat -> Nat -> Prop} {ps : List Nat} {M : aV}
theorem tK (n : Int) (x : Blk) (h : bV (cy D) w p v Fs ps M) {k : Nat} (hdk : M.cq = false) (hk : k < M.ds.length) (he : dN (M.ds.getD k bF).S (M.ds.getD k bF).g n ≠ 0) :
  Calls prog 76 #[.pointer (some ⟨p, 0, none⟩), .int .i64 k, .int .i64 n, blk x] w fun e w' => e = .returned (.int .i64 (dN (M.ds.getD k bF).S (M.ds.getD k bF).g n)) /\ Below w.heap.size w w' := by
 obtain ⟨y, hy⟩ : ∃ y, M.ds.getD k bF = y := ⟨_, rfl⟩;obtain ⟨q, hq⟩ : ∃ q, ps.getD k 0 = q := ⟨_, rfl⟩;have hA : Below w.heap.size w ((w.alloc (.cells #[.int .i64 n] 3)).alloc (.cells (cel x).toArray 44)) := ((Below.refl _ w).alloc aj _).alloc (by rw [World.size_alloc]; omega) _;have HO := ae (ki (h.below hA) hdk hk);obtain ⟨hB, k0, k1, k2, hsz⟩ := mU w n x (some ⟨q, 0, none⟩);have hat := (h.below hB).devs.at_ k hk;rw [hy, hq] at hat
 rw [hy] at he ⊢;rw [hq] at HO;have HD := ae (D.sure n hat);have HB := ae hB;obtain ⟨c0, f0⟩ := one_cell k0;obtain ⟨c2, f2⟩ := one_cell k2;rcases iL (S := y.S) (g := y.g) (n := n) with e | e | ⟨e, _⟩
 rotate_right 1
 ·exact absurd e he
 all_goals
  rw [e] at HD ⊢;clear e he h hA hB k0 k1 k2 hat hy hq hdk;go_enter func76, ntmps76;unfold wr3 at *;go_wp2_with (first | (refine az rfl (cY rfl rfl) ?_) | fail);refine HO.out.mono ?_;rintro e w1 ⟨rfl, rfl⟩;go_wp2_with fail;refine HD.out.mono ?_;rintro e w2 ⟨rfl, hb⟩;have HBB := ae (HB.out.trans (hb.mono (by rw [hsz]; omega)));clear hb;go_wp2_with (first | (refine az rfl (bU rfl) ?_) | (refine bN rfl (mC rfl rfl rfl) ?_) | fail);go_ret;exact ⟨rfl, HBB.out.alloc HBB.out.size _⟩
theorem vQ (n : Int) (x : Blk) (h : bV (cy D) w p v Fs ps M) {k : Nat} (hdk : M.cq = false) (hk : k < M.ds.length) (he : dN (M.ds.getD k bF).S (M.ds.getD k bF).g n = 0) (hs : M.steps < 1000000) (hll : M.left < 9223372036854775808) (hL : (M.ds.getD k bF).L.length < 1000000) :
  Calls prog 76 #[.pointer (some ⟨p, 0, none⟩), .int .i64 k, .int .i64 n, blk x] w fun e w' => e = .returned (.int .i64 M.fo) /\ Left (cy D) w p v Fs ps M.ds.length (dW M (k : Int) n x) w' := by
 obtain ⟨y, hy⟩ : ∃ y, M.ds.getD k bF = y := ⟨_, rfl⟩;obtain ⟨q, hq⟩ : ∃ q, ps.getD k 0 = q := ⟨_, rfl⟩;have hA : Below w.heap.size w ((w.alloc (.cells #[.int .i64 n] 3)).alloc (.cells (cel x).toArray 44)) := ((Below.refl _ w).alloc aj _).alloc (by rw [World.size_alloc]; omega) _;have HO := ae (ki (h.below hA) hdk hk);obtain ⟨hB, k0, k1, k2, hsz⟩ := mU w n x (some ⟨q, 0, none⟩);have hat := (h.below hB).devs.at_ k hk;have hr0 : dr M (k : Int) n = 0 := by unfold dr; rw [if_pos (lZ hdk hk), M.oe]; exact he
 rw [hy, hq] at hat
 rw [hy] at he hL;rw [hq] at HO;have HD := ae (D.sure n hat);have HB := ae hB;have HH := ae h;have HK0 := ae k0;have HK1 := ae k1;have HK2 := ae k2;have HE := ae he;have HSS := ae hs;have HLL := ae hll;have HL := ae hL;have HY := ae hy;have HQ := ae hq;have HR := ae hr0;obtain ⟨c0, f0⟩ := one_cell k0;obtain ⟨c2, f2⟩ := one_cell k2;rw [he] at HD;by_cases h1 : M.left = 1
 all_goals
  have H1 := ae h1;clear h1 he h hA hB k0 k1 k2 hat hy hq hdk hs hll hL hr0;go_enter func76, ntmps76;unfold wr3 at *;go_wp2_with (first | (refine az rfl (cY rfl rfl) ?_) | fail);refine HO.out.mono ?_;rintro e w1 ⟨rfl, rfl⟩;go_wp2_with fail;refine HD.out.mono ?_;rintro e w2 ⟨rfl, hb⟩;have hb2 := HB.out.trans (hb.mono (by rw [hsz]; omega));have HBB := ae (hb2.alloc hb2.size (.cells (cel (iI y.S y.g n)).toArray 44));have HA0 := ae (bu (aC HK0 hb) (.cells (cel (iI y.S y.g n)).toArray 44));have HA1 := ae (bu (aC HK1 hb) (.cells (cel (iI y.S y.g n)).toArray 44));have HA2 := ae (bu (aC HK2 hb) (.cells (cel (iI y.S y.g n)).toArray 44));clear hb hb2 c0 c2 f0 f2 hsz;generalize iI y.S y.g n = z at *;go_wp2_with (first | (refine az rfl (bU rfl) ?_) | (refine bN rfl (mC rfl rfl rfl) ?_) | fail);generalize w2.alloc (.cells (cel z).toArray 44) = w3 at *
 ·refine (oD _ (HH.out.below HBB) H1).mono ?_;rintro e w4 ⟨rfl, h4, ho4⟩;go_wp2_with fail;go_ret;refine ⟨dv (by unfold aV.fo; rw [if_pos H1.out]), ?_⟩;rw [show dW M (k : Int) n x = M.night from by unfold dW; rw [if_pos HR.out, if_pos H1.out]];exact Left.above HBB (Left.obj h4 ho4 rfl)
 ·refine (qQ 113 #[] _ (HH.out.below HBB) H1 HSS HLL call113 (fun z w4 => z = 0 /\ Left (cy D) w3 p v Fs ps M.ds.length (dW M (k : Int) n x) w4) ?_).mono ?_
  ·intro w4 h4 ho4;have hat4 := h4.devs.at_ k hk;rw [show M.done.ds.getD k bF = y from HY.out, HQ.out] at hat4;have hne : ∀ j, j < 3 -> w.heap.size + j ≠ p := fun j _ e => by have := aU HH.out.at_; omega
   refine (ajG hat4 HL (ho4.keep HA2 (hne 2 (by omega))) (ho4.keep HA0 (hne 0 (by omega))) (ho4.keep HA1 (hne 1 (by omega)))).mono ?_;rintro e w5 ⟨he5, F', g1, g2, g3⟩;refine ⟨_, he5, HE, Left.behind ho4 (Left.turn h4 hk g2 g3 (d := ⟨y.S, wrL y.S y.L y.g n x, y.g⟩) (show D.Dv _ _ _ _ _ _ by rw [HQ.out]; exact g1) ?_)⟩;unfold dW;rw [if_pos HR.out, if_neg H1.out, show M.dev (k : Int) = y from HY.out]
   rfl
  ·rintro e w5 ⟨z, rfl, rfl, hl5⟩;have HL5 := ae (Left.above HBB hl5);clear hl5;go_wp2_with fail;go_ret;exact ⟨dv (by unfold aV.fo; rw [if_neg H1.out]), HL5⟩
theorem afb (d n : Int) (x : Blk) (h : bV (cy D) w p v Fs ps M) (hr : ∀ i, i < M.ds.length -> (M.ds.getD i bF).L.length < 1000000) (hs : M.steps < 1000000) (hll : M.left < 9223372036854775808) :
  Calls prog 76 #[.pointer (some ⟨p, 0, none⟩), .int .i64 d, .int .i64 n, blk x] w fun e w' => e = .returned (.int .i64 (eG M d n)) /\ Left (cy D) w p v Fs ps M.ds.length (dW M d n x) w' := by
 by_cases h0 : gG M d = 0
 ·rcases fM M d with ⟨e, _⟩ | ⟨e, _⟩ | ⟨e, hdk, k, rfl, hk⟩
  ·omega
  ·omega
  have hr0 : dr M (k : Int) n = dN (M.ds.getD k bF).S (M.ds.getD k bF).g n := by unfold dr; rw [if_pos e, M.oe]
  by_cases he : dN (M.ds.getD k bF).S (M.ds.getD k bF).g n = 0
  ·refine (vQ n x h hdk hk he hs hll (hr k hk)).mono ?_;rintro e w' ⟨rfl, hl⟩;exact ⟨by unfold eG; rw [hr0, if_pos he], hl⟩
  ·refine (tK n x h hdk hk he).mono ?_;rintro e w' ⟨rfl, hb⟩;exact ⟨by unfold eG; rw [hr0, if_neg he], Left.ab8 h hb (by unfold dW; rw [hr0, if_neg he])⟩
 ·refine (tp d n x h h0).mono ?_;rintro e w' ⟨rfl, hb⟩;have hr0 : dr M d n = gG M d := by unfold dr; rw [if_neg h0]
  exact ⟨by unfold eG; rw [hr0, if_neg h0], Left.ab8 h hb (by unfold dW; rw [hr0, if_neg h0])⟩
end
section
variable {D : Dev} {w w' : World}
theorem ajb {A : Option Addr} {n c : Nat} {ks : List Int} (hl : RdE bP w w.heap.size A n ks) (hnc : n <= c) (hc : c <= maxLen) :
  Calls prog 14 #[.slice A n c] w (fv (cy D) w ks) := by
 have hlen : ks.length = n := hl.1;unfold maxLen at hc;by_cases h1 : n < 1
 ·have HN := ae (show ¬ jh ks from fun h => by have := h.1; omega);have h0 : n = 0 := by omega
  subst h0;clear hl hlen h1;go_enter func14, ntmps14;go_wp2;go_ret2;exact fv.no ak HN rfl
 by_cases h2 : 17 < n
 ·have HN := ae (show ¬ jh ks from fun h => by have := h.2.1; omega);have h1' : ¬((n : Int) < 1) := by omega
  have h2' : ((n : Int) > 17) := by omega
  clear hl hlen h1 h2;go_enter func14, ntmps14;go_wp2;go_ret2;exact fv.no ak HN rfl
 have h1' : ¬((n : Int) < 1) := by omega
 have h2' : ¬((n : Int) > 17) := by omega
 have h3' : ¬(17 < (n : Int)) := by omega
 have HL := ae hl;have HLEN := ae hlen;have HMK := ae (show Making (cy D) w (w.alloc (.cells #[.slice none 0 0, .int .i64 0, .int .i64 0, .bool false] 95)) (.slice none 0 0) (fun _ _ => False) [] [] 0 false 0 from
  ⟨heap_alloc_new w _, aN.nil _ _, ⟨rfl, fun i hi => absurd hi (Nat.not_lt_zero i), fun i j hi => absurd hi (Nat.not_lt_zero i)⟩, fun i hi => absurd hi (Nat.not_lt_zero i), (Below.refl _ w).alloc aj _⟩)
 clear hl hlen;go_enter func14, ntmps14;go_wp2_with fail;generalize w.alloc (.cells #[.slice none 0 0, .int .i64 0, .int .i64 0, .bool false] 95) = w0 at *;clear h1' h2' h3'
 go_loopw [21] (fun i wr => ∃ (j : Nat) (v : Value) (Fs : Nat -> Nat -> Prop) (ps : List Nat), j <= n /\ i = .int .i64 j /\ Making (cy D) w wr v Fs ps ((ks.take j).map ou) 0 false 0 /\ ∀ q, q < j -> 1 <= ks.getD q 0 /\ ks.getD q 0 <= 512) (fun i _ => n - (intOf i).toNat)
 case atStart => exact ⟨0, _, _, _, Nat.zero_le _, rfl, HMK, fun q hq => absurd hq (Nat.not_lt_zero q)⟩
 case round =>
  obtain ⟨j, v, Fs, ps, hj, rfl, hmk, hall⟩ := hrel;have HALL := ae hall;clear hall HMK;by_cases hlt : j < n
  ·have hlj : (j : Int) < (n : Int) := by omega
   obtain ⟨bA, oA, rfl, hbA, hcA⟩ := (HL.out.below hmk.below).int hlt;have HM := ae hmk;obtain ⟨AS, cS, rfl, hs1, hs2⟩ := hmk.row.form;unfold maxLen at hs2;have hpl : ps.length = j := by have := hmk.devs.len; rw [List.length_map, List.length_take] at this; have := HLEN.out; omega
   have HPL := ae hpl;obtain ⟨z, hz⟩ : ∃ z, ks.getD j 0 = z := ⟨_, rfl⟩;rw [hz] at hcA;have HZ := ae hz;clear hmk hz hpl;by_cases hok : 1 <= z /\ z <= 512
   ·obtain ⟨k, rfl⟩ : ∃ k : Nat, z = k := ⟨z.toNat, by omega⟩;have hk1 : 1 <= k := by omega
    have hk2 : k <= 512 := by omega
    clear hok;go_wp2_with fail;refine (D.new_ok k wr hk1 hk2).mono ?_;rintro e w1 ⟨p', F', rfl, hd1, hb1, hF1⟩;have hat1 := aC HM.out.at_ hb1;obtain ⟨c0, c1, c2, c3⟩ := et hat1;have hrow1 := HM.out.row.below hb1;have hrow2 := hrow1.below ((Below.refl _ w1).alloc aj (.cells ((cy D).E.cel p').toArray (cy D).E.t));have HR := ae hrow2;have HNEW := ae (fS (E := (cy D).E) (l := [p']) w1 ((cy D).E.cel p').toArray (cy D).E.t (by rw [eL]; simp [cE]));have HSZ := ae (show w.heap.size <= (w1.alloc (.cells ((cy D).E.cel p').toArray (cy D).E.t)).heap.size by rw [World.size_alloc]; have := HM.out.below.size; have := hb1.size; omega);have HD1 := ae hd1;have HB1 := ae hb1;have HF1 := ae hF1;have HAT := ae hat1;have HPS := ae (show ps.length + 1 <= 34359738368 by have := HPL.out; omega);clear hd1 hb1 hF1 hat1 hrow1 hrow2;have hal : w.heap.size < w1.heap.size := aU HAT;go_wp2_with (first | (refine az rfl (eA (E := (cy D).E) (a := p') rfl rfl rfl (by decide)) ?_) | (at_builtin; refine jR (cy D).E rfl _ _ rfl w.heap.size _ _ _ _ ps [p'] _ rfl rfl HR HNEW HSZ HPS ?_) | fail);intro v' w3 hm3 hg3 ho3;have hxv : v'.ownBlock ≠ some w.heap.size := fun e => by
     rcases ho3 _ e with e' | e'
     ·exact HM.out.row.eU HM.out.at_ (cy D).ne e'
     ·omega
    have HNX := ae (HM.out.next (fun _ _ => rfl) HB1 HF1 (d := ou k) HD1 hm3 hg3 ho3);have hvx : (Value.slice AS ps.length cS).ownBlock ≠ some w.heap.size := HM.out.row.eU HM.out.at_ (cy D).ne;have hat3 : w3.heap[w.heap.size]? = some _ := (hg3.block w.heap.size (by rw [World.size_alloc]; omega) (fun e => hvx e.symm)).trans (bu HAT _);obtain ⟨AV, cV, rfl, _, _⟩ := hm3.form;obtain ⟨d0, d1, d2, d3⟩ := et hat3;have f0 := frozen_of_row w3 w.heap.size 0 _ _ hat3;clear hm3 hg3 ho3 hat3 c0 c1 c2 c3;go_wp2_with fail;go_roundw
    case rel =>
     refine ⟨j + 1, .slice AV (ps.length + 1) cV, upF Fs (List.map ou (List.take j ks)).length F', ps ++ [p'], by omega, by go_num, ?_, fun q hq => ?_⟩
     ·rw [kX (by have := HLEN.out; omega), HZ.out];have h6 := HNX.out;rw [show (ps ++ [p']).length = ps.length + 1 from by simp] at h6;exact h6
     ·by_cases e : q = j
      ·subst e; rw [HZ.out]; omega
      ·exact HALL.out q (by omega)
    case measure => simp [intOf]; omega
   ·have HB := ae HM.out.below;have HN := ae (show ¬ jh ks from fun h => hok (by have := h.2.2 z (by rw [<- HZ.out]; exact jo (by have := HLEN.out; omega)); exact this));go_wp2_with fail;refine (D.new_no z wr hok).mono ?_;rintro e w1 ⟨rfl, hb1⟩;have HB1 := ae (HB.out.trans (hb1.mono HB.out.size));clear hb1 hok;go_wp2_with fail;go_ret2;exact fv.no HB1 HN rfl
  ·have hjn : j = n := by omega
   subst hjn;have hlj : ¬((j : Int) < (j : Int)) := by omega
   have HM := ae hmk;clear hmk;go_wp2_with fail;go_ret2;have h5 := HM.out;have hLL := HLEN.out;rw [<- hLL, List.take_length] at h5;obtain ⟨g1, g2, g3⟩ := h5.done (by rw [List.length_map]; omega) (by rw [List.length_map]; omega);refine ⟨g3, .inl ⟨⟨by omega, by omega, fun k hk => ?_⟩, _, _, _, _, rfl, g1, g2⟩⟩;obtain ⟨i, hi, rfl⟩ := List.getElem_of_mem hk;have := HALL.out i (by omega);rwa [List.getD_eq_getElem?_getD, List.getElem?_eq_getElem hi] at this
end
structure aik where
 read : FuncId
 write : FuncId
 flush : FuncId
 fail : FuncId
 sure : FuncId
 devices : FuncId
 fR : FuncId
 cq : FuncId
structure aV.Wf (M : aV) : Prop where
 one : 1 <= M.ds.length
 cap : M.ds.length <= 17
 len : ∀ i, i < M.ds.length -> 1 <= (M.ds.getD i bF).S.length /\ (M.ds.getD i bF).S.length <= 512
structure Ben (I : aik) where
 Bn : World -> (Nat -> Prop) -> Nat -> aV -> Prop
 lt : ∀ {w F p M}, Bn w F p M -> ∀ b, F b -> b < w.heap.size
 only : ∀ {w w' F G p M}, Bn w F p M -> Only G w w' -> (∀ b, F b -> ¬ G b) -> Bn w' F p M
 wf : ∀ {w F p M}, Bn w F p M -> M.Wf
 read : ∀ {w F p M} (d n : Int), Bn w F p M -> Calls prog I.read #[.pointer (some ⟨p, 0, none⟩), .int .i64 d, .int .i64 n] w fun e w' => e = .returned (.tuple #[blk (gF M d n), .int .i64 (dr M d n)]) /\ Below w.heap.size w w'
 sure : ∀ {w F p M} (d n : Int), Bn w F p M -> Calls prog I.sure #[.pointer (some ⟨p, 0, none⟩), .int .i64 d, .int .i64 n] w fun e w' => e = .returned (.tuple #[blk (qD M d n), .int .i64 (qE M d n)]) /\ Below w.heap.size w w'
 write : ∀ {w F p M} (d n : Int) (b : Blk), Room M 1 -> Bn w F p M -> Calls prog I.write #[.pointer (some ⟨p, 0, none⟩), .int .i64 d, .int .i64 n, blk b] w fun e w' => e = .returned (.int .i64 (eG M d n)) /\ ∃ F', Bn w' F' p (dW M d n b) /\ Only F w w' /\ Grow w F F'
 flush : ∀ {w F p M} (d : Int), Room M 1 -> Bn w F p M -> Calls prog I.flush #[.pointer (some ⟨p, 0, none⟩), .int .i64 d] w fun e w' => e = .returned (.int .i64 (eI M d)) /\ ∃ F', Bn w' F' p (fL M d) /\ Only F w w' /\ Grow w F F'
 fail : ∀ {w F p M} (d : Int), Bn w F p M -> Calls prog I.fail #[.pointer (some ⟨p, 0, none⟩), .int .i64 d] w fun e w' => e = .returned (.int .i64 (l6 M d)) /\ ∃ F', Bn w' F' p (js M d) /\ Only F w w' /\ Grow w F F'
 devices : ∀ {w F p M}, Bn w F p M -> Calls prog I.devices #[.pointer (some ⟨p, 0, none⟩)] w fun e w' => e = .returned (.int .i64 (M.ds.length : Int)) /\ Below w.heap.size w w'
 fR : ∀ {w F p M} (d : Int), Bn w F p M -> Calls prog I.fR #[.pointer (some ⟨p, 0, none⟩), .int .i64 d] w fun e w' => e = .returned (.int .i64 (io M d)) /\ Below w.heap.size w w'
 cq : ∀ {w F p M}, Bn w F p M -> Calls prog I.cq #[.pointer (some ⟨p, 0, none⟩)] w fun e w' => e = .returned (.bool M.cq) /\ Below w.heap.size w w'
theorem Ben.below {I : aik} (R : Ben I) {w w' : World} {F : Nat -> Prop} {p : Nat} {M : aV} (h : R.Bn w F p M) (k : Below w.heap.size w w') : R.Bn w' F p M := R.only h (Only.of_below (fun _ => False) k) fun _ _ e => e
section
variable {k : iv} {w w' : World} {F G : Nat -> Prop} {p : Nat} {M M' : aV}
def aid (Bn : World -> (Nat -> Prop) -> Nat -> aV -> Prop) (w : World) (ks : List Int) (e : Ending) (w' : World) : Prop :=
 Below w.heap.size w w' /\ ((jh ks /\ ∃ p F, e = .returned (.tuple #[.pointer (some ⟨p, 0, none⟩), .int .i64 0]) /\ Bn w' F p (fg ks) /\ ∀ b, F b -> w.heap.size <= b) \/ (¬ jh ks /\ e = .returned (.tuple #[.pointer none, .int .i64 2])))
def InB (k : iv) (w : World) (F : Nat -> Prop) (p : Nat) (M : aV) : Prop := ∃ v Fs ps, F = iE p v Fs M.ds.length /\ bV k w p v Fs ps M
theorem InB.lt (h : InB k w F p M) : ∀ b, F b -> b < w.heap.size := by
 obtain ⟨v, Fs, ps, rfl, h⟩ := h;exact h.lt
theorem InB.only (h : InB k w F p M) (ho : Only G w w') (hn : ∀ b, F b -> ¬ G b) : InB k w' F p M := by
 obtain ⟨v, Fs, ps, rfl, h⟩ := h;exact ⟨v, Fs, ps, rfl, h.only ho hn⟩
theorem Left.out {v : Value} {Fs : Nat -> Nat -> Prop} {ps : List Nat} (h : Left k w p v Fs ps M.ds.length M' w') : ∃ F', InB k w' F' p M' /\ Only (iE p v Fs M.ds.length) w w' /\ Grow w (iE p v Fs M.ds.length) F' := by
 obtain ⟨Fs', ps', h1, h2, h3⟩ := h;exact ⟨_, ⟨v, Fs', ps', rfl, h1⟩, h2, h3⟩
end
def ajl : aik where
 read := 141
 write := 76
 flush := 72
 fail := 9
 sure := 12
 devices := 41
 fR := 81
 cq := 137
theorem Dev.ajm {D : Dev} {w : World} {p : Nat} {v : Value} {Fs : Nat -> Nat -> Prop} {ps : List Nat} {M : aV} (h : bV (cy D) w p v Fs ps M) : M.Wf :=
 ⟨h.one, h.cap, fun i hi => ⟨(D.fit (h.devs.at_ i hi)).2, D.cap (h.devs.at_ i hi)⟩⟩
def ajQ (D : Dev) : Ben ajl where
 Bn := InB (cy D)
 lt := InB.lt
 only := InB.only
 wf := fun ⟨_, _, _, _, h⟩ => D.ajm h
 read := fun d n ⟨_, _, _, _, h⟩ => aig d n h
 sure := fun d n ⟨_, _, _, _, h⟩ => agW d n h
 write := fun d n b hr ⟨_, _, _, e, h⟩ => by
  subst e;exact (afb d n b h (fun i hi => hr.at_ hi) (by have := hr.1; omega) hr.2.1).mono fun e w' ⟨h1, h2⟩ => ⟨h1, h2.out⟩
 flush := fun d hr ⟨_, _, _, e, h⟩ => by
  subst e;exact (afN d h (by have := hr.1; omega) hr.2.1).mono fun e w' ⟨h1, h2⟩ => ⟨h1, h2.out⟩
 fail := fun d ⟨_, _, _, e, h⟩ => by
  subst e;exact (ag6 d h).mono fun e w' ⟨h1, h2⟩ => ⟨h1, h2.out⟩
 devices := fun ⟨_, _, _, _, h⟩ => (qT h).mono fun e w' ⟨h1, h2⟩ => ⟨h1, gw h2⟩
 fR := fun d ⟨_, _, _, _, h⟩ => aar d h
 cq := fun ⟨_, _, _, _, h⟩ => (xe h).mono fun e w' ⟨h1, h2⟩ => ⟨h1, gw h2⟩
theorem fv.hid {k : iv} {w w' : World} {ks : List Int} {e : Ending} (h : fv k w ks e w') : aid (InB k) w ks e w' := by
 obtain ⟨h1, h | h⟩ := h
 ·obtain ⟨h0, p, v, Fs, ps, h2, h3, h4⟩ := h;exact ⟨h1, .inl ⟨h0, p, _, h2, ⟨v, Fs, ps, rfl, h3⟩, h4⟩⟩
 ·exact ⟨h1, .inr h⟩
structure ajq extends Ben ajl where
 new : ∀ {w A n c ks}, RdE bP w w.heap.size A n ks -> n <= c -> c <= maxLen -> Calls prog 14 #[.slice A n c] w (aid Bn w ks)
def bw : ajq where
 toBen := ajQ aim
 new := fun h1 h2 h3 => (ajb h1 h2 h3).mono fun _ _ h => h.hid
section
variable {ρ : Operand -> Value} {o : Oper} {x y : Operand} {w : World} {a : Int}
theorem zF {t r : TypeId} {b c : Int} (ho : o.op = .binOp .rem t x y r) (hx : ρ x = .int .u8 a) (hy : ρ y = .int .u8 b) (h0 : b ≠ 0) (h : a.tmod b = c) : (execOp ρ o).run prog w = .ok (.value (.int .u8 c)) w := by
 unfold execOp;simp [ho, hx, hy, eqGuard, binOp, Op.intDiv, h, h0]
theorem afp (h : IntKind.i64.wrap a = a) : (convert 5 3 (.int .u8 a)).run prog w = .ok (.int .i64 a) w := by
 simp [convert, go_sem, h]
theorem px (ho : o.op = .convert 5 3 x) (hx : ρ x = .int .u8 a) (h : IntKind.i64.wrap a = a) : (execOp ρ o).run prog w = .ok (.value (.int .i64 a)) w := by
 unfold execOp;simp only [ho, hx, Sem.run_bind, afp h, Result.andThen_ok, Sem.run_pure]
end
theorem el {a : Int} (h : -9223372036854775808 <= a /\ a <= 9223372036854775807) : IntKind.i64.wrap a = a := IntWalk.i64_in _ ⟨by omega, by omega⟩
def akb : Elt (Int × Blk) := acL 141 261 underlying141 (by kernel_rfl)
structure vR (w : World) (p : Nat) (vS vL : Value) (S : List Blk) (L : List (Int × Blk)) (g : Bool) : Prop where
 at_ : w.heap[p]? = some (.cells #[vS, vL, .bool g] 143)
 S_ : aN oU w 0 vS S
 L_ : aN akb w 0 vL L
section
variable {w w' : World} {p : Nat} {vS vL : Value} {S : List Blk} {L : List (Int × Blk)} {g : Bool} {F : Nat -> Prop}
theorem vR.lt (h : vR w p vS vL S L g) : ∀ k, foot p vS vL k -> k < w.heap.size := by
 intro k hk;rcases hk with rfl | hk | hk
 ·exact (Array.getElem?_eq_some_iff.1 h.at_).1
 ·exact h.S_.ju k hk
 ·exact h.L_.ju k hk
theorem vR.only (h : vR w p vS vL S L g) (k : Only F w w') (hn : ∀ b, foot p vS vL b -> ¬ F b) : vR w' p vS vL S L g :=
 ⟨k.keep h.at_ (hn p (.inl rfl)), h.S_.only k fun b hb => hn b (.inr (.inl hb)), h.L_.only k fun b hb => hn b (.inr (.inr hb))⟩
end
theorem adO (k : Nat) (w : World) (h1 : 1 <= k) (h2 : k <= 512) :
  Calls prog 39 #[.int .i64 k] w fun e w' => ∃ p vS, e = .returned (.tuple #[.pointer (some ⟨p, 0, none⟩), .int .i64 0]) /\ vR w' p vS (.slice none 0 0) (List.replicate k aJ) [] false /\ Below w.heap.size w w' /\ ∀ b, foot p vS (.slice none 0 0) b -> w.heap.size <= b := by
 go_enter func39, ntmps39;have HM := ae (heap_alloc_new w (.cells (madeCells (cel aJ).toArray (k * 64)) 44));have HB := ae ((Below.refl w.heap.size w).alloc aj (.cells (madeCells (cel aJ).toArray (k * 64)) 44));have HSZ := ae (World.size_alloc w (.cells (madeCells (cel aJ).toArray (k * 64)) 44));go_wp2_with (first | (refine az rfl (qH (n := k) rfl rfl rfl (by omega)) ?_));generalize w.alloc (.cells (madeCells (cel aJ).toArray (k * 64)) 44) = w1 at *;go_ret2;have hS : aN oU w1 0 (.slice (some ⟨w.heap.size, 0, none⟩) k k) (List.replicate k aJ) := aN.of_block (E := oU) HM (by rw [<- qf]; rfl) (Nat.zero_le _) (by simp) (by unfold maxLen; omega);have hnw := heap_alloc_new w1 (.cells #[.slice (some ⟨w.heap.size, 0, none⟩) k k, .slice none 0 0, .bool false] 143);rw [HSZ.out] at hnw;refine ⟨w.heap.size + 1, _, rfl, ⟨hnw, hS.below (ak.alloc aj _), aN.nil _ _⟩, HB.out.alloc HB.out.size _, fun b hb => ?_⟩;rcases hb with rfl | hb | hb
 ·omega
 ·simp [Value.ownBlock] at hb; omega
 ·simp [Value.ownBlock] at hb
theorem abX (n : Int) (w : World) (h : ¬(1 <= n /\ n <= 512)) :
  Calls prog 39 #[.int .i64 n] w fun e w' => e = .returned (.tuple #[.pointer none, .int .i64 2]) /\ w = w' := by
 have hor : n < 1 \/ (1 <= n /\ 512 < n) := by omega
 clear h;rcases hor with h | ⟨h, h'⟩
 all_goals
  go_enter func39, ntmps39;go_wp2;go_ret2;exact ⟨rfl, rfl⟩
def Rv (w : World) (F : Nat -> Prop) (p : Nat) (S : List Blk) (L : List (Int × Blk)) (g : Bool) : Prop := ∃ vS vL, F = foot p vS vL /\ vR w p vS vL S L g /\ Fit S L
section
variable {w w' : World} {F G : Nat -> Prop} {p : Nat} {S : List Blk} {L : List (Int × Blk)} {g : Bool}
theorem Rv.lt (h : Rv w F p S L g) : ∀ b, F b -> b < w.heap.size := by
 obtain ⟨vS, vL, rfl, h, _⟩ := h;exact h.lt
theorem Rv.only (h : Rv w F p S L g) (k : Only G w w') (hn : ∀ b, F b -> ¬ G b) : Rv w' F p S L g := by
 obtain ⟨vS, vL, rfl, h, hF⟩ := h;exact ⟨vS, vL, rfl, h.only k hn, hF⟩
end
section
variable {w : World} {F : Nat -> Prop} {p : Nat} {S : List Blk} {L : List (Int × Blk)} {g : Bool}
theorem ag2 (k : Nat) (w : World) (h1 : 1 <= k) (h2 : k <= 512) : Calls prog 39 #[.int .i64 k] w fun e w' => ∃ p F, e = .returned (.tuple #[.pointer (some ⟨p, 0, none⟩), .int .i64 0]) /\ Rv w' F p (List.replicate k aJ) [] false /\ Below w.heap.size w w' /\ ∀ b, F b -> w.heap.size <= b := by
 refine (adO k w h1 h2).mono ?_;rintro e w' ⟨p, vS, he, hr, hb, hf⟩;exact ⟨p, _, he, ⟨vS, _, rfl, hr, Fit.nil _⟩, hb, hf⟩
end
def fF : iv where
 K := ⟨Rv, Rv.lt, Rv.only⟩
 s := 96
 t := 99
 und := underlying96
 info := by kernel_rfl
 o := 98
 cs := fun v left cq steps => #[v, .int .i64 left, .bool cq, .int .i64 steps]
 ne := by decide
theorem sh {w : World} {b : Nat} {t : TypeId} {x y z u : Value} (h : w.heap[b]? = some (.cells #[x, y, z, u] t (0, 0))) : w.cell? ⟨b, 0, none⟩ = some x /\ w.cell? ⟨b, 1, none⟩ = some y /\ w.cell? ⟨b, 2, none⟩ = some z /\ w.cell? ⟨b, 3, none⟩ = some u := by
 refine ⟨?_, ?_, ?_, ?_⟩
 ·rw [cell_of_row w b 0 _ t (0, 0) h]; rfl
 ·rw [cell_of_row w b 1 _ t (0, 0) h]; rfl
 ·rw [cell_of_row w b 2 _ t (0, 0) h]; rfl
 ·rw [cell_of_row w b 3 _ t (0, 0) h]; rfl
theorem abF {w : World} {F : Nat -> Prop} {p : Nat} {S : List Blk} {L : List (Int × Blk)} {g : Bool} (h : Rv w F p S L g) : ∃ A c, w.cell? ⟨p, 0, none⟩ = some (.slice A S.length c) /\ w.cell? ⟨p, 2, none⟩ = some (.bool g) := by
 obtain ⟨vS, vL, rfl, h, _⟩ := h;obtain ⟨c0, c1, c2⟩ := cells3 h.at_;obtain ⟨A, c, rfl, _, _⟩ := h.S_.form;exact ⟨A, c, c0, c2⟩
section
variable {w w' : World} {p : Nat} {v : Value} {Fs : Nat -> Nat -> Prop} {ps : List Nat} {M : aV}
theorem bV.sQ (h : bV fF w p v Fs ps M) : w.cell? ⟨p, 0, none⟩ = some v /\ w.cell? ⟨p, 1, none⟩ = some (.int .i64 M.left) /\ w.cell? ⟨p, 2, none⟩ = some (.bool M.cq) /\ w.cell? ⟨p, 3, none⟩ = some (.int .i64 M.steps) := sh h.at_
theorem aaG (h : bV fF w p v Fs ps M) :
  Calls prog 45 #[.pointer (some ⟨p, 0, none⟩)] w fun e w' => e = .returned (.int .i64 (M.ds.length : Int)) /\ w = w' := by
 obtain ⟨g, c, rfl, _, _⟩ := h.slice;obtain ⟨c0, c1, c2, c3⟩ := h.sQ;go_enter func45, ntmps45;go_wp2;go_ret;exact ⟨rfl, rfl⟩
theorem ab6 (h : bV fF w p v Fs ps M) {d : Int} (hd : ¬(0 <= d /\ d < M.ds.length)) :
  Calls prog 82 #[.pointer (some ⟨p, 0, none⟩), .int .i64 d] w fun e w' => e = .returned (.bool false) /\ w = w' := by
 obtain ⟨g, c, rfl, _, _⟩ := h.slice;obtain ⟨c0, c1, c2, c3⟩ := h.sQ;clear h;by_cases h0 : 0 <= d
 ·have h1 : ¬(d < (M.ds.length : Int)) := by omega
  clear hd;go_enter func82, ntmps82;go_wp2;go_ret;exact ⟨rfl, rfl⟩
 ·clear hd;go_enter func82, ntmps82;go_wp2;go_ret;exact ⟨rfl, rfl⟩
theorem aa5 (h : bV fF w p v Fs ps M) {k : Nat} (hk : k < M.ds.length) :
  Calls prog 82 #[.pointer (some ⟨p, 0, none⟩), .int .i64 k] w fun e w' => e = .returned (.bool true) /\ w = w' := by
 obtain ⟨g, c, rfl, _, _⟩ := h.slice;obtain ⟨c0, c1, c2, c3⟩ := h.sQ;clear h;go_enter func82, ntmps82;go_wp2;go_ret;exact ⟨rfl, rfl⟩
theorem aax (d : Int) (h : bV fF w p v Fs ps M) :
  Calls prog 46 #[.pointer (some ⟨p, 0, none⟩), .int .i64 d] w fun e w' => e = .returned (.int .i64 (io M d)) /\ w = w' := by
 rcases jH M d with ⟨e, ho⟩ | ⟨e, k, rfl, hk⟩
 ·have HS : Hid (io M d = 0) := ae (by unfold io; rw [if_neg (by omega)]);have HO := ae (ab6 h ho);clear e h ho;go_enter func46, ntmps46;go_wp2_with fail;refine HO.out.mono ?_;rintro e w1 ⟨rfl, rfl⟩;go_wp2_with fail;go_ret;exact ⟨dv HS.out.symm, rfl⟩
 ·obtain ⟨x, hx⟩ : ∃ x, M.ds.getD k bF = x := ⟨_, rfl⟩;have hat := h.devs.at_ k hk;rw [hx] at hat
  have HS : Hid (io M (k : Int) = (x.S.length : Int)) := ae (by unfold io; rw [if_pos e, M.oe, hx]);have HO := ae (aa5 h hk);obtain ⟨g, c, rfl, _, _⟩ := h.slice;obtain ⟨c0, c1, c2, c3⟩ := h.sQ;have ck := h.cell hk;obtain ⟨AS, cS, d0, d2⟩ := abF hat
  clear e h hat hx;generalize ps.getD k 0 = q at *;go_enter func46, ntmps46;go_wp2_with fail;refine HO.out.mono ?_;rintro e w1 ⟨rfl, rfl⟩;go_wp2_with fail;go_ret;exact ⟨dv HS.out.symm, rfl⟩
end
section
variable {w w' : World}
theorem aiK {A : Option Addr} {n c : Nat} {ks : List Int} (hl : RdE bP w w.heap.size A n ks) (hnc : n <= c) (hc : c <= maxLen) :
  Calls prog 15 #[.slice A n c] w (fv fF w ks) := by
 have hlen : ks.length = n := hl.1;unfold maxLen at hc;by_cases h1 : n < 1
 ·have HN := ae (show ¬ jh ks from fun h => by have := h.1; omega);have h0 : n = 0 := by omega
  subst h0;clear hl hlen h1;go_enter func15, ntmps15;go_wp2;go_ret2;exact fv.no ak HN rfl
 by_cases h2 : 17 < n
 ·have HN := ae (show ¬ jh ks from fun h => by have := h.2.1; omega);have h1' : ¬((n : Int) < 1) := by omega
  have h2' : ((n : Int) > 17) := by omega
  clear hl hlen h1 h2;go_enter func15, ntmps15;go_wp2;go_ret2;exact fv.no ak HN rfl
 have h1' : ¬((n : Int) < 1) := by omega
 have h2' : ¬((n : Int) > 17) := by omega
 have h3' : ¬(17 < (n : Int)) := by omega
 have HL := ae hl;have HLEN := ae hlen;have HMK := ae (show Making fF w (w.alloc (.cells #[.slice none 0 0, .int .i64 0, .bool false, .int .i64 0] 98)) (.slice none 0 0) (fun _ _ => False) [] [] 0 false 0 from
  ⟨heap_alloc_new w _, aN.nil _ _, ⟨rfl, fun i hi => absurd hi (Nat.not_lt_zero i), fun i j hi => absurd hi (Nat.not_lt_zero i)⟩, fun i hi => absurd hi (Nat.not_lt_zero i), (Below.refl _ w).alloc aj _⟩)
 clear hl hlen;go_enter func15, ntmps15;go_wp2_with fail;generalize w.alloc (.cells #[.slice none 0 0, .int .i64 0, .bool false, .int .i64 0] 98) = w0 at *;clear h1' h2' h3'
 go_loopw [5] (fun i wr => ∃ (j : Nat) (v : Value) (Fs : Nat -> Nat -> Prop) (ps : List Nat), j <= n /\ i = .int .i64 j /\ Making fF w wr v Fs ps ((ks.take j).map ou) 0 false 0 /\ ∀ q, q < j -> 1 <= ks.getD q 0 /\ ks.getD q 0 <= 512) (fun i _ => n - (intOf i).toNat)
 case atStart => exact ⟨0, _, _, _, Nat.zero_le _, rfl, HMK, fun q hq => absurd hq (Nat.not_lt_zero q)⟩
 case round =>
  obtain ⟨j, v, Fs, ps, hj, rfl, hmk, hall⟩ := hrel;have HALL := ae hall;clear hall HMK;by_cases hlt : j < n
  ·have hlj : (j : Int) < (n : Int) := by omega
   obtain ⟨bA, oA, rfl, hbA, hcA⟩ := (HL.out.below hmk.below).int hlt;have HM := ae hmk;obtain ⟨AS, cS, rfl, hs1, hs2⟩ := hmk.row.form;unfold maxLen at hs2;have hpl : ps.length = j := by have := hmk.devs.len; rw [List.length_map, List.length_take] at this; have := HLEN.out; omega
   have HPL := ae hpl;obtain ⟨z, hz⟩ : ∃ z, ks.getD j 0 = z := ⟨_, rfl⟩;rw [hz] at hcA;have HZ := ae hz;clear hmk hz hpl;by_cases hok : 1 <= z /\ z <= 512
   ·obtain ⟨k, rfl⟩ : ∃ k : Nat, z = k := ⟨z.toNat, by omega⟩;have hk1 : 1 <= k := by omega
    have hk2 : k <= 512 := by omega
    clear hok;go_wp2_with fail;refine (ag2 k wr hk1 hk2).mono ?_;rintro e w1 ⟨p', F', rfl, hd1, hb1, hF1⟩;have hat1 := aC HM.out.at_ hb1;obtain ⟨c0, c1, c2, c3⟩ := sh hat1;have hrow1 := HM.out.row.below hb1;have hrow2 := hrow1.below ((Below.refl _ w1).alloc aj (.cells (fF.E.cel p').toArray fF.E.t));have HR := ae hrow2;have HNEW := ae (fS (E := fF.E) (l := [p']) w1 (fF.E.cel p').toArray fF.E.t (by rw [eL]; simp [cE]));have HSZ := ae (show w.heap.size <= (w1.alloc (.cells (fF.E.cel p').toArray fF.E.t)).heap.size by rw [World.size_alloc]; have := HM.out.below.size; have := hb1.size; omega);have HD1 := ae hd1;have HB1 := ae hb1;have HF1 := ae hF1;have HAT := ae hat1;have HPS := ae (show ps.length + 1 <= 34359738368 by have := HPL.out; omega);clear hd1 hb1 hF1 hat1 hrow1 hrow2;have hal : w.heap.size < w1.heap.size := aU HAT;go_wp2_with (first | (refine az rfl (eA (E := fF.E) (a := p') rfl rfl rfl (by decide)) ?_) | (at_builtin; refine jR fF.E rfl _ _ rfl w.heap.size _ _ _ _ ps [p'] _ rfl rfl HR HNEW HSZ HPS ?_) | fail);intro v' w3 hm3 hg3 ho3;have hxv : v'.ownBlock ≠ some w.heap.size := fun e => by
     rcases ho3 _ e with e' | e'
     ·exact HM.out.row.eU HM.out.at_ fF.ne e'
     ·omega
    have HNX := ae (HM.out.next (fun _ _ => rfl) HB1 HF1 (d := ou k) HD1 hm3 hg3 ho3);have hvx : (Value.slice AS ps.length cS).ownBlock ≠ some w.heap.size := HM.out.row.eU HM.out.at_ fF.ne;have hat3 : w3.heap[w.heap.size]? = some _ := (hg3.block w.heap.size (by rw [World.size_alloc]; omega) (fun e => hvx e.symm)).trans (bu HAT _);obtain ⟨AV, cV, rfl, _, _⟩ := hm3.form;obtain ⟨d0, d1, d2, d3⟩ := sh hat3;have f0 := frozen_of_row w3 w.heap.size 0 _ _ hat3;clear hm3 hg3 ho3 hat3 c0 c1 c2 c3;go_wp2_with fail;go_roundw
    case rel =>
     refine ⟨j + 1, .slice AV (ps.length + 1) cV, upF Fs (List.map ou (List.take j ks)).length F', ps ++ [p'], by omega, by go_num, ?_, fun q hq => ?_⟩
     ·rw [kX (by have := HLEN.out; omega), HZ.out];have h6 := HNX.out;rw [show (ps ++ [p']).length = ps.length + 1 from by simp] at h6;exact h6
     ·by_cases e : q = j
      ·subst e; rw [HZ.out]; omega
      ·exact HALL.out q (by omega)
    case measure => simp [intOf]; omega
   ·have HB := ae HM.out.below;have HN := ae (show ¬ jh ks from fun h => hok (by have := h.2.2 z (by rw [<- HZ.out]; exact jo (by have := HLEN.out; omega)); exact this));go_wp2_with fail;refine (abX z wr hok).mono ?_;rintro e w1 ⟨rfl, rfl⟩;have HB1 := ae HB;clear hok;go_wp2_with fail;go_ret2;exact fv.no HB1 HN rfl
  ·have hjn : j = n := by omega
   subst hjn;have hlj : ¬((j : Int) < (j : Int)) := by omega
   have HM := ae hmk;clear hmk;go_wp2_with fail;go_ret2;have h5 := HM.out;have hLL := HLEN.out;rw [<- hLL, List.take_length] at h5;obtain ⟨g1, g2, g3⟩ := h5.done (by rw [List.length_map]; omega) (by rw [List.length_map]; omega);refine ⟨g3, .inl ⟨⟨by omega, by omega, fun k hk => ?_⟩, _, _, _, _, rfl, g1, g2⟩⟩;obtain ⟨i, hi, rfl⟩ := List.getElem_of_mem hk;have := HALL.out i (by omega);rwa [List.getD_eq_getElem?_getD, List.getElem?_eq_getElem hi] at this
end
def RB (w : World) (F : Nat -> Prop) (p : Nat) (M : aV) : Prop := InB fF w F p M /\ M.Wf
theorem aif {ks : List Int} (h : jh ks) : (fg ks).Wf := by
 refine ⟨by rw [jd, List.length_map]; exact h.1, by rw [jd, List.length_map]; exact h.2.1, fun i hi => ?_⟩;rw [jd, List.length_map] at hi;have : ((fg ks).ds.getD i bF) = ou (ks.getD i 0) := by
  rw [jd, List.getD, List.getD, List.getElem?_map, List.getElem?_eq_getElem hi]; rfl
 rw [this];have h2 := h.2.2 _ (jo (x := 0) hi)
 show 1 <= (List.replicate _ _).length /\ (List.replicate _ _).length <= 512
 rw [List.length_replicate];omega
structure agR where
 Bn : World -> (Nat -> Prop) -> Nat -> aV -> Prop
 lt : ∀ {w F p M}, Bn w F p M -> ∀ b, F b -> b < w.heap.size
 only : ∀ {w w' F G p M}, Bn w F p M -> Only G w w' -> (∀ b, F b -> ¬ G b) -> Bn w' F p M
 wf : ∀ {w F p M}, Bn w F p M -> M.Wf
 devices : ∀ {w F p M}, Bn w F p M -> Calls prog 45 #[.pointer (some ⟨p, 0, none⟩)] w fun e w' => e = .returned (.int .i64 (M.ds.length : Int)) /\ Below w.heap.size w w'
 fR : ∀ {w F p M} (d : Int), Bn w F p M -> Calls prog 46 #[.pointer (some ⟨p, 0, none⟩), .int .i64 d] w fun e w' => e = .returned (.int .i64 (io M d)) /\ Below w.heap.size w w'
 new : ∀ {w A n c ks}, RdE bP w w.heap.size A n ks -> n <= c -> c <= maxLen -> Calls prog 15 #[.slice A n c] w (aid Bn w ks)
theorem agR.below (R : agR) {w w' : World} {F : Nat -> Prop} {p : Nat} {M : aV} (h : R.Bn w F p M) (k : Below w.heap.size w w') : R.Bn w' F p M := R.only h (Only.of_below (fun _ => False) k) fun _ _ e => e
def dJ : agR where
 Bn := RB
 lt := fun h => h.1.lt
 only := fun h ho hn => ⟨h.1.only ho hn, h.2⟩
 wf := fun h => h.2
 devices := fun ⟨⟨_, _, _, _, h⟩, _⟩ => (aaG h).mono fun e w' ⟨h1, h2⟩ => ⟨h1, by subst h2; exact ak⟩
 fR := fun d ⟨⟨_, _, _, _, h⟩, _⟩ => (aax d h).mono fun e w' ⟨h1, h2⟩ => ⟨h1, by subst h2; exact ak⟩
 new := fun h1 h2 h3 => (aiK h1 h2 h3).mono fun e w' h => by
  obtain ⟨g1, g | g⟩ := h
  ·obtain ⟨g0, p, v, Fs, ps, g2, g3, g4⟩ := g;exact ⟨g1, .inl ⟨g0, p, _, g2, ⟨⟨v, Fs, ps, rfl, g3⟩, aif g0⟩, g4⟩⟩
  ·exact ⟨g1, .inr g⟩
def dZ (x : Ros) : List Value := [.int .i64 x.m, .int .i64 x.s, .int .i64 x.r]
def aZ (x : Ros) : List Value := .int .i64 x.m :: .int .i64 x.s :: .int .i64 x.r :: (vals x.st.toList ++ [.int .i64 x.cur, .bool x.gone])
def ros (x : Ros) : Value := .agg (aZ x).toArray
def geo (x : Ros) : Value := .agg (dZ x).toArray
theorem br (x : Ros) : (aZ x).length = 21 := by simp [aZ, bj]
theorem me (x : Ros) : ∀ v ∈ aZ x, v.oneCell' = true := by
 intro v hv;simp only [aZ, List.mem_cons, List.mem_append, List.not_mem_nil, or_false] at hv;rcases hv with rfl | rfl | rfl | hv | rfl | rfl
 ·rfl
 ·rfl
 ·rfl
 ·exact jj _ v hv
 ·rfl
 ·rfl
theorem tk : (prog.info? 58).map (·.size) = some 21 := by kernel_rfl
theorem ai1 : (prog.info? 51).map (·.size) = some 3 := by kernel_rfl
theorem ag1 : (prog.info? 56).map (·.size) = some 16 := by kernel_rfl
theorem wc : (prog.info? 58).map (fun i => i.zero) = some (some (ros bK)) := by kernel_rfl
theorem tL : (prog.info? 56).map (fun i => i.zero) = some (some (arr (List.replicate 16 0))) := by kernel_rfl
section
variable {ρ : Operand -> Value} {o : Oper} {x y : Operand} {w : World} {b off : Nat}
theorem bi {c : Ros} (ho : o.op = .load 58 x) (hx : ρ x = .pointer (some ⟨b, off, none⟩)) (hc : w.rangeAt b off (aZ c)) : (execOp ρ o).run prog w = .ok (.value (ros c)) w :=
 cv underlying58 rfl (by rw [br]; exact tk) ho hx hc
theorem dm {c : Ros} (ho : o.op = .load 51 x) (hx : ρ x = .pointer (some ⟨b, off, none⟩)) (hc : w.rangeAt b off (dZ c)) : (execOp ρ o).run prog w = .ok (.value (geo c)) w :=
 cv underlying51 rfl ai1 ho hx hc
theorem eh {l : List UInt8} (hl : l.length = 16) (ho : o.op = .load 56 x) (hx : ρ x = .pointer (some ⟨b, off, none⟩)) (hc : w.rangeAt b off (vals l)) : (execOp ρ o).run prog w = .ok (.value (arr l)) w :=
 cv underlying56 rfl (by rw [bj, hl]; exact ag1) ho hx hc
theorem a6 {c : Ros} (ho : o.op = .box 58 x) (hx : ρ x = ros c) : (execOp ρ o).run prog w = .ok (.value (.pointer (some ⟨w.heap.size, 0, none⟩))) (w.alloc (.cells (aZ c).toArray 58)) := cO ho hx
theorem cT (ho : o.op = .alloc 58) : (execOp ρ o).run prog w = .ok (.value (.pointer (some ⟨w.heap.size, 0, none⟩))) (w.alloc (.cells (aZ bK).toArray 58)) := di wc ho
theorem sI (ho : o.op = .alloc 56) : (execOp ρ o).run prog w = .ok (.value (.pointer (some ⟨w.heap.size, 0, none⟩))) (w.alloc (.cells (vals (List.replicate 16 0)).toArray 56)) := di tL ho
theorem lA {c d : Ros} (ho : o.op = .store 58 x y) (hx : ρ x = .pointer (some ⟨w.heap.size, 0, none⟩)) (hy : ρ y = ros c) : (execOp ρ o).run prog (w.alloc (.cells (aZ d).toArray 58)) = .ok .skip (w.alloc (.cells (aZ c).toArray 58)) :=
 fG (by rw [br]; exact tk) (by rw [br, br]) (me c) ho hx hy
end
theorem jM (x : Ros) : aZ x = dZ x ++ (vals x.st.toList ++ [.int .i64 x.cur, .bool x.gone]) := rfl
section
variable {ρ : Operand -> Value} {o : Oper} {x y : Operand} {w : World} {t : TypeId}
theorem afB : prog.eqGuardType prog.depth 56 = false := by kernel_rfl
theorem rq {a b : List UInt8} (c : Bool) (ha : a.length = 16) (hb : b.length = 16) (ho : o.op = .binOp .eql 56 x y t) (hx : ρ x = arr a) (hy : ρ y = arr b) (h : decide (a = b) = c) : (execOp ρ o).run prog w = .ok (.value (.bool c)) w := by
 subst h; exact ade afB (q7 underlying56 w a b ha hb 9998) ho hx hy
theorem eF {l : List UInt8} {j : Nat} (hl : l.length = 16) (hj : j < 16) (ho : o.op = .index 56 x y) (hx : ρ x = arr l) (hy : ρ y = .int .i64 (j : Int)) : (execOp ρ o).run prog w = .ok (.value (.int .u8 (bt l j))) w := by
 have hp : (part 5 (vals l).toArray (j * 1)).run prog w = .ok (.int .u8 (bt l j)) w := by
  have := iP (l := l) (j := j) (by omega);simp [part, this]
 have h : (Instr.index 56 (arr l) (.int .i64 (j : Int))).run prog w = .ok (.int .u8 (bt l j)) w := by
  have e : (0 <= (j : Int) /\ (j : Int) < 16) := by omega
  unfold arr;simp [Instr.index, asIntOf, run_underlying underlying56, Tryz.sizeOf5, hj]
  simpa using hp
 unfold execOp;simp only [ho, hx, hy, Sem.run_bind, h, Result.andThen_ok, Sem.run_pure]
end
def bJ (w : World) (b : Nat) (x : Ros) : Prop := w.heap[b]? = some (.cells (aZ x).toArray 58 (0, 0))
section
variable {w w' : World} {b : Nat} {x : Ros}
theorem bJ.range (h : bJ w b x) : w.rangeAt b 0 (aZ x) := aQ h
theorem bJ.geo (h : bJ w b x) : w.rangeAt b 0 (dZ x) := fc (cs := aZ x) (ds := []) (k := 0) h.range rfl rfl
theorem bJ.sts (h : bJ w b x) : w.rangeAt b 3 (vals x.st.toList) := by
 have := fc (k := 3) h.range (jM x) rfl;rwa [Nat.zero_add] at this
theorem bJ.cells (h : bJ w b x) : w.cell? ⟨b, 0, none⟩ = some (.int .i64 x.m) /\ w.cell? ⟨b, 1, none⟩ = some (.int .i64 x.s) /\ w.cell? ⟨b, 2, none⟩ = some (.int .i64 x.r) /\ w.cell? ⟨b, 19, none⟩ = some (.int .i64 x.cur) /\ w.cell? ⟨b, 20, none⟩ = some (.bool x.gone) := by
 have hr := fc (k := 19) (ds := dZ x ++ vals x.st.toList) (es := [.int .i64 x.cur, .bool x.gone]) (fs := []) h.range (by simp [jM]) (by simp [dZ, bj]);exact ⟨h.range 0 _ rfl, h.range 1 _ rfl, h.range 2 _ rfl, hr 0 _ rfl, hr 1 _ rfl⟩
theorem bJ.sta (h : bJ w b x) {j : Nat} (hj : j < 16) : w.cell? ⟨b, 3 + j, none⟩ = some (.int .u8 (sta x j)) := h.sts j _ (iP (by simpa using hj))
theorem bJ.below {B : Nat} (h : bJ w b x) (hB : b < B) (hb : Below B w w') : bJ w' b x := m0 h hB hb
theorem bJ.new (w : World) (x : Ros) : bJ (w.alloc (.cells (aZ x).toArray 58)) w.heap.size x := heap_alloc_new w _
theorem bJ.past (h : bJ w b x) (o : Obj) : bJ (w.alloc o) b x := bu h o
theorem bJ.rd (h : bJ w b x) {m : Nat} (hm : m <= 16) : Rd w w.heap.size (some ⟨b, 3, none⟩) m (x.st.toList.take m) :=
 ⟨by simp; omega, fun k hk => ⟨b, 3, rfl, aU h, by
  rw [h.sta (j := k) (by omega)];unfold Proofs.YtlmdklakcmnaiaaGreatDoor.sta bt;simp [List.getD, List.getElem?_take_of_lt hk]⟩⟩
end
theorem db (w : World) (x : Ros) : bJ (w.alloc (.cells (aZ x).toArray 58)) w.heap.size x /\ Below w.heap.size w (w.alloc (.cells (aZ x).toArray 58)) /\ w.heap.size < (w.alloc (.cells (aZ x).toArray 58)).heap.size :=
 ⟨bJ.new w x, (Below.refl w.heap.size w).alloc aj _, by simp only [World.size_alloc]; omega⟩
section
variable {w : World} {b off : Nat}
theorem pz : (Instr.fieldAt 58 (.pointer (some ⟨b, 0, none⟩)) 0).run prog w = .ok (.pointer (some ⟨b, 0, none⟩)) w := by kernel_rfl
theorem nI : (Instr.fieldAt 58 (.pointer (some ⟨b, 0, none⟩)) 1).run prog w = .ok (.pointer (some ⟨b, 3, none⟩)) w := by kernel_rfl
theorem oP : (Instr.fieldAt 51 (.pointer (some ⟨b, 0, none⟩)) 0).run prog w = .ok (.pointer (some ⟨b, 0, none⟩)) w := by kernel_rfl
theorem qn {g off j : Nat} (hj : j < 16) : (Instr.indexAt 56 (.pointer (some ⟨g, off, none⟩)) (.int .i64 (j : Int))).run prog w = .ok (.pointer (some ⟨g, off + j, none⟩)) w := by
 have e : (0 <= (j : Int) /\ (j : Int) < 16) := by omega
 simp [Instr.indexAt, Instr.sureAddr, asIntOf, run_underlying underlying56, Tryz.sizeOf5, Addr.add_mid, e, hj]
theorem aaF {b : Nat} : (Instr.fieldAt 58 (.pointer (some ⟨b, 0, none⟩)) 2).run prog w = .ok (.pointer (some ⟨b, 19, none⟩)) w := by kernel_rfl
theorem acd {b : Nat} : (Instr.fieldAt 51 (.pointer (some ⟨b, 0, none⟩)) 1).run prog w = .ok (.pointer (some ⟨b, 1, none⟩)) w := by kernel_rfl
end
theorem uh (l x : List UInt8) (off : Nat) : splice (vals l) off (vals x) = vals (splice l off x) := by
 unfold splice vals;simp [List.map_take, List.map_drop]
def cJ (w : World) (g : Nat) (t : TypeId) (l : List UInt8) : Prop := w.heap[g]? = some (.cells (vals l).toArray t (0, 0))
section
variable {w w' : World} {g : Nat} {t : TypeId} {l : List UInt8}
theorem cJ.lt (h : cJ w g t l) : g < w.heap.size := (Array.getElem?_eq_some_iff.1 h).1
theorem cJ.below {B : Nat} (h : cJ w g t l) (hB : g < B) (hb : Below B w w') : cJ w' g t l := (hb.block g hB).trans h
theorem cJ.grown {k : Nat} (h : cJ w g t l) (hk : g ≠ k) (hb : w.grownBy w' (some k)) : cJ w' g t l := (hb.block g h.lt (fun e => hk (by injection e))).trans h
theorem cJ.draw (h : cJ w g t l) : cJ w.drew g t l := h
theorem cJ.past (h : cJ w g t l) (o : Obj) : cJ (w.alloc o) g t l := bu h o
theorem cJ.cell (h : cJ w g t l) {j : Nat} (hj : j < l.length) : w.cell? ⟨g, j, none⟩ = some (.int .u8 (bt l j)) := by
 rw [cell_of_row w g j _ t (0, 0) h, List.getElem?_toArray, iP hj]
theorem cJ.rd (h : cJ w g t l) {p k : Nat} (hp : p + k <= l.length) : Rd w w.heap.size (some ⟨g, p, none⟩) k (piece l p k) :=
 ⟨dS hp, fun j hj => ⟨g, p, rfl, h.lt, by rw [h.cell (by omega), uv hj]⟩⟩
theorem cJ.range (h : cJ w g t l) (hl : l.length = 64) : w.rangeAt g 0 (cel (ofL l)) := fun j v hj => by
 have hlt : j < 64 := by have := (List.getElem?_eq_some_iff.1 hj).1; rwa [aO] at this
 rw [Nat.zero_add, h.cell (by omega), <- hj, lq _ hlt, ad7 _ hlt]
theorem cJ.new (w : World) (l : List UInt8) (t : TypeId) : cJ (w.alloc (.cells (vals l).toArray t)) w.heap.size t l := heap_alloc_new w _
theorem cJ.blk (w : World) (b : Blk) (t : TypeId) : cJ (w.alloc (.cells (cel b).toArray t)) w.heap.size t b.toList := heap_alloc_new w _
theorem cJ.row (h : cJ w g t l) : w.rowIs g t l.length (fun j => .int .u8 (bt l j)) :=
 ⟨_, h, by simp [bj], fun j hj => by rw [List.getElem?_toArray, iP hj]⟩
end
theorem fa {w : World} {ops : Array Oper} {rest : List Oper} {o : Oper} {a : Act} {Q : Exit -> Act -> World -> Prop} (hgd : o.guard = none) (d s : Operand)
  (ho : o.op = .call { callee := .builtin .copy, args := #[d, s], argTypes := #[208, 208] }) (g off n c m c' N : Nat) (A : Option Addr) (t : TypeId) (l x : List UInt8)
  (hd : a.eval d = .slice (some ⟨g, off, none⟩) n c) (hs : a.eval s = .slice A m c') (hS : cJ w g t l) (hr : Rd w N A m x) (hmn : m <= n) (hfit : off + m <= l.length)
  (h : ∀ w', cJ w' g t (splice l off x) -> w.grownBy w' (some g) -> wpList prog ops Q rest (a.put o.dst (goInt m)) w') : wpList prog ops Q (o :: rest) a w := by
 have hx := hr.1;rcases A with _ | ad
 ·have h0 : m = 0 := by
   rcases Nat.eq_zero_or_pos m with h | h
   ·exact h
   ·obtain ⟨b, off, e, _⟩ := hr.2 0 h;cases e
  subst h0;obtain rfl : x = [] := List.eq_nil_of_length_eq_zero hx;refine wpList_copy_nothing hgd d s _ _ ho 5 underlying208 (by kernel_rfl) _ _ _ _ _ _ hd hs (Nat.zero_min _) ?_;exact h w (by simpa [splice] using hS) (World.grownBy.refl w _)
 ·have hcl : (vals x).length = m := by rw [bj, hx]
  refine wpList_copy_own hgd d s _ _ ho 5 underlying208 (by kernel_rfl) g off n c ad m c' hd hs _ t hS (vals x) (by rw [hcl]; exact (Nat.min_eq_left hmn).symm) (fun j v hj => ?_) (by simp [hcl, bj]; omega) (jj x) ?_
  ·have hlt : j < m := by have := (List.getElem?_eq_some_iff.1 hj).1; omega
   obtain ⟨b, o2, e, _, hc⟩ := hr.2 j hlt;injection e with e;subst e;rw [Addr.add_mid, hc, <- hj, iP (by omega)]
  ·have hrow := setRow_heap w g (vals l).toArray ((vals l).toArray.toList.take off ++ (vals x ++ (vals l).toArray.toList.drop (off + (vals x).length))).toArray t (0, 0) hS;have e : (vals l).toArray.toList.take off ++ (vals x ++ (vals l).toArray.toList.drop (off + (vals x).length)) = vals (splice l off x) := by
    rw [<- uh]
    rfl
   rw [hcl];rw [hcl] at hrow e;refine h _ ?_ ⟨rfl, rfl, rfl, by simp [World.setRow], fun k hk hne => setRow_other w g k _ (fun e => hne (by rw [e]))⟩;unfold cJ;rw [e] at hrow ⊢;exact hrow
theorem max_u32 : IntKind.u32.max = 4294967295 := by decide
theorem td (r : Nat) (h : r < 4294967296) : bits .xor .u32 IntKind.u32.max (r : Int) = ((neg r : Nat) : Int) := by
 rw [max_u32];exact u32_xor_nat 4294967295 r (by omega) h
theorem ac0 (r : Nat) (l : List UInt8) {k : Nat} (h : k < l.length) : tak (run r (l.take k)) l[k].toNat = run r (l.take (k + 1)) := by
 rw [List.take_succ_eq_append_getElem h, wF]
 rfl
theorem abY (s : Nat) (A : Option Addr) (n c N : Nat) (b : List UInt8) (w : World) (T : Tab w) (hs : s < 4294967296) (hb : Rd w N A n b) (hn : n <= maxLen) :
  Calls prog 170 #[.int .u32 s, .slice A n c] w fun e w' => e = .returned (.int .u32 (more s b)) /\ w = w' := by
 have hnb := td s hs;have hnl := wE hs;have hlen := hb.1;unfold maxLen at hn;have HL := ae hlen;clear hlen;go_enter func170, ntmps170;go_wp2;clear hnb;have HM : Hid (more s b = neg (run (neg s) b)) := ae rfl;generalize neg s = r0 at *
 go_loop [5, 12] (fun x i => ∃ j : Nat, j <= n /\ i = .int .i64 j /\ x = .int .u32 (run r0 (b.take j))) (fun _ i => n - (intOf i).toNat)
 case atStart => exact ⟨0, by omega, rfl, rfl⟩
 case round =>
  obtain ⟨j, hj, rfl, rfl⟩ := hrel;by_cases hlt : j < n
  ·obtain ⟨bA, oA, rfl, hA, cA⟩ := hb.2 j hlt;have hjl : j < b.length := by have := HL.out; omega
   rw [eS hjl] at cA;have HS := ae (ac0 r0 b hjl);have hu := UInt8.toNat_lt b[j];generalize b[j].toNat = u at *;have hrl := vE hnl (b.take j);go_wp2_with fail;refine (adI (run r0 (b.take j)) u _ T hrl hu).mono ?_;rintro e w' ⟨rfl, rfl⟩;go_wp2
   go_round
   case rel => exact ⟨j + 1, by omega, by go_num, by rw [HS.out]⟩
   case measure => simp [intOf]; omega
  ·have h : j = n := by omega
   subst h;have ht : b.take j = b := List.take_of_length_le (Nat.le_of_eq HL);rw [ht];have hrl := vE hnl b;have hnb := td (run r0 b) hrl;clear ht;go_wp2;go_ret;exact ⟨dv (by first | rw [HM.out] | rw [HM.out, hnb]), rfl⟩
theorem abA (A : Option Addr) (n c N : Nat) (b : List UInt8) (w : World) (T : Tab w) (hb : Rd w N A n b) (hn : n <= maxLen) :
  Calls prog 158 #[.slice A n c] w fun e w' => e = .returned (.int .u32 (more 0 b)) /\ w = w' := by
 go_enter func158, ntmps158;go_wp2_with fail;refine (abY 0 A n c N b _ T (by omega) hb hn).mono ?_;rintro e w' ⟨rfl, rfl⟩;go_wp2;go_ret;exact ⟨rfl, rfl⟩
section
variable {ρ : Operand -> Value} {o : Oper} {x y z u : Operand} {w : World} {t : TypeId} {p q a b c : Value}
theorem gT (ho : o.op = .slice t x (some y) (some z) (some u)) (hx : ρ x = p) (hy : ρ y = a) (hz : ρ z = b) (hu : ρ u = c) (h : (Instr.sliceAt t p (some a) (some b) (some c)).run prog w = .ok q w) : (execOp ρ o).run prog w = .ok (.value q) w := by
 unfold execOp;simp only [ho, hx, hy, hz, hu, Option.map_some, Sem.run_bind, h, Result.andThen_ok, Sem.run_pure]
end
section
variable (g : Nat) (w : World)
theorem lP {i j k : Nat} (h1 : i <= j) (h2 : j <= k) (h3 : k <= 64) (h4 : i < k) : (Instr.sliceAt 44 (.pointer (some ⟨g, 0, none⟩)) (some (.int .i64 (i : Int))) (some (.int .i64 (j : Int))) (some (.int .i64 (k : Int)))).run prog w = .ok (.slice (some ⟨g, i, none⟩) (j - i) (k - i)) w := by
 have e1 : (0 <= (k : Int) /\ (k : Int) <= 64) := by omega
 have e2 : (0 <= (j : Int) /\ (j : Int) <= (k : Int)) := by omega
 have e3 : (0 <= (i : Int) /\ (i : Int) <= (j : Int)) := by omega
 have e4 : k ≠ i := by omega
 simp [Instr.sliceAt, Instr.sliceBounds, Instr.sliceBound, Instr.sureAddr, asIntOf, run_underlying vZ, Tryz.sizeOf5, Addr.add_mid, e1, e2, e3, e4, h1, h2, h3]
theorem aiR : (Instr.sliceAt 44 (.pointer (some ⟨g, 0, none⟩)) (some (.int .i64 0)) (some (.int .i64 8)) (some (.int .i64 8))).run prog w = .ok (.slice (some ⟨g, 0, none⟩) 8 8) w := lP g w (i := 0) (j := 8) (k := 8) (by omega) (by omega) (by omega) (by omega)
theorem aiL : (Instr.sliceAt 44 (.pointer (some ⟨g, 0, none⟩)) (some (.int .i64 8)) (some (.int .i64 52)) (some (.int .i64 52))).run prog w = .ok (.slice (some ⟨g, 8, none⟩) 44 44) w := lP g w (i := 8) (j := 52) (k := 52) (by omega) (by omega) (by omega) (by omega)
theorem aje : (Instr.sliceAt 44 (.pointer (some ⟨g, 0, none⟩)) (some (.int .i64 52)) (some (.int .i64 56)) (some (.int .i64 56))).run prog w = .ok (.slice (some ⟨g, 52, none⟩) 4 4) w := lP g w (i := 52) (j := 56) (k := 56) (by omega) (by omega) (by omega) (by omega)
theorem aiS : (Instr.sliceAt 44 (.pointer (some ⟨g, 0, none⟩)) (some (.int .i64 56)) (some (.int .i64 64)) (some (.int .i64 64))).run prog w = .ok (.slice (some ⟨g, 56, none⟩) 8 8) w := lP g w (i := 56) (j := 64) (k := 64) (by omega) (by omega) (by omega) (by omega)
theorem ajC : (Instr.sliceAt 44 (.pointer (some ⟨g, 0, none⟩)) (some (.int .i64 0)) (some (.int .i64 52)) (some (.int .i64 52))).run prog w = .ok (.slice (some ⟨g, 0, none⟩) 52 52) w := lP g w (i := 0) (j := 52) (k := 52) (by omega) (by omega) (by omega) (by omega)
end
section
variable {ρ : Operand -> Value} {o : Oper} {x y : Operand} {w : World} {t : TypeId} {old cs : Array Value}
theorem wV (hz : (prog.info? t).map (·.size) = some cs.size) (he : old.size = cs.size) (h1 : cs.toList.all Value.oneCell' = true) (ho : o.op = .store t x y) (hx : ρ x = .pointer (some ⟨w.heap.size, 0, none⟩)) (hy : ρ y = .agg cs) :
  (execOp ρ o).run prog (w.alloc (.cells old t)).drew = .ok .skip (w.alloc (.cells cs t)).drew := lx (w := w.drew) hz he h1 ho hx hy
end
theorem zL {ρ : Operand -> Value} {o : Oper} {w : World} {t : TypeId} {v : Value} {x0 x1 x2 x3 x4 : Operand} {y0 y1 y2 y3 y4 : Value} (ho : o.op = .build t #[(0, x0), (1, x1), (2, x2), (3, x3), (4, x4)]) (h0 : ρ x0 = y0) (h1 : ρ x1 = y1) (h2 : ρ x2 = y2) (h3 : ρ x3 = y3) (h4 : ρ x4 = y4)
  (h : (Instr.build t #[(0, y0), (1, y1), (2, y2), (3, y3), (4, y4)]).run prog w = .ok v w) : (execOp ρ o).run prog w = .ok (.value v) w := by
 subst h0 h1 h2 h3 h4;unfold execOp;simp only [ho, List.map_toArray, List.map_cons, List.map_nil, Sem.run_bind, h, Result.andThen_ok, Sem.run_pure]
theorem aes {fn : Func} {p : Tmp} {t : TypeId} {cs : Array Value} {d : TypeDesc} (h0 : fn.results = #[.cell p t]) (tmps : Array Value) (w : World) (b : Nat) (hp : tmps.getD p undef = .pointer (some ⟨b, 0, none⟩)) (h : w.heap[b]? = some (.cells cs t (0, 0))) (hu : prog.underlying t = some d) (hd : d.isRow = true) (hz : (prog.info? t).map (·.size) = some cs.size) :
  (results fn tmps).run prog w = .ok (.agg cs) w := by
 have hr : w.rangeAt b 0 cs.toList := fun j v hj => by
  rw [cell_of_row w b (0 + j) cs t (0, 0) h, Nat.zero_add]
  simpa using hj
 have hl : (loadVar t ⟨b, 0, none⟩).run prog w = .ok (.agg cs) w := by
  have := run_loadVar_mid (P := prog) w b 0 t cs.toList d hr hu hd (by simpa using hz)
  simpa using this
 have hp' : tmps[p]?.getD undef = .pointer (some ⟨b, 0, none⟩) := by simpa using hp
 simp [results, h0, hp', asAddr, hl]
theorem pu {w w' : World} {row : Option Nat} (hb : Below w.heap.size w w') : w.grownBy w' row := ⟨hb.os, hb.tape, hb.output, hb.size, fun k hk _ => hb.block k hk⟩
def fY (g : Nat) : Array Value := #[.slice (some ⟨g, 0, none⟩) 8 8, .slice (some ⟨g, 8, none⟩) 44 44, .slice (some ⟨g, 52, none⟩) 4 4, .slice (some ⟨g, 56, none⟩) 8 8, .slice (some ⟨g, 0, none⟩) 52 52]
theorem aie (g : Nat) (w : World) : (Instr.build 221 #[(0, .slice (some ⟨g, 0, none⟩) 8 8), (1, .slice (some ⟨g, 8, none⟩) 44 44), (2, .slice (some ⟨g, 52, none⟩) 4 4), (3, .slice (some ⟨g, 56, none⟩) 8 8), (4, .slice (some ⟨g, 0, none⟩) 52 52)]).run prog w = .ok (.agg (fY g)) w := by kernel_rfl
theorem lJ (g : Nat) (w : World) : Calls prog 156 #[.pointer (some ⟨g, 0, none⟩)] w fun e w' => e = .returned (.agg #[.slice (some ⟨g, 0, none⟩) 8 8, .slice (some ⟨g, 8, none⟩) 44 44, .slice (some ⟨g, 52, none⟩) 4 4, .slice (some ⟨g, 56, none⟩) 8 8, .slice (some ⟨g, 0, none⟩) 52 52]) /\ Below w.heap.size w w' := by
 go_enter func156, ntmps156;go_wp2_with fail;refine wp_region_still_tail 15 (by kernel_rfl) (by kernel_rfl) ?_;simp only [ac];refine aP rfl (aM rfl akt) ?_;simp only [aa];refine aP rfl (bq rfl akt) ?_;simp only [aa];refine aP rfl (gT rfl akt evk evk evk (aiR g _)) ?_;simp only [aa];refine aP rfl (aM rfl akt) ?_;simp only [aa];refine aP rfl (bq rfl akt) ?_;simp only [aa];refine aP rfl (gT rfl akt evk evk evk (aiL g _)) ?_;simp only [aa];refine aP rfl (aM rfl akt) ?_;simp only [aa];refine aP rfl (bq rfl akt) ?_;simp only [aa];refine aP rfl (gT rfl akt evk evk evk (aje g _)) ?_;simp only [aa];refine aP rfl (aM rfl akt) ?_;simp only [aa];refine aP rfl (bq rfl akt) ?_;simp only [aa];refine aP rfl (gT rfl akt evk evk evk (aiS g _)) ?_;simp only [aa];refine aP rfl (aM rfl akt) ?_;simp only [aa];refine aP rfl (bq rfl akt) ?_;simp only [aa];refine aP rfl (gT rfl akt evk evk evk (ajC g _)) ?_;simp only [aa];refine wpStill_nil ?_;change wpList _ _ _ _ _ (World.drew _);refine akk rfl (zL (v := .agg (fY g)) rfl akt akt akt akt akt (aie g _)) ?_;refine bN rfl (wV (w := w) (cs := fY g) ?s1 ?s2 ?s3 rfl (ev rfl) (ev rfl)) ?_
 case s1 => kernel_rfl
 case s2 => rfl
 case s3 => rfl
 refine ah ?_;go_wp2_with fail;refine bodyPost_ret (aes (cs := fY g) (t := 221) rfl _ _ w.heap.size rfl ?h1 underlying221 rfl ?h2) rfl ⟨rfl, ?h3⟩
 case h1 => exact heap_alloc_new w.drew _
 case h2 => kernel_rfl
 case h3 => exact bd ((Below.refl _ w).alloc aj _)
theorem mn {b : List UInt8} {n : Nat} (h : b.length = n) : piece b 0 n = b := by
 subst h;simp [piece]
theorem gu (A : Option Addr) (n c N : Nat) (b : List UInt8) (w : World) (hb : Rd w N A n b) (h1 : 1 <= n) (h2 : n <= 8) :
  Calls prog 175 #[.slice A n c] w fun e w' => e = .returned (.int .u64 (val 8 b)) /\ w = w' := by
 have hp := mn hb.1;have HP := ae hp;clear hp;go_enter func175, ntmps175;go_wp2_with fail;refine (ab7 A n c N b 0 n _ hb (by unfold maxLen; omega) h1 h2 (by omega)).mono ?_;rintro e w' ⟨rfl, rfl⟩;rw [HP.out];go_wp2;go_ret;exact ⟨rfl, rfl⟩
theorem sf (g off k n : Nat) (t : TypeId) (l : List UInt8) (w : World) (hs : cJ w g t l) (h1 : 1 <= k) (h2 : k <= 8) (ho : off + k <= l.length) (hn : n < 256 ^ k) :
  Calls prog 157 #[.slice (some ⟨g, off, none⟩) k k, .int .u64 n] w fun e w' => e = .returned (.tuple #[]) /\ cJ w' g t (splice l off (cw 8 k n)) /\ w.grownBy w' (some g) := by
 have HS := ae hs;have HL := ae (aT 8 k n);clear hs;go_enter func157, ntmps157;go_wp2_with fail;refine (abz n k w h1 h2 hn).mono ?_;rintro e w1 ⟨v, rfl, hv, hb⟩;obtain ⟨A, c, rfl, hrd, _, _⟩ := hv.made.open_ HL;have HR := ae hrd;have HS1 := ae (HS.out.below HS.out.lt hb);have HB := ae hb;clear hv hrd hb;go_wp2_with (with_reducible refine fa rfl _ _ rfl g off k k k c _ A t l (cw 8 k n) rfl rfl HS1.out HR.out (Nat.le_refl _) ho ?_);intro w2 hr2 hg2;have HR2 := ae hr2;have HG2 := ae hg2;clear hr2 hg2;go_wp2
 go_end0
 exact ⟨rfl, HR2, (pu HB).trans HG2⟩
theorem agE {b : List UInt8} {j : Nat} : bt (gI b) j = if j < b.length then bt b j else 0 := by
 unfold gI
 split
 ·rename_i h; exact eX h
 ·rename_i h; rw [fd (by omega), lw]
theorem yP {n : Nat} {b : List UInt8} {j : Nat} : bt (gK n b) j = if j < 8 then bt (cw 8 8 n) j else if j < 8 + b.length then bt b (j - 8) else 0 := by
 unfold gK
 split
 ·rename_i h; exact eX (by rw [aT]; exact h)
 ·rename_i h
  rw [fd (by rw [aT]; omega), aT, agE];by_cases h2 : j < 8 + b.length
  ·rw [if_pos (by omega), if_pos h2]
  ·rw [if_neg (by omega), if_neg h2]
theorem afr {n : Nat} {b : List UInt8} {j : Nat} (hb : b.length <= 44) : bt (jk n b) j = if j < 52 then bt (gK n b) j else if j < 56 then bt (cw 8 4 (more 0 (gK n b))) (j - 52) else bt (cw 8 8 n) (j - 56) := by
 have h52 := jK n hb;unfold jk
 split
 ·rename_i h; exact eX (by omega)
 ·rename_i h
  rw [fd (by omega), h52]
  split
  ·rename_i h2; exact eX (by rw [aT]; omega)
  ·rename_i h2; rw [fd (by rw [aT]; omega), aT, show j - 52 - 4 = j - 56 from by omega]
def mf (n : Nat) (b : List UInt8) : List UInt8 := splice (splice (splice aJ.toList 0 (cw 8 8 n)) 56 (cw 8 8 n)) 8 b
theorem nQ (n : Nat) : (splice aJ.toList 0 (cw 8 8 n)).length = 64 := by rw [length_splice _ _ _ (by simp [aT])]; simp
theorem od (n : Nat) : (splice (splice aJ.toList 0 (cw 8 8 n)) 56 (cw 8 8 n)).length = 64 := by rw [length_splice _ _ _ (by rw [nQ, aT]; omega), nQ]
section
variable {n : Nat} {b : List UInt8} (hb : b.length <= 44)
include hb
theorem gR : (mf n b).length = 64 := by unfold mf; rw [length_splice _ _ _ (by rw [od]; omega), od]
theorem uU {j : Nat} : bt (mf n b) j = if 8 <= j /\ j < 8 + b.length then bt b (j - 8) else if 56 <= j /\ j < 64 then bt (cw 8 8 n) (j - 56) else if j < 8 then bt (cw 8 8 n) j else 0 := by
 unfold mf;have hz : bt aJ.toList j = 0 := by
  have : aJ.toList = List.replicate 64 0 := by decide
  rw [this, lw]
 rw [jg (by rw [od]; omega), jg (by rw [nQ, aT]; omega), jg (by simp [aT]), aT, hz]
 congr 2
 by_cases h : j < 8
 ·rw [if_pos (by omega), if_pos h, Nat.sub_zero]
 ·rw [if_neg (by omega), if_neg h]
theorem xD : piece (mf n b) 0 52 = gK n b := by
 refine kq (by rw [dS (by rw [gR hb]; omega), jK n hb]) fun j hj => ?_
 rw [dS (by rw [gR hb]; omega)] at hj;rw [uv hj, Nat.zero_add, uU hb, yP];by_cases h8 : j < 8
 ·rw [if_neg (by omega), if_neg (by omega), if_pos h8, if_pos h8]
 ·by_cases h2 : j < 8 + b.length
  ·rw [if_pos (by omega), if_neg h8, if_pos h2]
  ·rw [if_neg (by omega), if_neg (by omega), if_neg h8, if_neg h8, if_neg h2]
theorem vz : splice (mf n b) 52 (cw 8 4 (more 0 (gK n b))) = jk n b := by
 have h64 := gR (n := n) hb;refine kq (by rw [length_splice _ _ _ (by rw [h64, aT]; omega), h64, ml n hb]) fun j hj => ?_
 rw [length_splice _ _ _ (by rw [h64, aT]; omega), h64] at hj;rw [jg (by rw [h64, aT]; omega), afr hb, aT, uU hb, yP];by_cases h52 : j < 52
 ·rw [if_neg (by omega), if_pos h52];by_cases h8 : j < 8
  ·rw [if_neg (by omega), if_neg (by omega), if_pos h8, if_pos h8]
  ·by_cases h2 : j < 8 + b.length
   ·rw [if_pos (by omega), if_neg h8, if_pos h2]
   ·rw [if_neg (by omega), if_neg (by omega), if_neg h8, if_neg h8, if_neg h2]
 ·by_cases h56 : j < 56
  ·rw [if_pos (by omega), if_neg h52, if_pos h56]
  ·rw [if_neg (by omega), if_neg h52, if_neg h56, if_neg (by omega), if_pos (by omega)]
end
theorem cells5 {w : World} {b : Nat} {t : TypeId} {x y z u v : Value} (h : w.heap[b]? = some (.cells #[x, y, z, u, v] t (0, 0))) : w.cell? ⟨b, 0, none⟩ = some x /\ w.cell? ⟨b, 1, none⟩ = some y /\ w.cell? ⟨b, 2, none⟩ = some z /\ w.cell? ⟨b, 3, none⟩ = some u /\ w.cell? ⟨b, 4, none⟩ = some v := by
 refine ⟨?_, ?_, ?_, ?_, ?_⟩
 ·rw [cell_of_row w b 0 _ t (0, 0) h]; rfl
 ·rw [cell_of_row w b 1 _ t (0, 0) h]; rfl
 ·rw [cell_of_row w b 2 _ t (0, 0) h]; rfl
 ·rw [cell_of_row w b 3 _ t (0, 0) h]; rfl
 ·rw [cell_of_row w b 4 _ t (0, 0) h]; rfl
def PartsAt (w : World) (p g : Nat) : Prop := w.heap[p]? = some (.cells (fY g) 221 (0, 0))
theorem PartsAt.cells {w : World} {p g : Nat} (h : PartsAt w p g) : w.cell? ⟨p, 0, none⟩ = some (.slice (some ⟨g, 0, none⟩) 8 8) /\ w.cell? ⟨p, 1, none⟩ = some (.slice (some ⟨g, 8, none⟩) 44 44) /\ w.cell? ⟨p, 2, none⟩ = some (.slice (some ⟨g, 52, none⟩) 4 4) /\ w.cell? ⟨p, 3, none⟩ = some (.slice (some ⟨g, 56, none⟩) 8 8) /\ w.cell? ⟨p, 4, none⟩ = some (.slice (some ⟨g, 0, none⟩) 52 52) := cells5 h
theorem PartsAt.grown {w w' : World} {p g k : Nat} (h : PartsAt w p g) (hk : p ≠ k) (hb : w.grownBy w' (some k)) : PartsAt w' p g := (hb.block p (aU h) (fun e => hk (by injection e))).trans h
theorem PartsAt.below {w w' : World} {p g B : Nat} (h : PartsAt w p g) (hB : p < B) (hb : Below B w w') : PartsAt w' p g := m0 h hB hb
structure pw (B : Nat) (w w' : World) (r g p : Nat) (l : List UInt8) : Prop where
 res : cJ w' r 44 aJ.toList
 row : cJ w' g 44 l
 par : PartsAt w' p g
 bel : Below B w w'
 r0 : B <= r
 g0 : B <= g
 rg : r ≠ g
 pg : p ≠ g
theorem pw.turn {B : Nat} {w w1 w2 : World} {r g p : Nat} {l l' : List UInt8} (h : pw B w w1 r g p l) (hr : cJ w2 g 44 l') (hg : w1.grownBy w2 (some g)) (hB : B <= w.heap.size) : pw B w w2 r g p l' :=
 ⟨h.res.grown h.rg hg, hr, h.par.grown h.pg hg, h.bel.grown hg (aq hB h.bel.size) (fun k hk => by injection hk with e; have := h.g0; omega), h.r0, h.g0, h.rg, h.pg⟩
theorem pw.draw {B : Nat} {w w1 : World} {r g p : Nat} {l : List UInt8} (h : pw B w w1 r g p l) : pw B w w1.drew r g p l := ⟨h.res, h.row, h.par, bd h.bel, h.r0, h.g0, h.rg, h.pg⟩
section
variable {ρ : Operand -> Value} {o : Oper} {x y z : Operand} {w : World} {t : TypeId} {n : Nat} {a : Value} {ad : Addr} {A : Option Addr} {m c : Nat}
theorem m8 (ho : o.op = .convert 168 34 x) (hx : ρ x = .int .u32 (n : Int)) (hn : n < 4294967296) : (execOp ρ o).run prog w = .ok (.value (.int .u64 (n : Int))) w := by
 have h : IntKind.u64.wrap (n : Int) = (n : Int) := IntWalk.u64_in _ ⟨by omega, by omega⟩;have hc : (convert 168 34 (.int .u32 (n : Int))).run prog w = .ok (.int .u64 (n : Int)) w := by simp [convert, go_sem, h]
 unfold execOp;simp only [ho, hx, Sem.run_bind, hc, Result.andThen_ok, Sem.run_pure]
theorem ldS (h : w.cell? ad = some (.slice A m c)) : (Instr.loadAt 208 (.pointer (some ad))).run prog w = .ok (.slice A m c) w := by simp [go_sem, h]
theorem ahb {b : Nat} : (Instr.fieldAt 221 (.pointer (some ⟨b, 0, none⟩)) 2).run prog w = .ok (.pointer (some ⟨b, 2, none⟩)) w := by kernel_rfl
theorem ahC {b : Nat} : (Instr.fieldAt 221 (.pointer (some ⟨b, 0, none⟩)) 4).run prog w = .ok (.pointer (some ⟨b, 4, none⟩)) w := by kernel_rfl
end
theorem afv (m c : Nat) (A : Option Addr) (b : List UInt8) (w : World) (hb : b.length = m) :
  Calls prog 148 #[.int .u64 0, .slice A m c] w fun e w' => e = .returned (.tuple #[blk (jV 0 b), .int .i64 (ix 0 b : Nat)]) /\ Below w.heap.size w w' := by
 have hA := (Below.refl w.heap.size w).alloc aj (.cells (cel aJ).toArray 44);have HT := ae (fB w aJ 44);have HA := ae hA;clear hA;rw [show jV 0 b = aJ from rfl, show ix 0 b = 2 from rfl];go_enter func148, ntmps148;go_wp2_with (first | (refine az rfl (bU rfl) ?_) | (refine az rfl (dy (c := aJ) (parts := []) rfl rfl) ?_) | (refine bN rfl (bO rfl rfl rfl HT.out) ?_));refine bodyPost_ret (dC rfl _ _ _ rfl (World.rangeAt_setCells_same _ _ _ _ (by rw [aO]; exact HT))) rfl ⟨rfl, below_setCells HA aj _⟩
theorem adF (n m c : Nat) (A : Option Addr) (b : List UInt8) (w : World) (hb : b.length = m) (h0 : 0 < n) (hm : 44 < m) (hm2 : m <= maxLen) :
  Calls prog 148 #[.int .u64 n, .slice A m c] w fun e w' => e = .returned (.tuple #[blk (jV n b), .int .i64 (ix n b : Nat)]) /\ Below w.heap.size w w' := by
 have hA := (Below.refl w.heap.size w).alloc aj (.cells (cel aJ).toArray 44);have HT := ae (fB w aJ 44);have HA := ae hA;have hE : ix n b = 3 := by unfold ix; rw [if_neg (by omega), if_pos (by omega)]
 have hB : jV n b = aJ := by unfold jV; rw [hE]; rfl
 rw [hE, hB];unfold maxLen at hm2;clear hA hE hB hb;have hz : ((n : Int) == 0) = false := by simp; omega
 go_enter func148, ntmps148;go_wp2_with (first | (refine az rfl (bU rfl) ?_) | (refine az rfl (dy (c := aJ) (parts := []) rfl rfl) ?_) | (refine bN rfl (bO rfl rfl rfl HT.out) ?_));refine bodyPost_ret (dC rfl _ _ _ rfl (World.rangeAt_setCells_same _ _ _ _ (by rw [aO]; exact HT))) rfl ⟨rfl, below_setCells HA aj _⟩
theorem pH {a x : List UInt8} (h : a.length + x.length <= 44) : splice (gI a) a.length x = gI (a ++ x) := by
 unfold splice gI;rw [List.take_append_of_le_length aj, List.take_length, List.drop_append];rw [List.drop_of_length_le (by omega), List.nil_append, List.drop_replicate, List.append_assoc, List.length_append]
 congr 3
 omega
def z44 : List UInt8 := List.replicate 44 0
theorem wP : z44.length = 44 := rfl
def bD (x : Sup) : List Value := .int .u64 x.id :: .int .i64 x.self :: aZ x.ros
def sup (x : Sup) : Value := .agg (bD x).toArray
theorem a8 (x : Sup) : (bD x).length = 23 := by simp [bD, br]
theorem tS (x : Sup) : ∀ v ∈ bD x, v.oneCell' = true := by
 intro v hv;simp only [bD, List.mem_cons] at hv;rcases hv with rfl | rfl | hv
 ·rfl
 ·rfl
 ·exact me _ v hv
theorem kj : (prog.info? 198).map (·.size) = some 23 := by kernel_rfl
theorem mX : (prog.info? 205).map (·.size) = some 44 := by kernel_rfl
theorem wD : (prog.info? 198).map (fun i => i.zero) = some (some (sup cG)) := by kernel_rfl
theorem ve : (prog.info? 205).map (fun i => i.zero) = some (some (arr z44)) := by kernel_rfl
section
variable {ρ : Operand -> Value} {o : Oper} {x y : Operand} {w : World} {b off : Nat}
theorem dz {c : Sup} (ho : o.op = .load 198 x) (hx : ρ x = .pointer (some ⟨b, off, none⟩)) (hc : w.rangeAt b off (bD c)) : (execOp ρ o).run prog w = .ok (.value (sup c)) w :=
 cv underlying198 rfl (by rw [a8]; exact kj) ho hx hc
theorem iO {l : List UInt8} (hl : l.length = 44) (ho : o.op = .load 205 x) (hx : ρ x = .pointer (some ⟨b, off, none⟩)) (hc : w.rangeAt b off (vals l)) : (execOp ρ o).run prog w = .ok (.value (arr l)) w :=
 cv underlying205 rfl (by rw [bj, hl]; exact mX) ho hx hc
theorem jp {c : Sup} (ho : o.op = .box 198 x) (hx : ρ x = sup c) : (execOp ρ o).run prog w = .ok (.value (.pointer (some ⟨w.heap.size, 0, none⟩))) (w.alloc (.cells (bD c).toArray 198)) := cO ho hx
theorem cp (ho : o.op = .alloc 198) : (execOp ρ o).run prog w = .ok (.value (.pointer (some ⟨w.heap.size, 0, none⟩))) (w.alloc (.cells (bD cG).toArray 198)) := di wD ho
theorem lF (ho : o.op = .alloc 205) : (execOp ρ o).run prog w = .ok (.value (.pointer (some ⟨w.heap.size, 0, none⟩))) (w.alloc (.cells (vals z44).toArray 205)) := di ve ho
theorem er {c d : Sup} (ho : o.op = .store 198 x y) (hx : ρ x = .pointer (some ⟨w.heap.size, 0, none⟩)) (hy : ρ y = sup c) : (execOp ρ o).run prog (w.alloc (.cells (bD d).toArray 198)) = .ok .skip (w.alloc (.cells (bD c).toArray 198)) :=
 fG (by rw [a8]; exact kj) (by rw [a8, a8]) (tS c) ho hx hy
theorem ez {c : Sup} (ho : o.op = .store 198 x y) (hx : ρ x = .pointer (some ⟨b, off, none⟩)) (hy : ρ y = sup c) (ht : w.there b off 23) : (execOp ρ o).run prog w = .ok .skip (w.setCells b off (bD c)) :=
 f6 (by rw [a8]; exact kj) (tS c) ho hx hy (by rw [a8]; exact ht)
theorem ac9 (w : World) : (Instr.build 198 #[]).run prog w = .ok (sup cG) w := by kernel_rfl
theorem kO (ho : o.op = .build 198 #[]) : (execOp ρ o).run prog w = .ok (.value (sup cG)) w := mL ho (ac9 w)
end
theorem af8 (x : Sup) : bD x = [.int .u64 x.id, .int .i64 x.self] ++ aZ x.ros := rfl
section
variable {ρ : Operand -> Value} {o : Oper} {x y : Operand} {w : World} {t : TypeId}
theorem afJ : prog.eqGuardType prog.depth 205 = false := by kernel_rfl
theorem rv {a b : List UInt8} (c : Bool) (ha : a.length = 44) (hb : b.length = 44) (ho : o.op = .binOp .neq 205 x y t) (hx : ρ x = arr a) (hy : ρ y = arr b) (h : decide (a = b) = c) : (execOp ρ o).run prog w = .ok (.value (.bool (!c))) w := by
 subst h; exact adv afJ (q7 underlying205 w a b ha hb 9998) ho hx hy
end
def cZ (w : World) (b : Nat) (x : Sup) : Prop := w.heap[b]? = some (.cells (bD x).toArray 198 (0, 0))
section
variable {w w' : World} {b : Nat} {x : Ros} {y : Sup}
theorem cZ.range (h : cZ w b y) : w.rangeAt b 0 (bD y) := aQ h
theorem cZ.agP (h : cZ w b y) : w.rangeAt b 2 (aZ y.ros) := by
 have := fc (k := 2) (ds := [.int .u64 y.id, .int .i64 y.self]) (es := aZ y.ros) (fs := []) h.range (by simp [af8]) rfl;rwa [Nat.zero_add] at this
theorem cZ.cells (h : cZ w b y) : w.cell? ⟨b, 0, none⟩ = some (.int .u64 y.id) /\ w.cell? ⟨b, 1, none⟩ = some (.int .i64 y.self) /\ w.cell? ⟨b, 2, none⟩ = some (.int .i64 y.ros.m) /\ w.cell? ⟨b, 3, none⟩ = some (.int .i64 y.ros.s) /\ w.cell? ⟨b, 4, none⟩ = some (.int .i64 y.ros.r) /\ w.cell? ⟨b, 21, none⟩ = some (.int .i64 y.ros.cur) /\ w.cell? ⟨b, 22, none⟩ = some (.bool y.ros.gone) := by
 have hr := fc (k := 19) (ds := dZ y.ros ++ vals y.ros.st.toList) (es := [.int .i64 y.ros.cur, .bool y.ros.gone]) (fs := []) h.agP (by simp [jM]) (by simp [dZ, bj]);exact ⟨h.range 0 _ rfl, h.range 1 _ rfl, h.range 2 _ rfl, h.range 3 _ rfl, h.range 4 _ rfl, hr 0 _ rfl, hr 1 _ rfl⟩
theorem cZ.below {B : Nat} (h : cZ w b y) (hB : b < B) (hb : Below B w w') : cZ w' b y := m0 h hB hb
theorem cZ.new (w : World) (y : Sup) : cZ (w.alloc (.cells (bD y).toArray 198)) w.heap.size y := heap_alloc_new w _
theorem cZ.past (h : cZ w b y) (o : Obj) : cZ (w.alloc o) b y := bu h o
end
theorem vh (x : Ros) (w : World) : Calls prog 47 #[geo x] w fun e w' => e = .returned (.bool (dH x)) /\ Below w.heap.size w w' := by
 have h1 := gW (x := x);have h2 := uH (x := x);generalize dH x = g at *;obtain ⟨m, s, r, st, cur, gone⟩ := x;simp only at h1 h2;have H1 := ae h1;have H2 := ae h2;clear h1 h2
 show Calls prog 47 #[.agg #[.int .i64 m, .int .i64 s, .int .i64 r]] w _
 go_enter func47, ntmps47;go_wp2
 all_goals
  go_ret;refine ⟨bf ?_, ak.alloc aj _⟩
  first
   |(refine Eq.symm (H2.out.2 ?_); omega)
   |(rw [Bool.eq_iff_iff, H1.out, decide_eq_true_iff]; omega)
theorem agn (x : Ros) (w : World) : Calls prog 49 #[geo x] w fun e w' => e = .returned (.bool (dH x)) /\ Below w.heap.size w w' := by
 have h1 := gW (x := x);have h2 := uH (x := x);generalize dH x = g at *;obtain ⟨m, s, r, st, cur, gone⟩ := x;simp only at h1 h2;have H1 := ae h1;have H2 := ae h2;clear h1 h2
 show Calls prog 49 #[.agg #[.int .i64 m, .int .i64 s, .int .i64 r]] w _
 go_enter func49, ntmps49;go_wp2
 all_goals
  go_ret;refine ⟨bf ?_, ak.alloc aj _⟩
  first
   |(refine Eq.symm (H2.out.2 ?_); omega)
   |(rw [Bool.eq_iff_iff, H1.out, decide_eq_true_iff]; omega)
theorem pT (w : World) (x : Sup) : cZ (w.alloc (.cells (bD x).toArray 198)) w.heap.size x /\ Below w.heap.size w (w.alloc (.cells (bD x).toArray 198)) /\ w.heap.size < (w.alloc (.cells (bD x).toArray 198)).heap.size :=
 ⟨cZ.new w x, (Below.refl w.heap.size w).alloc aj _, by simp only [World.size_alloc]; omega⟩
theorem adG (n : Nat) (w : World) : Calls prog 145 #[.int .u64 n] w fun e w' => e = .returned (.bool (evB n)) /\ w = w' := by
 by_cases h : 1 <= n
 ·go_enter func145, ntmps145;go_wp2;go_ret;refine ⟨bf ?_, rfl⟩;unfold evB;rw [decide_eq_decide];omega
 ·have h0 : n = 0 := by omega
  subst h0;go_enter func145, ntmps145;go_wp2;go_ret;exact ⟨rfl, rfl⟩
theorem agB (x : Ros) (w : World) : Calls prog 173 #[ros x] w fun e w' => e = .returned (.int .i64 (dG x : Nat)) /\ Below w.heap.size w w' := by
 obtain ⟨h1, h2, h3⟩ := db w x;have HR := ae h1;have HB := ae h2;clear h1 h2 h3;have HL := ae (jN x.st);have HH : Hid (dG x = ie x.st.toList 16) := ae rfl;go_enter func173, ntmps173;go_wp2_with (first | (refine aw rfl (a6 rfl rfl) ?_) | (refine aw rfl (eh HL.out rfl rfl ?_) ?_; (with_reducible exact HR.out.sts)) | fail);generalize w.alloc (.cells (aZ x).toArray 58) = w1 at *;generalize x.st.toList = l at *
 go_loop [3, 8] (fun n i => ∃ j : Nat, j <= 16 /\ i = .int .i64 j /\ n = .int .i64 (ie l j : Nat)) (fun _ i => 16 - (intOf i).toNat)
 case atStart => exact ⟨0, Nat.zero_le _, rfl, rfl⟩
 case round =>
  obtain ⟨j, hj, rfl, rfl⟩ := hrel;by_cases hlt : j < 16
  ·have hs := ae (lj l j);have hle := oO l j;generalize ie l j = n at *;by_cases h2 : bt l j = 2
   ·rw [if_pos h2] at hs;have hd : (bt l j == 2) = true := by rw [h2]; rfl
    clear h2;go_wp2_with (first | (refine aw rfl (eF (l := l) (j := j) HL hlt rfl rfl rfl) ?_) | fail)
    go_round
    case rel => exact ⟨j + 1, by omega, by go_num, by rw [hs.out]; go_num⟩
    case measure => simp [intOf]; omega
   ·rw [if_neg h2] at hs;have hd : (bt l j == 2) = false := by simpa using h2
    clear h2;go_wp2_with (first | (refine aw rfl (eF (l := l) (j := j) HL hlt rfl rfl rfl) ?_) | fail)
    go_round
    case rel => exact ⟨j + 1, by omega, by go_num, by rw [hs.out, Nat.add_zero]⟩
    case measure => simp [intOf]; omega
  ·have e : j = 16 := by omega
   subst e;go_wp2;go_ret;exact ⟨by rw [HH.out]; rfl, HB⟩
theorem ajY (x : Ros) (w : World) : Calls prog 162 #[ros x] w fun e w' => e = .returned (.bool (uI x)) /\ Below w.heap.size w w' := by
 obtain ⟨h1, h2, h3⟩ := db w x;have HR := ae h1;have HB := ae h2;have HZ := ae h3;clear h1 h2 h3;have HC : Hid (uI x = if dG x = 0 then decide (x.cur = 0) else decide (0 <= x.cur /\ x.cur < x.s)) := ae rfl;go_enter func162, ntmps162;go_wp2_with (first | (refine aw rfl (a6 rfl rfl) ?_) | (refine aw rfl (bi (c := x) rfl rfl ?_) ?_; (with_reducible exact HR.out.range)) | fail);generalize w.alloc (.cells (aZ x).toArray 58) = w1 at *;refine (agB x w1).mono ?_;rintro e w2 ⟨rfl, hb⟩;obtain ⟨c0, c1, c2, c3, c4⟩ := (HR.out.below HZ hb).cells;have HB2 := ae (HB.out.trans (hb.mono (Nat.le_of_lt HZ)));clear hb;generalize x.cur = c at *;generalize x.s = s at *;by_cases h0 : dG x = 0
 ·rw [if_pos h0] at HC;rw [h0];go_wp2;go_ret;exact ⟨bf (by rw [HC.out, Bool.eq_iff_iff]; simp), HB2⟩
 ·rw [if_neg h0] at HC;have hd : ((dG x : Int) == 0) = false := by simp; omega
  by_cases hc : 0 <= c
  ·go_wp2;go_ret;exact ⟨bf (by rw [HC.out, decide_eq_decide]; omega), HB2⟩
  ·have hlt : c < 0 := by omega
   go_wp2;go_ret;exact ⟨bf (by rw [HC.out]; simp; omega), HB2⟩
set_option linter.unusedSimpArgs false
def jc (x : Ros) : List UInt8 := splice (List.replicate 16 0) 0 (x.st.toList.take x.m.toNat)
theorem kz {x : Ros} : (jc x).length = 16 := by
 unfold jc;rw [length_splice _ _ _ (by simp; omega)];simp
theorem sc {x : Ros} (h0 : 0 <= x.m) (h16 : x.m <= 16) {k : Nat} (hk : k < 16) : bt (jc x) k = if (k : Int) < x.m then sta x k else 0 := by
 unfold jc;have hl : (x.st.toList.take x.m.toNat).length = x.m.toNat := by simp; omega
 rw [jg (by rw [hl]; simp; omega), hl, lw];by_cases h : (k : Int) < x.m
 ·rw [if_pos (by omega), if_pos h];unfold sta bt;simp only [List.getD, Nat.sub_zero, List.getElem?_take_of_lt (show k < x.m.toNat by omega)]
 ·rw [if_neg (by omega), if_neg h]
theorem adb {x : Ros} (h0 : 0 <= x.m) (h16 : x.m <= 16) {k : Nat} (hk : k < 16) (hb : 2 < bt (jc x) k) : fO x = false := by
 rw [Bool.eq_false_iff];intro h;have := (iK h).1 k hk;rw [sc h0 h16 hk] at hb
 split at hb <;> omega
theorem adN {x : Ros} (h0 : 0 <= x.m) (h16 : x.m <= 16) (h : ∀ k, k < 16 -> bt (jc x) k <= 2) : fO x = decide (jc x = x.st.toList) := by
 rw [Bool.eq_iff_iff, decide_eq_true_iff, jq]
 constructor
 ·rintro ⟨h1, h2⟩;refine kq (by rw [kz]; simp) fun k hk => ?_
  rw [kz] at hk;rw [sc h0 h16 hk]
  split
  ·rfl
  ·exact (h2 k hk (by omega)).symm
 ·intro e;have h3 : ∀ k, k < 16 -> sta x k = bt (jc x) k := fun k hk => by rw [e]; rfl
  refine ⟨fun k hk => by rw [h3 k hk]; exact h k hk, fun k hk hm => ?_⟩;rw [h3 k hk, sc h0 h16 hk, if_neg (by omega)]
section
variable {ρ : Operand -> Value} {o : Oper} {x z : Operand} {w : World} {g off : Nat}
theorem lh (ho : o.op = .slice 56 x none none none) (hx : ρ x = .pointer (some ⟨g, off, none⟩)) : (execOp ρ o).run prog w = .ok (.value (.slice (some ⟨g, off, none⟩) 16 16)) w := by
 have h : (Instr.sliceAt 56 (.pointer (some ⟨g, off, none⟩)) none none none).run prog w = .ok (.slice (some ⟨g, off, none⟩) 16 16) w := by
  simp [Instr.sliceAt, Instr.sliceBounds, Instr.sliceBound, Instr.sureAddr, asIntOf, run_underlying underlying56, Tryz.sizeOf5, Addr.add_mid]
 unfold execOp;simp only [ho, hx, Option.map_none, Sem.run_bind, h, Result.andThen_ok, Sem.run_pure]
theorem si {m : Int} (h0 : 0 < m) (h16 : m <= 16) (ho : o.op = .slice 56 x none (some z) none) (hx : ρ x = .pointer (some ⟨g, off, none⟩)) (hz : ρ z = .int .i64 m) : (execOp ρ o).run prog w = .ok (.value (.slice (some ⟨g, off, none⟩) m.toNat 16)) w := by
 obtain ⟨n, rfl⟩ := Int.eq_ofNat_of_zero_le (Int.le_of_lt h0);have h : (Instr.sliceAt 56 (.pointer (some ⟨g, off, none⟩)) none (some (.int .i64 (n : Int))) none).run prog w = .ok (.slice (some ⟨g, off, none⟩) n 16) w := by
  have e1 : (0 <= (n : Int) /\ (n : Int) <= 16) := by omega
  have e2 : n <= 16 := by omega
  simp [Instr.sliceAt, Instr.sliceBounds, Instr.sliceBound, Instr.sureAddr, asIntOf, run_underlying underlying56, Tryz.sizeOf5, Addr.add_mid, e1, e2]
 unfold execOp;simp only [ho, hx, hz, Option.map_none, Option.map_some, Sem.run_bind, h, Result.andThen_ok, Sem.run_pure, Int.toNat_natCast]
end
theorem af9 (x : Ros) (w : World) (h0 : 0 < x.m) (h16 : x.m <= 16) : Calls prog 161 #[ros x] w fun e w' => e = .returned (.bool (fO x && decide (dG x <= 1))) /\ Below w.heap.size w w' := by
 obtain ⟨h1, h2, h3⟩ := db w x;have HR := ae (h1.past (.cells (vals (List.replicate 16 0)).toArray 56));have HB := ae (h2.alloc h2.size (.cells (vals (List.replicate 16 0)).toArray 56));have HM : Hid (cJ ((w.alloc (.cells (aZ x).toArray 58)).alloc (.cells (vals (List.replicate 16 0)).toArray 56)) (w.heap.size + 1) 56 (List.replicate 16 0)) := by
  have := cJ.new (w.alloc (.cells (aZ x).toArray 58)) (List.replicate 16 0) 56;rw [World.size_alloc] at this;exact ae this
 clear h1 h2 h3;have HML := ae (kz (x := x));have HSL := ae (jN x.st);have HBIG : Hid (∀ k, k < 16 -> 2 < bt (jc x) k -> fO x = false) := ae fun k hk hb => adb (by omega) h16 hk hb
 have HALL : Hid ((∀ k, k < 16 -> bt (jc x) k <= 2) -> fO x = decide (jc x = x.st.toList)) := ae fun h => adN (by omega) h16 h
 have HDEF : Hid (splice (List.replicate 16 0) 0 (x.st.toList.take x.m.toNat) = jc x) := ae rfl;go_enter func161, ntmps161;go_wp2_with (first | (refine aw rfl (a6 rfl rfl) ?_) | (refine aw rfl (sI rfl) ?_) | fail);simp only [World.size_alloc];generalize (w.alloc (.cells (aZ x).toArray 58)).alloc (.cells (vals (List.replicate 16 0)).toArray 56) = w1 at *;have c0 := HR.out.cells.1;have HRD := ae (HR.out.rd (m := x.m.toNat) (by omega));refine wp_region_still_tail 6 (by kernel_rfl) (by kernel_rfl) ?_;simp only [ac];refine aP rfl (lh rfl akt) ?_;simp only [aa];refine aP rfl (ax rfl akt nI) ?_;simp only [aa];refine aP rfl (ax rfl akt pz) ?_;simp only [aa];refine aP rfl (ax rfl akt oP) ?_;simp only [aa];refine aP rfl (aD rfl akt (cd c0)) ?_;simp only [aa];refine aP rfl (si h0 h16 rfl akt akt) ?_;simp only [aa];refine wpStill_nil ?_;change wpList _ _ _ _ _ (World.drew _);refine fa rfl _ _ rfl (w.heap.size + 1) 0 16 16 x.m.toNat 16 _ _ 56 (List.replicate 16 0) (x.st.toList.take x.m.toNat) akt akt HM.out.draw HRD (by omega) (by simp; omega) ?_;intro w2 hr2 hg2;rw [HDEF.out] at hr2;have HR2 : Hid (bJ w2 w.heap.size x) := ae ((hg2.block w.heap.size (aU HR) (fun e => by injection e with e; omega)).trans HR);have HM2 := ae hr2;have HM2R := ae (aQ hr2);have HB2 : Hid (Below w.heap.size w w2) := ae ((bd HB).grown hg2 HB.out.size (fun k hk => by injection hk with e; omega));have HZ2 : Hid (w.heap.size < w2.heap.size) := ae (aU HR2);clear hr2 hg2 HR HM HB HRD c0;simp only [aa];refine ah ?_;go_wp2_with (first | (refine aw rfl (eh HML.out rfl rfl ?_) ?_; (with_reducible exact HM2R.out)) | fail);have HW2 := ae (show w2 = w2 from rfl)
 go_loop [14] (fun i => ∃ j : Nat, j <= 16 /\ i = .int .i64 j /\ ∀ k, k < j -> bt (jc x) k <= 2) (fun i => 16 - (intOf i).toNat)
 case atStart => exact ⟨0, Nat.zero_le _, rfl, fun k hk => absurd hk (by omega)⟩
 case round =>
  obtain ⟨j, hj, rfl, hall⟩ := hrel;have HA := ae hall;clear hall;by_cases hlt : j < 16
  ·by_cases h2 : 2 < bt (jc x) j
   ·have HF := ae (HBIG.out j hlt h2);go_wp2_with (first | (refine aw rfl (eF (l := jc x) (j := j) HML hlt rfl rfl rfl) ?_) | fail);go_ret;exact ⟨bf (by rw [HF.out]; rfl), HB2⟩
   ·have h2' : bt (jc x) j <= 2 := by omega
    have HN : Hid (∀ k, k < j + 1 -> bt (jc x) k <= 2) := ae fun k hk => by
     by_cases e : k = j
     ·rw [e]; exact h2'
     ·exact HA.out k (by omega)
    go_wp2_with (first | (refine aw rfl (eF (l := jc x) (j := j) HML hlt rfl rfl rfl) ?_) | fail)
    go_round
    case rel => exact ⟨j + 1, by omega, by go_num, HN⟩
    case measure => simp [intOf]; omega
  ·have e : j = 16 := by omega
   subst e;have HE := ae (HALL.out HA);cases hs : fO x
   ·rw [hs] at HE;have HD : Hid (decide (jc x = x.st.toList) = false) := ae HE.out.symm;have HS := ae hs;clear hs HE;go_wp2_with (first | (refine aw rfl (eh HML.out rfl rfl ?_) ?_; (with_reducible exact HM2R.out)) | (refine aw rfl (eh HSL.out rfl rfl ?_) ?_; (with_reducible exact HR2.out.sts)) | (refine aw rfl (rq false HML.out HSL.out rfl rfl rfl HD.out) ?_) | fail);go_ret;exact ⟨bf (by rw [HS.out]; rfl), HB2⟩
   ·rw [hs] at HE;have HD : Hid (decide (jc x = x.st.toList) = true) := ae HE.out.symm;have HS := ae hs;clear hs HE;go_wp2_with (first | (refine aw rfl (eh HML.out rfl rfl ?_) ?_; (with_reducible exact HM2R.out)) | (refine aw rfl (eh HSL.out rfl rfl ?_) ?_; (with_reducible exact HR2.out.sts)) | (refine aw rfl (rq true HML.out HSL.out rfl rfl rfl HD.out) ?_) | (refine az (by rfl) (bi (c := x) rfl rfl ?_) ?_; (with_reducible exact HR2.out.range)) | fail);refine (agB x w2).mono ?_;rintro e w3 ⟨rfl, hb⟩;have HB3 := ae (HB2.out.trans (hb.mono (Nat.le_of_lt HZ2)));clear hb;go_wp2;go_ret;exact ⟨bf (by rw [HS.out, Bool.true_and, decide_eq_decide]; omega), HB3⟩
theorem afi (x : Ros) (w : World) : Calls prog 151 #[ros x] w fun e w' => e = .returned (.bool (aW x)) /\ Below w.heap.size w w' := by
 have HF := ae (qe x);obtain ⟨h1, h2, h3⟩ := db w x;have HR := ae h1;have HB := ae h2;have HZ := ae h3;clear h1 h2 h3;go_enter func151, ntmps151;go_wp2_with (first | (refine aw rfl (a6 rfl rfl) ?_) | (refine aw rfl (dm (c := x) rfl rfl ?_) ?_; (with_reducible exact HR.out.geo)) | fail);generalize w.alloc (.cells (aZ x).toArray 58) = w1 at *;refine (vh x w1).mono ?_;rintro e w2 ⟨rfl, hb⟩;have HR2 := ae (HR.out.below HZ hb);have HB2 := ae (HB.out.trans (hb.mono (Nat.le_of_lt HZ)));have HZ2 := ae (aU HR2);clear hb HR HB HZ;cases hg : dH x
 ·rw [hg] at HF;go_wp2_with fail;go_ret;exact ⟨bf (by rw [HF.out]; rfl), HB2⟩
 ·rw [hg] at HF;have hgg := gW.1 hg;clear hg;go_wp2_with (first | (refine az (by rfl) (bi (c := x) rfl rfl ?_) ?_; (with_reducible exact HR2.out.range)) | fail);refine (af9 x w2 (by omega) (by omega)).mono ?_;rintro e w3 ⟨rfl, hb⟩;have HR3 := ae (HR2.out.below HZ2 hb);have HB3 := ae (HB2.out.trans (hb.mono (Nat.le_of_lt HZ2)));have HZ3 := ae (aU HR3);clear hb HR2 HB2 HZ2 hgg;generalize (fO x && decide (dG x <= 1)) = p at *;cases p
  ·go_wp2_with fail;go_ret;exact ⟨bf (by rw [HF.out]; rfl), HB3⟩
  ·go_wp2_with (first | (refine az (by rfl) (bi (c := x) rfl rfl ?_) ?_; (with_reducible exact HR3.out.range)) | fail);refine (ajY x w3).mono ?_;rintro e w4 ⟨rfl, hb⟩;have HB4 := ae (HB3.out.trans (hb.mono (Nat.le_of_lt HZ3)));clear hb;generalize uI x = q at *;go_wp2_with fail;go_ret;exact ⟨bf (by rw [HF.out]; rfl), HB4⟩
theorem zt (x : Sup) : gQ x = (decide (x.id ≠ 0) && (aW x.ros && decide (0 <= x.self /\ x.self < x.ros.m))) := by unfold gQ; rw [Bool.and_assoc]
theorem agh (x : Sup) (w : World) : Calls prog 146 #[sup x] w fun e w' => e = .returned (.bool (gQ x)) /\ Below w.heap.size w w' := by
 have HF := ae (zt x);obtain ⟨h1, h2, h3⟩ := pT w x;have HR := ae h1;have HB := ae h2;have HZ := ae h3;obtain ⟨c0, c1, c2, c3, c4, c5, c6⟩ := h1.cells;clear h1 h2 h3;go_enter func146, ntmps146;by_cases hid : x.id = 0
 ·rw [am (by simpa using hid)] at HF;have hd : ((x.id : Int) != 0) = false := by rw [hid]; rfl
  go_wp2_with (first | (refine aw rfl (jp rfl rfl) ?_) | fail);go_ret;exact ⟨bf (by rw [HF.out]; rfl), HB⟩
 ·rw [ao (by simpa using hid)] at HF;have hd : ((x.id : Int) != 0) = true := by simp; omega
  go_wp2_with (first | (refine aw rfl (jp rfl rfl) ?_) | (refine az (by rfl) (bi (c := x.ros) rfl rfl ?_) ?_; (with_reducible exact HR.out.agP)) | fail);generalize w.alloc (.cells (bD x).toArray 198) = w1 at *;clear c0 c1 c2 c3 c4 c5 c6;refine (afi x.ros w1).mono ?_;rintro e w2 ⟨rfl, hb⟩;obtain ⟨c0, c1, c2, c3, c4, c5, c6⟩ := (HR.out.below HZ hb).cells;have HB2 := ae (HB.out.trans (hb.mono (Nat.le_of_lt HZ)));clear hb HR HB HZ hd hid;generalize aW x.ros = p at *;generalize x.self = a at *;generalize x.ros.m = m at *;cases p
  ·go_wp2_with fail;go_ret;exact ⟨bf (by rw [HF.out]; rfl), HB2⟩
  ·by_cases ha : 0 <= a
   ·go_wp2;go_ret;exact ⟨bf (by rw [HF.out]; simp [ha]), HB2⟩
   ·have ha' : a < 0 := by omega
    go_wp2;go_ret;exact ⟨bf (by rw [HF.out]; simp; omega), HB2⟩
end Go.Proofs.YtlmdklakcmnaiaaGreatDoor
