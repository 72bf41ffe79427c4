import Derived.Test.YtehefifamaofkaaGreatDoorGnab
import Derived.Laws.CopyOwn
import Derived.IntWalk
import Derived.Laws.AppendOwnNone
namespace Go.Proofs.YtehefifamaofkaaGreatDoor
set_option maxHeartbeats 8000000
open Go.Proofs.Tryz
open Go.RowKit
set_option linter.unusedVariables false
set_option maxRecDepth 100000
section
variable {D : Dev} {w w' : World} {p : Nat} {v : Value} {Fs : Nat -> Nat -> Prop} {ps : List Nat} {M : aJ}
theorem zv (d n : Int) (h : bl (bS D) w p v Fs ps M) :
  Calls prog 81 #[.pointer (some ⟨p, 0, none⟩), .int .i64 d, .int .i64 n] w fun e w' => e = .returned (.tuple #[blk (dx M d n), .int .i64 (ce M d n)]) /\ Below w.heap.size w w' := by
 have hA := (Below.refl w.heap.size w).alloc ai (.cells (cel aA).toArray 29);have h1 := h.below hA;have HT := ae (eC w aA 29);have HA := ae hA;by_cases hl : df M d = 0
 ·rcases cO M d with ⟨e, _⟩ | ⟨e, _⟩ | ⟨e, hdk, k, rfl, hk⟩
  ·omega
  ·omega
  obtain ⟨x, hx⟩ : ∃ x, M.ds.getD k bD = x := ⟨_, rfl⟩;have hat := h1.devs.at_ k hk;rw [hx] at hat
  have HB : Hid (dx M (k : Int) n = dR x.S x.L x.g n) := ae (by unfold dx; rw [if_pos e, <- hx]; rfl);have HE : Hid (ce M (k : Int) n = co x.S x.g n) := ae (by unfold ce; rw [if_pos e, <- hx]; rfl);have HO := ae (gV h1 hdk hk);have HD := ae (D.read n hat);have HSZ := ae (World.size_alloc w (.cells (cel aA).toArray 29));clear e h h1 hat hx hdk hA hl;rw [HB.out, HE.out];clear HB HE;generalize dR x.S x.L x.g n = y at *;generalize co x.S x.g n = z at *;generalize ps.getD k 0 = q at *;go_enter func81, ntmps81;go_wp2_with (first | (refine av rfl (bJ rfl) ?_) | fail);refine HO.out.mono ?_;rintro e w1 ⟨rfl, rfl⟩;go_wp2_with fail;refine HD.out.mono ?_;rintro e w2 ⟨rfl, hb⟩;have HT2 := ae (bL HT (by rw [HSZ.out]; omega) hb);have HB2 := ae (HA.out.trans (hb.mono (by rw [HSZ.out]; omega)));clear hb;go_wp2_with (first | (refine a9 rfl (bv rfl rfl rfl HT2.out) ?_) | fail);exact bodyPost_ret (cE rfl _ _ _ rfl (World.rangeAt_setCells_same _ _ _ _ (by rw [aI]; exact HT2))) rfl ⟨rfl, below_setCells HB2 ai _⟩
 ·have HB : Hid (dx M d n = aA) := ae (by unfold dx; rw [if_neg hl]);have HE : Hid (ce M d n = df M d) := ae (by unfold ce; rw [if_neg hl]);have HO := ae (lr h1 hl);clear h h1 hA;rw [HB.out, HE.out];rcases cO M d with ⟨e, _⟩ | ⟨e, _⟩ | ⟨e, _⟩
  rotate_right 1
  ·exact absurd e hl
  all_goals
   rw [e] at HO ⊢;clear e hl;go_enter func81, ntmps81;go_wp2_with (first | (refine av rfl (bJ rfl) ?_) | fail);refine HO.out.mono ?_;rintro e w1 ⟨rfl, rfl⟩;go_wp2_with (first | (refine av rfl (cG (c := aA) (parts := []) rfl rfl) ?_) | (refine a9 rfl (bv rfl rfl rfl HT.out) ?_));exact bodyPost_ret (cE rfl _ _ _ rfl (World.rangeAt_setCells_same _ _ _ _ (by rw [aI]; exact HT))) rfl ⟨rfl, below_setCells HA ai _⟩
theorem pu (d : Int) (h : bl (bS D) w p v Fs ps M) (hl : eV M d ≠ 0) :
  Calls prog 15 #[.pointer (some ⟨p, 0, none⟩), .int .i64 d] w fun e w' => e = .returned (.int .i64 (f8 M d)) /\ Left (bS D) w p v Fs ps M.ds.length (ey M d) w' := by
 have HE : Hid (f8 M d = eV M d) := ae (by unfold f8; rw [if_neg hl]);have HL : Hid (∀ w', Below w.heap.size w w' -> Left (bS D) w p v Fs ps M.ds.length (ey M d) w') := ae (fun w' hb => by
  have e : ey M d = M := by unfold ey; rw [if_neg hl]
  rw [e];exact ⟨Fs, ps, h.below hb, Only.of_below _ hb, Grow.same _ _⟩)
 by_cases h0 : df M d = 0
 ·rcases cO M d with ⟨e, _⟩ | ⟨e, _⟩ | ⟨e, hdk, k, rfl, hk⟩
  ·omega
  ·omega
  obtain ⟨x, hx⟩ : ∃ x, M.ds.getD k bD = x := ⟨_, rfl⟩;have hat := h.devs.at_ k hk;rw [hx] at hat
  have hg : x.g = true := by
   cases hg : x.g
   ·exfalso; apply hl; unfold eV; rw [if_pos e, show M.dev (k : Int) = x from hx, hg, if_neg (by decide)]
   ·rfl
  have H9 : Hid (eV M (k : Int) = 9) := ae (by unfold eV; rw [if_pos e, show M.dev (k : Int) = x from hx, hg, if_pos rfl]);have HO := ae (gV h hdk hk);have HD := ae (D.dead hat);have HG := ae hg;clear e h hat hx hdk hl h0 hg;generalize ps.getD k 0 = q at *;go_enter func15, ntmps15;go_wp2_with fail;refine HO.out.mono ?_;rintro e w1 ⟨rfl, rfl⟩;go_wp2_with fail;refine HD.out.mono ?_;rintro e w2 ⟨rfl, hb⟩;rw [HG.out];have HBB := ae hb;clear hb;go_wp2_with fail;go_ret;exact ⟨bz (by rw [HE.out, H9.out]), HL.out _ HBB⟩
 ·have HA : Hid (eV M d = df M d) := ae (by unfold eV; rw [if_neg h0]);have HO := ae (lr h h0);clear h hl;rw [HE.out, HA.out];rcases cO M d with ⟨e, _⟩ | ⟨e, _⟩ | ⟨e, _⟩
  rotate_right 1
  ·exact absurd e h0
  all_goals
   rw [e] at HO ⊢;clear e h0;go_enter func15, ntmps15;go_wp2_with fail;refine HO.out.mono ?_;rintro e w1 ⟨rfl, rfl⟩;go_wp2_with fail;go_ret;exact ⟨rfl, HL.out _ aj⟩
theorem xC (d : Int) (h : bl (bS D) w p v Fs ps M) (hs : M.steps < 1000000) (hll : M.left < 9223372036854775808) :
  Calls prog 15 #[.pointer (some ⟨p, 0, none⟩), .int .i64 d] w fun e w' => e = .returned (.int .i64 (f8 M d)) /\ Left (bS D) w p v Fs ps M.ds.length (ey M d) w' := by
 by_cases hl : eV M d = 0;rotate_left 1
 ·exact pu d h hl
 have hlit : df M d = 0 := by
  unfold eV at hl;by_cases h0 : df M d = 0
  ·exact h0
  ·rw [if_neg h0] at hl; exact hl
 rcases cO M d with ⟨e, _⟩ | ⟨e, _⟩ | ⟨e, hdk, k, rfl, hk⟩
 ·omega
 ·omega
 obtain ⟨x, hx⟩ : ∃ x, M.ds.getD k bD = x := ⟨_, rfl⟩;have hat := h.devs.at_ k hk;rw [hx] at hat
 have hg : x.g = false := by
  cases hg : x.g
  ·rfl
  ·exfalso; unfold eV at hl; rw [if_pos e, show M.dev (k : Int) = x from hx, hg, if_pos rfl] at hl; omega
 have HEE : Hid (f8 M (k : Int) = M.db) := ae (by unfold f8; rw [if_pos hl]);have HO := ae (gV h hdk hk);have HD := ae (D.dead hat);have HG := ae hg;obtain ⟨q, hq⟩ : ∃ q, ps.getD k 0 = q := ⟨_, rfl⟩;rw [hq] at HO HD;by_cases h1 : M.left = 1
 ·have HE : Hid (M.db = 8) := ae (by unfold aJ.db; rw [if_pos h1]);have HS : Hid (ey M (k : Int) = M.night) := ae (by unfold ey; rw [if_pos hl, if_pos h1]);have HH := ae h;have H1 := ae h1;clear e h hat hx hdk hl hg h1 hlit hs hll hq;go_enter func15, ntmps15;go_wp2_with fail;refine HO.out.mono ?_;rintro e w1 ⟨rfl, rfl⟩;go_wp2_with fail;refine HD.out.mono ?_;rintro e w2 ⟨rfl, hb⟩;rw [HG.out];have HBB := ae hb;clear hb;go_wp2_with fail;refine (kN _ (HH.out.below HBB) H1).mono ?_;rintro e w3 ⟨rfl, h3, ho3⟩;go_wp2_with fail;go_ret;refine ⟨bz (by rw [HEE.out, HE.out]), ?_⟩;rw [HS.out];exact ⟨Fs, ps, h3, (Only.of_below _ HBB).trans (jF _ ho3) fun b hb => .inl hb, Grow.same _ _⟩
 ·have HE : Hid (M.db = 0) := ae (by unfold aJ.db; rw [if_neg h1]);have HS : Hid (ey M (k : Int) = M.done.put k ⟨flS x.S x.L, [], x.g⟩) := ae (by unfold ey; rw [if_pos hl, if_neg h1, show M.dev (k : Int) = x from hx]; rfl);have HH := ae h;have H1 := ae h1;have HX := ae hx;have HSS := ae hs;have HLL := ae hll;have HQ := ae hq;clear e h hat hx hdk hl hg h1 hlit hs hll hq;go_enter func15, ntmps15;go_wp2_with fail;refine HO.out.mono ?_;rintro e w1 ⟨rfl, rfl⟩;go_wp2_with fail;refine HD.out.mono ?_;rintro e w2 ⟨rfl, hb⟩;rw [HG.out];have HBB := ae hb;clear hb;go_wp2_with fail;refine (mh 52 #[.pointer (some ⟨q, 0, none⟩)] #[] (HH.out.below HBB) H1 HSS HLL call52 (fun z w3 => z = 0 /\ Left (bS D) w2 p v Fs ps M.ds.length (ey M (k : Int)) w3) ?_).mono ?_
  ·intro w3 h3 ho3;have hat3 := h3.devs.at_ k hk;rw [show M.done.ds.getD k bD = x from HX.out, HG.out, HQ.out] at hat3;refine (D.flush hat3).mono ?_;rintro e w4 ⟨he, F', g1, g2, g3⟩;refine ⟨0, by simpa using he, rfl, Left.behind ho3 (Left.turn h3 hk g2 g3 (d := ⟨flS x.S x.L, [], x.g⟩) (show D.Dv _ _ _ _ _ _ by rw [HG.out, HQ.out]; simpa using g1) HS)⟩
  ·rintro e w4 ⟨z, rfl, rfl, Fs', ps', h4, ho4, hg4⟩;go_wp2_with fail;go_ret;refine ⟨bz (by rw [HEE.out, HE.out]), Fs', ps', h4, (Only.of_below _ HBB).trans ho4 fun b hb => .inl hb, fun b hb => ?_⟩;rcases hg4 b hb with e | e
   ·exact .inl e
   ·exact .inr (ap HBB.out.size e)
end
section
variable {D : Dev} {w w' : World} {p : Nat} {v : Value} {Fs : Nat -> Nat -> Prop} {ps : List Nat} {M : aJ}
def wr3 (w : World) (n : Int) (b : Blk) (q : Option Addr) : World := ((w.alloc (.cells #[.int .i64 n] 3)).alloc (.cells (cel b).toArray 29)).alloc (.cells #[.pointer q] 84)
theorem jK (w : World) (n : Int) (b : Blk) (q : Option Addr) : Below w.heap.size w (wr3 w n b q) /\ (wr3 w n b q).heap[w.heap.size]? = some (.cells #[.int .i64 n] 3) /\ (wr3 w n b q).heap[w.heap.size + 1]? = some (.cells (cel b).toArray 29) /\ (wr3 w n b q).heap[w.heap.size + 1 + 1]? = some (.cells #[.pointer q] 84) /\ (wr3 w n b q).heap.size = w.heap.size + 1 + 1 + 1 := by
 unfold wr3;have e1 := World.size_alloc (w := w) (o := .cells #[.int .i64 n] 3);have e2 := World.size_alloc (w := w.alloc (.cells #[.int .i64 n] 3)) (o := .cells (cel b).toArray 29);have e3 := World.size_alloc (w := (w.alloc (.cells #[.int .i64 n] 3)).alloc (.cells (cel b).toArray 29)) (o := .cells #[.pointer q] 84);have n1 := ka w #[.int .i64 n] 3;have n2 := ka (w.alloc (.cells #[.int .i64 n] 3)) (cel b).toArray 29;have n3 := ka ((w.alloc (.cells #[.int .i64 n] 3)).alloc (.cells (cel b).toArray 29)) #[.pointer q] 84;rw [e2, e1] at n3;rw [e1] at n2;refine ⟨(((Below.refl _ w).alloc ai _).alloc (by omega) _).alloc (by omega) _, bq (bq n1 _) _, bq n2 _, n3, by omega⟩
theorem aat {q a b c : Nat} {n : Int} {x : Blk} {F : Nat -> Prop} {S : List Blk} {L : List (Int × Blk)} {g : Bool} (h : D.Dv w F q S L g) (hL : L.length < 1000000) (hq : w.heap[a]? = some (.cells #[.pointer (some ⟨q, 0, none⟩)] 84)) (hn : w.heap[b]? = some (.cells #[.int .i64 n] 3)) (hx : w.heap[c]? = some (.cells (cel x).toArray 29)) :
  Calls prog 40 #[.pointer (some ⟨a, 0, none⟩), .pointer (some ⟨b, 0, none⟩), .pointer (some ⟨c, 0, none⟩)] w fun e w' => e = .returned (.int .i64 (co S g n)) /\ ∃ F', D.Dv w' F' q S (wrL S L g n x) g /\ Only F w w' /\ Grow w F F' := by
 obtain ⟨c1, f1⟩ := one_cell hq;obtain ⟨c2, f2⟩ := one_cell hn;have HR := ae (f9 hx);have HD := ae (D.write n x hL h);clear h hq hn hx;go_enter func40, ntmps40;go_wp2_with (first | (refine av rfl (bm rfl rfl HR) ?_) | fail);refine HD.out.mono ?_;rintro e w4 ⟨rfl, F', g1, g2, g3⟩;go_wp2_with fail;go_ret;exact ⟨rfl, F', g1, g2, g3⟩
theorem nG (d n : Int) (x : Blk) (h : bl (bS D) w p v Fs ps M) (h0 : df M d ≠ 0) :
  Calls prog 9 #[.pointer (some ⟨p, 0, none⟩), .int .i64 d, .int .i64 n, blk x] w fun e w' => e = .returned (.int .i64 (df M d)) /\ Below w.heap.size w w' := by
 have hA : Below w.heap.size w ((w.alloc (.cells #[.int .i64 n] 3)).alloc (.cells (cel x).toArray 29)) := ((Below.refl _ w).alloc ai _).alloc (by rw [World.size_alloc]; omega) _;have HO := ae (lr (h.below hA) h0);have HF := ae (jK w n x none).1;clear h hA;rcases cO M d with ⟨e, _⟩ | ⟨e, _⟩ | ⟨e, _⟩
 rotate_right 1
 ·exact absurd e h0
 all_goals
  rw [e] at HO ⊢;clear e h0;go_enter func9, ntmps9;go_wp2_with (first | (refine av rfl (bV rfl rfl) ?_) | fail);refine HO.out.mono ?_;rintro e w1 ⟨rfl, rfl⟩;go_wp2_with fail;go_ret;exact ⟨rfl, HF⟩
end
section
variable {D : Dev} {w w' : World} {p : Nat} {v : Value} {Fs : Nat -> Nat -> Prop} {ps : List Nat} {M : aJ}
theorem nP (n : Int) (x : Blk) (h : bl (bS D) w p v Fs ps M) {k : Nat} (hdk : M.bH = false) (hk : k < M.ds.length) (he : co (M.ds.getD k bD).S (M.ds.getD k bD).g n ≠ 0) :
  Calls prog 9 #[.pointer (some ⟨p, 0, none⟩), .int .i64 k, .int .i64 n, blk x] w fun e w' => e = .returned (.int .i64 (co (M.ds.getD k bD).S (M.ds.getD k bD).g n)) /\ Below w.heap.size w w' := by
 obtain ⟨y, hy⟩ : ∃ y, M.ds.getD k bD = y := ⟨_, rfl⟩;obtain ⟨q, hq⟩ : ∃ q, ps.getD k 0 = q := ⟨_, rfl⟩;have hA : Below w.heap.size w ((w.alloc (.cells #[.int .i64 n] 3)).alloc (.cells (cel x).toArray 29)) := ((Below.refl _ w).alloc ai _).alloc (by rw [World.size_alloc]; omega) _;have HO := ae (gV (h.below hA) hdk hk);obtain ⟨hB, k0, k1, k2, hsz⟩ := jK w n x (some ⟨q, 0, none⟩);have hat := (h.below hB).devs.at_ k hk;rw [hy, hq] at hat
 rw [hy] at he ⊢;rw [hq] at HO;have HD := ae (D.sure n hat);have HB := ae hB;obtain ⟨c0, f0⟩ := one_cell k0;obtain ⟨c2, f2⟩ := one_cell k2;rcases dW (S := y.S) (g := y.g) (n := n) with e | e | ⟨e, _⟩
 rotate_right 1
 ·exact absurd e he
 all_goals
  rw [e] at HD ⊢;clear e he h hA hB k0 k1 k2 hat hy hq hdk;go_enter func9, ntmps9;unfold wr3 at *;go_wp2_with (first | (refine av rfl (bV rfl rfl) ?_) | fail);refine HO.out.mono ?_;rintro e w1 ⟨rfl, rfl⟩;go_wp2_with fail;refine HD.out.mono ?_;rintro e w2 ⟨rfl, hb⟩;have HBB := ae (HB.out.trans (hb.mono (by rw [hsz]; omega)));clear hb;go_wp2_with (first | (refine av rfl (bJ rfl) ?_) | (refine a9 rfl (iq rfl rfl rfl) ?_) | fail);go_ret;exact ⟨rfl, HBB.out.alloc HBB.out.size _⟩
theorem pC (n : Int) (x : Blk) (h : bl (bS D) w p v Fs ps M) {k : Nat} (hdk : M.bH = false) (hk : k < M.ds.length) (he : co (M.ds.getD k bD).S (M.ds.getD k bD).g n = 0) (hs : M.steps < 1000000) (hll : M.left < 9223372036854775808) (hL : (M.ds.getD k bD).L.length < 1000000) :
  Calls prog 9 #[.pointer (some ⟨p, 0, none⟩), .int .i64 k, .int .i64 n, blk x] w fun e w' => e = .returned (.int .i64 M.db) /\ Left (bS D) w p v Fs ps M.ds.length (dz M (k : Int) n x) w' := by
 obtain ⟨y, hy⟩ : ∃ y, M.ds.getD k bD = y := ⟨_, rfl⟩;obtain ⟨q, hq⟩ : ∃ q, ps.getD k 0 = q := ⟨_, rfl⟩;have hA : Below w.heap.size w ((w.alloc (.cells #[.int .i64 n] 3)).alloc (.cells (cel x).toArray 29)) := ((Below.refl _ w).alloc ai _).alloc (by rw [World.size_alloc]; omega) _;have HO := ae (gV (h.below hA) hdk hk);obtain ⟨hB, k0, k1, k2, hsz⟩ := jK w n x (some ⟨q, 0, none⟩);have hat := (h.below hB).devs.at_ k hk;have hr0 : ce M (k : Int) n = 0 := by unfold ce; rw [if_pos (iu hdk hk), M.gB]; exact he
 rw [hy, hq] at hat
 rw [hy] at he hL;rw [hq] at HO;have HD := ae (D.sure n hat);have HB := ae hB;have HH := ae h;have HK0 := ae k0;have HK1 := ae k1;have HK2 := ae k2;have HE := ae he;have HSS := ae hs;have HLL := ae hll;have HL := ae hL;have HY := ae hy;have HQ := ae hq;have HR := ae hr0;obtain ⟨c0, f0⟩ := one_cell k0;obtain ⟨c2, f2⟩ := one_cell k2;rw [he] at HD;by_cases h1 : M.left = 1
 all_goals
  have H1 := ae h1;clear h1 he h hA hB k0 k1 k2 hat hy hq hdk hs hll hL hr0;go_enter func9, ntmps9;unfold wr3 at *;go_wp2_with (first | (refine av rfl (bV rfl rfl) ?_) | fail);refine HO.out.mono ?_;rintro e w1 ⟨rfl, rfl⟩;go_wp2_with fail;refine HD.out.mono ?_;rintro e w2 ⟨rfl, hb⟩;have hb2 := HB.out.trans (hb.mono (by rw [hsz]; omega));have HBB := ae (hb2.alloc hb2.size (.cells (cel (gU y.S y.g n)).toArray 29));have HA0 := ae (bq (aC HK0 hb) (.cells (cel (gU y.S y.g n)).toArray 29));have HA1 := ae (bq (aC HK1 hb) (.cells (cel (gU y.S y.g n)).toArray 29));have HA2 := ae (bq (aC HK2 hb) (.cells (cel (gU y.S y.g n)).toArray 29));clear hb hb2 c0 c2 f0 f2 hsz;generalize gU y.S y.g n = z at *;go_wp2_with (first | (refine av rfl (bJ rfl) ?_) | (refine a9 rfl (iq rfl rfl rfl) ?_) | fail);generalize w2.alloc (.cells (cel z).toArray 29) = w3 at *
 ·refine (kN _ (HH.out.below HBB) H1).mono ?_;rintro e w4 ⟨rfl, h4, ho4⟩;go_wp2_with fail;go_ret;refine ⟨bz (by unfold aJ.db; rw [if_pos H1.out]), ?_⟩;rw [show dz M (k : Int) n x = M.night from by unfold dz; rw [if_pos HR.out, if_pos H1.out]];exact Left.above HBB (Left.obj h4 ho4 rfl)
 ·refine (mh 40 #[] _ (HH.out.below HBB) H1 HSS HLL call40 (fun z w4 => z = 0 /\ Left (bS D) w3 p v Fs ps M.ds.length (dz M (k : Int) n x) w4) ?_).mono ?_
  ·intro w4 h4 ho4;have hat4 := h4.devs.at_ k hk;rw [show M.done.ds.getD k bD = y from HY.out, HQ.out] at hat4;have hne : ∀ j, j < 3 -> w.heap.size + j ≠ p := fun j _ e => by have := aX HH.out.at_; omega
   refine (aat hat4 HL (ho4.keep HA2 (hne 2 (by omega))) (ho4.keep HA0 (hne 0 (by omega))) (ho4.keep HA1 (hne 1 (by omega)))).mono ?_;rintro e w5 ⟨he5, F', g1, g2, g3⟩;refine ⟨_, he5, HE, Left.behind ho4 (Left.turn h4 hk g2 g3 (d := ⟨y.S, wrL y.S y.L y.g n x, y.g⟩) (show D.Dv _ _ _ _ _ _ by rw [HQ.out]; exact g1) ?_)⟩;unfold dz;rw [if_pos HR.out, if_neg H1.out, show M.dev (k : Int) = y from HY.out]
   rfl
  ·rintro e w5 ⟨z, rfl, rfl, hl5⟩;have HL5 := ae (Left.above HBB hl5);clear hl5;go_wp2_with fail;go_ret;exact ⟨bz (by unfold aJ.db; rw [if_neg H1.out]), HL5⟩
theorem wW (d n : Int) (x : Blk) (h : bl (bS D) w p v Fs ps M) (hr : ∀ i, i < M.ds.length -> (M.ds.getD i bD).L.length < 1000000) (hs : M.steps < 1000000) (hll : M.left < 9223372036854775808) :
  Calls prog 9 #[.pointer (some ⟨p, 0, none⟩), .int .i64 d, .int .i64 n, blk x] w fun e w' => e = .returned (.int .i64 (iB M d n)) /\ Left (bS D) w p v Fs ps M.ds.length (dz M d n x) w' := by
 by_cases h0 : df M d = 0
 ·rcases cO M d with ⟨e, _⟩ | ⟨e, _⟩ | ⟨e, hdk, k, rfl, hk⟩
  ·omega
  ·omega
  have hr0 : ce M (k : Int) n = co (M.ds.getD k bD).S (M.ds.getD k bD).g n := by unfold ce; rw [if_pos e, M.gB]
  by_cases he : co (M.ds.getD k bD).S (M.ds.getD k bD).g n = 0
  ·refine (pC n x h hdk hk he hs hll (hr k hk)).mono ?_;rintro e w' ⟨rfl, hl⟩;exact ⟨by unfold iB; rw [hr0, if_pos he], hl⟩
  ·refine (nP n x h hdk hk he).mono ?_;rintro e w' ⟨rfl, hb⟩;exact ⟨by unfold iB; rw [hr0, if_neg he], Left.pQ h hb (by unfold dz; rw [hr0, if_neg he])⟩
 ·refine (nG d n x h h0).mono ?_;rintro e w' ⟨rfl, hb⟩;have hr0 : ce M d n = df M d := by unfold ce; rw [if_neg h0]
  exact ⟨by unfold iB; rw [hr0, if_neg h0], Left.pQ h hb (by unfold dz; rw [hr0, if_neg h0])⟩
end
def kJ (k : Int) : gI := ⟨List.replicate k.toNat aA, [], false⟩
theorem ft (ks : List Int) : (b9 ks).ds = ks.map kJ := rfl
structure Making (kd : eZ) (w wr : World) (v : Value) (Fs : Nat -> Nat -> Prop) (ps : List Nat) (ds : List gI) (left : Nat) (bH : Bool) (steps : Nat) : Prop where
 at_ : wr.heap[w.heap.size]? = some (.cells (kd.cs v left bH steps) kd.o)
 row : aY kd.E wr w.heap.size v ps
 devs : iF kd.K wr Fs ps ds
 apart : ∀ i, i < ds.length -> ∀ b, Fs i b -> w.heap.size < b /\ v.ownBlock ≠ some b
 below : Below w.heap.size w wr
section
variable {kd : eZ} {w wr w1 w3 : World} {v v' : Value} {Fs : Nat -> Nat -> Prop} {F' : Nat -> Prop} {ps : List Nat} {ds : List gI} {p' : Nat} {d : gI} {o2 : Obj} {left steps : Nat} {bH : Bool}
theorem Making.next (hcs : ∀ v v', (kd.cs v left bH steps).setIfInBounds 0 v' = kd.cs v' left bH steps) (h : Making kd w wr v Fs ps ds left bH steps) (hb1 : Below wr.heap.size wr w1) (hF : ∀ b, F' b -> wr.heap.size <= b) (hd : kd.K.Dv w1 F' p' d.S d.L d.g)
  (hm : aY kd.E w3 w.heap.size v' (ps ++ [p'])) (hg : (w1.alloc o2).grownBy w3 v.ownBlock) (ho : ∀ x, v'.ownBlock = some x -> v.ownBlock = some x \/ w1.heap.size + 1 <= x) :
  Making kd w (w3.setCell ⟨w.heap.size, 0, none⟩ v') v' (upF Fs ds.length F') (ps ++ [p']) (ds ++ [d]) left bH steps := by
 have hx := aX h.at_;have h1 := hb1.size;have hsz : (w1.alloc o2).heap.size = w1.heap.size + 1 := World.size_alloc _ _;have hvl : ∀ b, v.ownBlock = some b -> b < wr.heap.size := h.row.iM;have o3 : Only (fun b => v.ownBlock = some b) w1 w3 := (Only.of_below _ ((Below.refl _ w1).alloc ai o2)).trans ((Only.refl (fun b => v.ownBlock = some b) _).grown hg fun k e => .inl e) fun b hb => .inl hb
 have hvx : v.ownBlock ≠ some w.heap.size := h.row.c8 h.at_ kd.ne;have hat1 := aC h.at_ hb1;have hat3 := o3.keep hat1 hvx;have o4 : Only (fun b => b = w.heap.size \/ v.ownBlock = some b) w1 (w3.setCell ⟨w.heap.size, 0, none⟩ v') := (o3.widen fun b hb => .inr hb).setCell (p := ⟨w.heap.size, 0, none⟩) (.inl (.inl rfl)) _;have hv3 : v'.ownBlock ≠ some w.heap.size := hm.c8 hat3 kd.ne;have hdv := h.devs.push hb1 hF hd;have hap : ∀ i, i < (ds ++ [d]).length -> ∀ b, upF Fs ds.length F' i b -> w.heap.size < b /\ v.ownBlock ≠ some b /\ b < w1.heap.size := fun i hi b hb => by
  have hlt := hdv.lt i hi b hb;rcases hb with ⟨e, hb⟩ | ⟨e, hb⟩
  ·have := hF b hb;exact ⟨by omega, fun e => by have := hvl b e; omega, hlt⟩
  ·rw [List.length_append, List.length_singleton] at hi;exact ⟨(h.apart i (by omega) b hb).1, (h.apart i (by omega) b hb).2, hlt⟩
 refine ⟨?_, hm.only (cH w3 w.heap.size 0 v') fun b hb e => hv3 (by rw [hb, e]), hdv.only o4 fun i hi b hb e => ?_, fun i hi b hb => ⟨(hap i hi b hb).1, fun e => ?_⟩, ?_⟩
 ·have := heap_setCell_same w3 w.heap.size 0 _ _ v' hat3;rw [hcs] at this;exact this
 ·rcases e with e | e
  ·have := (hap i hi b hb).1; omega
  ·exact (hap i hi b hb).2.1 e
 ·rcases ho b e with e | e
  ·exact (hap i hi b hb).2.1 e
  ·have := (hap i hi b hb).2.2; omega
 ·have hb01 : Below w.heap.size w w1 := h.below.trans (hb1.mono h.below.size);refine hb01.trans (o4.below (fun b hb => ?_) hb01.size);rcases hb with e | e
  ·omega
  ·exact h.row.jH b e
theorem Making.done (h : Making kd w wr v Fs ps ds left bH steps) (h1 : 1 <= ds.length) (h2 : ds.length <= 17) : bl kd wr w.heap.size v Fs ps ⟨ds, left, bH, steps⟩ /\ (∀ b, fz w.heap.size v Fs ds.length b -> w.heap.size <= b) /\ Below w.heap.size w wr :=
 ⟨⟨h.at_, h.row.base (Nat.zero_le _), h.devs, fun i hi b hb => ⟨by have := (h.apart i hi b hb).1; omega, (h.apart i hi b hb).2⟩, h1, h2⟩, fun b hb => by
  rcases hb with e | e | ⟨i, hi, e⟩
  ·omega
  ·exact h.row.jH b e
  ·have := (h.apart i hi b e).1; omega, h.below⟩
end
def dX (kd : eZ) (w : World) (ks : List Int) (e : Ending) (w' : World) : Prop :=
 Below w.heap.size w w' /\ ((fS ks /\ ∃ p v Fs ps, e = .returned (.tuple #[.pointer (some ⟨p, 0, none⟩), .int .i64 0]) /\ bl kd w' p v Fs ps (b9 ks) /\ ∀ b, fz p v Fs (b9 ks).ds.length b -> w.heap.size <= b) \/ (¬ fS ks /\ e = .returned (.tuple #[.pointer none, .int .i64 2])))
theorem dX.no {kd : eZ} {w w' : World} {ks : List Int} (hb : Below w.heap.size w w') (hn : ¬ fS ks) {e : Ending} (he : e = .returned (.tuple #[.pointer none, .int .i64 2])) : dX kd w ks e w' := ⟨hb, .inr ⟨hn, he⟩⟩
theorem iH {ks : List Int} {j : Nat} (h : j < ks.length) : (ks.take (j + 1)).map kJ = (ks.take j).map kJ ++ [kJ (ks.getD j 0)] := by
 rw [List.take_add_one, List.getD, List.getElem?_eq_getElem h, List.map_append]; rfl
section
variable {D : Dev} {w w' : World}
theorem aab {A : Option Addr} {n c : Nat} {ks : List Int} (hl : RdE hZ w w.heap.size A n ks) (hnc : n <= c) (hc : c <= maxLen) :
  Calls prog 34 #[.slice A n c] w (dX (bS D) w ks) := by
 have hlen : ks.length = n := hl.1;unfold maxLen at hc;by_cases h1 : n < 1
 ·have HN := ae (show ¬ fS ks from fun h => by have := h.1; omega);have h0 : n = 0 := by omega
  subst h0;clear hl hlen h1;go_enter func34, ntmps34;go_wp2;go_ret2;exact dX.no aj HN rfl
 by_cases h2 : 17 < n
 ·have HN := ae (show ¬ fS ks from fun h => by have := h.2.1; omega);have h1' : ¬((n : Int) < 1) := by omega
  have h2' : ((n : Int) > 17) := by omega
  clear hl hlen h1 h2;go_enter func34, ntmps34;go_wp2;go_ret2;exact dX.no aj HN rfl
 have h1' : ¬((n : Int) < 1) := by omega
 have h2' : ¬((n : Int) > 17) := by omega
 have h3' : ¬(17 < (n : Int)) := by omega
 have HL := ae hl;have HLEN := ae hlen;have HMK := ae (show Making (bS D) w (w.alloc (.cells #[.slice none 0 0, .int .i64 0, .int .i64 0, .bool false] 75)) (.slice none 0 0) (fun _ _ => False) [] [] 0 false 0 from
  ⟨heap_alloc_new w _, aY.nil _ _, ⟨rfl, fun i hi => absurd hi (Nat.not_lt_zero i), fun i j hi => absurd hi (Nat.not_lt_zero i)⟩, fun i hi => absurd hi (Nat.not_lt_zero i), (Below.refl _ w).alloc ai _⟩)
 clear hl hlen;go_enter func34, ntmps34;go_wp2_with fail;generalize w.alloc (.cells #[.slice none 0 0, .int .i64 0, .int .i64 0, .bool false] 75) = w0 at *;clear h1' h2' h3'
 go_loopw [21] (fun i wr => ∃ (j : Nat) (v : Value) (Fs : Nat -> Nat -> Prop) (ps : List Nat), j <= n /\ i = .int .i64 j /\ Making (bS D) w wr v Fs ps ((ks.take j).map kJ) 0 false 0 /\ ∀ q, q < j -> 1 <= ks.getD q 0 /\ ks.getD q 0 <= 512) (fun i _ => n - (intOf i).toNat)
 case atStart => exact ⟨0, _, _, _, Nat.zero_le _, rfl, HMK, fun q hq => absurd hq (Nat.not_lt_zero q)⟩
 case round =>
  obtain ⟨j, v, Fs, ps, hj, rfl, hmk, hall⟩ := hrel;have HALL := ae hall;clear hall HMK;by_cases hlt : j < n
  ·have hlj : (j : Int) < (n : Int) := by omega
   obtain ⟨bA, oA, rfl, hbA, hcA⟩ := (HL.out.below hmk.below).int hlt;have HM := ae hmk;obtain ⟨AS, cS, rfl, hs1, hs2⟩ := hmk.row.form;unfold maxLen at hs2;have hpl : ps.length = j := by have := hmk.devs.len; rw [List.length_map, List.length_take] at this; have := HLEN.out; omega
   have HPL := ae hpl;obtain ⟨z, hz⟩ : ∃ z, ks.getD j 0 = z := ⟨_, rfl⟩;rw [hz] at hcA;have HZ := ae hz;clear hmk hz hpl;by_cases hok : 1 <= z /\ z <= 512
   ·obtain ⟨k, rfl⟩ : ∃ k : Nat, z = k := ⟨z.toNat, by omega⟩;have hk1 : 1 <= k := by omega
    have hk2 : k <= 512 := by omega
    clear hok;go_wp2_with fail;refine (D.new_ok k wr hk1 hk2).mono ?_;rintro e w1 ⟨p', F', rfl, hd1, hb1, hF1⟩;have hat1 := aC HM.out.at_ hb1;obtain ⟨c0, c1, c2, c3⟩ := dm hat1;have hrow1 := HM.out.row.below hb1;have hrow2 := hrow1.below ((Below.refl _ w1).alloc ai (.cells ((bS D).E.cel p').toArray (bS D).E.t));have HR := ae hrow2;have HNEW := ae (gD (E := (bS D).E) (l := [p']) w1 ((bS D).E.cel p').toArray (bS D).E.t (by rw [dC]; simp [ci]));have HSZ := ae (show w.heap.size <= (w1.alloc (.cells ((bS D).E.cel p').toArray (bS D).E.t)).heap.size by rw [World.size_alloc]; have := HM.out.below.size; have := hb1.size; omega);have HD1 := ae hd1;have HB1 := ae hb1;have HF1 := ae hF1;have HAT := ae hat1;have HPS := ae (show ps.length + 1 <= 34359738368 by have := HPL.out; omega);clear hd1 hb1 hF1 hat1 hrow1 hrow2;have hal : w.heap.size < w1.heap.size := aX HAT;go_wp2_with (first | (refine av rfl (eF (E := (bS D).E) (a := p') rfl rfl rfl (by decide)) ?_) | (at_builtin; refine gF (bS D).E rfl _ _ rfl w.heap.size _ _ _ _ ps [p'] _ rfl rfl HR HNEW HSZ HPS ?_) | fail);intro v' w3 hm3 hg3 ho3;have hxv : v'.ownBlock ≠ some w.heap.size := fun e => by
     rcases ho3 _ e with e' | e'
     ·exact HM.out.row.c8 HM.out.at_ (bS D).ne e'
     ·omega
    have HNX := ae (HM.out.next (fun _ _ => rfl) HB1 HF1 (d := kJ k) HD1 hm3 hg3 ho3);have hvx : (Value.slice AS ps.length cS).ownBlock ≠ some w.heap.size := HM.out.row.c8 HM.out.at_ (bS D).ne;have hat3 : w3.heap[w.heap.size]? = some _ := (hg3.block w.heap.size (by rw [World.size_alloc]; omega) (fun e => hvx e.symm)).trans (bq HAT _);obtain ⟨AV, cV, rfl, _, _⟩ := hm3.form;obtain ⟨d0, d1, d2, d3⟩ := dm hat3;have f0 := frozen_of_row w3 w.heap.size 0 _ _ hat3;clear hm3 hg3 ho3 hat3 c0 c1 c2 c3;go_wp2_with fail;go_roundw
    case rel =>
     refine ⟨j + 1, .slice AV (ps.length + 1) cV, upF Fs (List.map kJ (List.take j ks)).length F', ps ++ [p'], by omega, by go_num, ?_, fun q hq => ?_⟩
     ·rw [iH (by have := HLEN.out; omega), HZ.out];have h6 := HNX.out;rw [show (ps ++ [p']).length = ps.length + 1 from by simp] at h6;exact h6
     ·by_cases e : q = j
      ·subst e; rw [HZ.out]; omega
      ·exact HALL.out q (by omega)
    case measure => simp [intOf]; omega
   ·have HB := ae HM.out.below;have HN := ae (show ¬ fS ks from fun h => hok (by have := h.2.2 z (by rw [<- HZ.out]; exact ib (by have := HLEN.out; omega)); exact this));go_wp2_with fail;refine (D.new_no z wr hok).mono ?_;rintro e w1 ⟨rfl, hb1⟩;have HB1 := ae (HB.out.trans (hb1.mono HB.out.size));clear hb1 hok;go_wp2_with fail;go_ret2;exact dX.no HB1 HN rfl
  ·have hjn : j = n := by omega
   subst hjn;have hlj : ¬((j : Int) < (j : Int)) := by omega
   have HM := ae hmk;clear hmk;go_wp2_with fail;go_ret2;have h5 := HM.out;have hLL := HLEN.out;rw [<- hLL, List.take_length] at h5;obtain ⟨g1, g2, g3⟩ := h5.done (by rw [List.length_map]; omega) (by rw [List.length_map]; omega);refine ⟨g3, .inl ⟨⟨by omega, by omega, fun k hk => ?_⟩, _, _, _, _, rfl, g1, g2⟩⟩;obtain ⟨i, hi, rfl⟩ := List.getElem_of_mem hk;have := HALL.out i (by omega);rwa [List.getD_eq_getElem?_getD, List.getElem?_eq_getElem hi] at this
end
structure vu where
 read : FuncId
 write : FuncId
 flush : FuncId
 fail : FuncId
 arm : FuncId
 devices : FuncId
 dV : FuncId
 bH : FuncId
structure aJ.Wf (M : aJ) : Prop where
 one : 1 <= M.ds.length
 cap : M.ds.length <= 17
 len : ∀ i, i < M.ds.length -> 1 <= (M.ds.getD i bD).S.length /\ (M.ds.getD i bD).S.length <= 512
structure Ben (I : vu) where
 Bn : World -> (Nat -> Prop) -> Nat -> aJ -> Prop
 lt : ∀ {w F p M}, Bn w F p M -> ∀ b, F b -> b < w.heap.size
 only : ∀ {w w' F G p M}, Bn w F p M -> Only G w w' -> (∀ b, F b -> ¬ G b) -> Bn w' F p M
 wf : ∀ {w F p M}, Bn w F p M -> M.Wf
 read : ∀ {w F p M} (d n : Int), Bn w F p M -> Calls prog I.read #[.pointer (some ⟨p, 0, none⟩), .int .i64 d, .int .i64 n] w fun e w' => e = .returned (.tuple #[blk (dx M d n), .int .i64 (ce M d n)]) /\ Below w.heap.size w w'
 write : ∀ {w F p M} (d n : Int) (b : Blk), Room M 1 -> Bn w F p M -> Calls prog I.write #[.pointer (some ⟨p, 0, none⟩), .int .i64 d, .int .i64 n, blk b] w fun e w' => e = .returned (.int .i64 (iB M d n)) /\ ∃ F', Bn w' F' p (dz M d n b) /\ Only F w w' /\ Grow w F F'
 flush : ∀ {w F p M} (d : Int), Room M 1 -> Bn w F p M -> Calls prog I.flush #[.pointer (some ⟨p, 0, none⟩), .int .i64 d] w fun e w' => e = .returned (.int .i64 (f8 M d)) /\ ∃ F', Bn w' F' p (ey M d) /\ Only F w w' /\ Grow w F F'
 fail : ∀ {w F p M} (d : Int), Bn w F p M -> Calls prog I.fail #[.pointer (some ⟨p, 0, none⟩), .int .i64 d] w fun e w' => e = .returned (.int .i64 (kf M d)) /\ ∃ F', Bn w' F' p (fZ M d) /\ Only F w w' /\ Grow w F F'
 arm : ∀ {w F p M} (n : Int), Bn w F p M -> Calls prog I.arm #[.pointer (some ⟨p, 0, none⟩), .int .i64 n] w fun e w' => e = .returned (.int .i64 (iD M n)) /\ ∃ F', Bn w' F' p (gj M n) /\ Only F w w' /\ Grow w F F'
 devices : ∀ {w F p M}, Bn w F p M -> Calls prog I.devices #[.pointer (some ⟨p, 0, none⟩)] w fun e w' => e = .returned (.int .i64 (M.ds.length : Int)) /\ Below w.heap.size w w'
 dV : ∀ {w F p M} (d : Int), Bn w F p M -> Calls prog I.dV #[.pointer (some ⟨p, 0, none⟩), .int .i64 d] w fun e w' => e = .returned (.int .i64 (dv M d)) /\ Below w.heap.size w w'
 bH : ∀ {w F p M}, Bn w F p M -> Calls prog I.bH #[.pointer (some ⟨p, 0, none⟩)] w fun e w' => e = .returned (.bool M.bH) /\ Below w.heap.size w w'
theorem Ben.below {I : vu} (R : Ben I) {w w' : World} {F : Nat -> Prop} {p : Nat} {M : aJ} (h : R.Bn w F p M) (k : Below w.heap.size w w') : R.Bn w' F p M := R.only h (Only.of_below (fun _ => False) k) fun _ _ e => e
section
variable {k : eZ} {w w' : World} {F G : Nat -> Prop} {p : Nat} {M M' : aJ}
def zr (Bn : World -> (Nat -> Prop) -> Nat -> aJ -> Prop) (w : World) (ks : List Int) (e : Ending) (w' : World) : Prop :=
 Below w.heap.size w w' /\ ((fS ks /\ ∃ p F, e = .returned (.tuple #[.pointer (some ⟨p, 0, none⟩), .int .i64 0]) /\ Bn w' F p (b9 ks) /\ ∀ b, F b -> w.heap.size <= b) \/ (¬ fS ks /\ e = .returned (.tuple #[.pointer none, .int .i64 2])))
def At {I : vu} (R : Ben I) (w0 : World) (B : Nat) (w : World) (p : Nat) (M : aJ) : Prop := ∃ F, R.Bn w F p M /\ (∀ b, F b -> B <= b) /\ Below B w0 w /\ B <= w0.heap.size
def InB (k : eZ) (w : World) (F : Nat -> Prop) (p : Nat) (M : aJ) : Prop := ∃ v Fs ps, F = fz p v Fs M.ds.length /\ bl k w p v Fs ps M
theorem InB.lt (h : InB k w F p M) : ∀ b, F b -> b < w.heap.size := by
 obtain ⟨v, Fs, ps, rfl, h⟩ := h;exact h.lt
theorem InB.only (h : InB k w F p M) (ho : Only G w w') (hn : ∀ b, F b -> ¬ G b) : InB k w' F p M := by
 obtain ⟨v, Fs, ps, rfl, h⟩ := h;exact ⟨v, Fs, ps, rfl, h.only ho hn⟩
theorem Left.out {v : Value} {Fs : Nat -> Nat -> Prop} {ps : List Nat} (h : Left k w p v Fs ps M.ds.length M' w') : ∃ F', InB k w' F' p M' /\ Only (fz p v Fs M.ds.length) w w' /\ Grow w (fz p v Fs M.ds.length) F' := by
 obtain ⟨Fs', ps', h1, h2, h3⟩ := h;exact ⟨_, ⟨v, Fs', ps', rfl, h1⟩, h2, h3⟩
end
def aak : vu where
 read := 81
 write := 9
 flush := 15
 fail := 11
 arm := 13
 devices := 25
 dV := 94
 bH := 78
theorem Dev.aal {D : Dev} {w : World} {p : Nat} {v : Value} {Fs : Nat -> Nat -> Prop} {ps : List Nat} {M : aJ} (h : bl (bS D) w p v Fs ps M) : M.Wf :=
 ⟨h.one, h.cap, fun i hi => ⟨(D.fit (h.devs.at_ i hi)).2, D.cap (h.devs.at_ i hi)⟩⟩
def aaC (D : Dev) : Ben aak where
 Bn := InB (bS D)
 lt := InB.lt
 only := InB.only
 wf := fun ⟨_, _, _, _, h⟩ => D.aal h
 read := fun d n ⟨_, _, _, _, h⟩ => zv d n h
 write := fun d n b hr ⟨_, _, _, e, h⟩ => by
  subst e;exact (wW d n b h (fun i hi => hr.at_ hi) (by have := hr.1; omega) hr.2.1).mono fun e w' ⟨h1, h2⟩ => ⟨h1, h2.out⟩
 flush := fun d hr ⟨_, _, _, e, h⟩ => by
  subst e;exact (xC d h (by have := hr.1; omega) hr.2.1).mono fun e w' ⟨h1, h2⟩ => ⟨h1, h2.out⟩
 fail := fun d ⟨_, _, _, e, h⟩ => by
  subst e;exact (yH d h).mono fun e w' ⟨h1, h2⟩ => ⟨h1, h2.out⟩
 arm := fun {w F p M} n ⟨_, _, _, e, h⟩ => by
  subst e;exact (z2 n h).mono fun e w' ⟨h1, h2, h3⟩ => ⟨h1, (Left.obj h2 h3 (by unfold gj; split <;> rfl)).out⟩
 devices := fun ⟨_, _, _, _, h⟩ => (mj h).mono fun e w' ⟨h1, h2⟩ => ⟨h1, eS h2⟩
 dV := fun d ⟨_, _, _, _, h⟩ => tm d h
 bH := fun ⟨_, _, _, _, h⟩ => (qC h).mono fun e w' ⟨h1, h2⟩ => ⟨h1, eS h2⟩
theorem dX.hid {k : eZ} {w w' : World} {ks : List Int} {e : Ending} (h : dX k w ks e w') : zr (InB k) w ks e w' := by
 obtain ⟨h1, h | h⟩ := h
 ·obtain ⟨h0, p, v, Fs, ps, h2, h3, h4⟩ := h;exact ⟨h1, .inl ⟨h0, p, _, h2, ⟨v, Fs, ps, rfl, h3⟩, h4⟩⟩
 ·exact ⟨h1, .inr h⟩
structure oN extends Ben aak where
 new : ∀ {w A n c ks}, RdE hZ w w.heap.size A n ks -> n <= c -> c <= maxLen -> Calls prog 34 #[.slice A n c] w (zr Bn w ks)
def aL : oN where
 toBen := aaC zz
 new := fun h1 h2 h3 => (aab h1 h2 h3).mono fun _ _ h => h.hid
def piece (b : List UInt8) (at_ k : Nat) : List UInt8 := (b.drop at_).take k
theorem cy {b : List UInt8} {p k : Nat} (h : p + k <= b.length) : (piece b p k).length = k := by simp [piece]; omega
def ofL (l : List UInt8) : Blk := Vector.ofFn fun i => l.getD i.val 0
theorem mK (l : List UInt8) {j : Nat} (h : j < 64) : byt (ofL l) j = bt l j := by
 rw [kv _ h];simp [ofL, bt]
theorem qS {l : List UInt8} (h : l.length = 64) : (ofL l).toList = l := fQ (by simp [h]) fun k hk => mK l (by simpa using hk)
theorem qG (b : Blk) : ofL b.toList = b := wM fun j h => mK _ h
theorem eH (b : Blk) : b.toList.length = 64 := by simp
theorem ot {l : List UInt8} {p k j : Nat} (h : j < k) : bt (piece l p k) j = bt l (p + j) := by
 unfold bt piece;simp [List.getD, List.getElem?_take_of_lt h, List.getElem?_drop]
theorem im (x y z : List UInt8) {p k : Nat} (hp : x.length = p) (hk : y.length = k) : piece (x ++ (y ++ z)) p k = y := by
 subst hp hk;simp [piece]
theorem i3 (y z : List UInt8) {k : Nat} (hk : y.length = k) : piece (y ++ z) 0 k = y := by
 subst hk;simp [piece]
theorem dG {x y : List UInt8} {j : Nat} (h : j < x.length) : bt (x ++ y) j = bt x j := by
 unfold bt;simp [List.getD, List.getElem?_append_left h]
theorem dK {x y : List UInt8} {j : Nat} (h : x.length <= j) : bt (x ++ y) j = bt y (j - x.length) := by
 unfold bt;simp [List.getD, List.getElem?_append_right h]
theorem iZ {n j : Nat} : bt (List.replicate n 0) j = 0 := by
 unfold bt;by_cases h : j < n
 ·simp [List.getD, h]
 ·simp [List.getD, h]
theorem fR {l x : List UInt8} {off j : Nat} (h : off + x.length <= l.length) : bt (splice l off x) j = if off <= j /\ j < off + x.length then bt x (j - off) else bt l j := by
 unfold splice;have h1 : (l.take off).length = off := by simp; omega
 by_cases hlo : j < off
 ·rw [if_neg (by omega), dG (by omega)];unfold bt;simp [List.getD, List.getElem?_take_of_lt hlo]
 ·rw [dK (by omega), h1];by_cases hhi : j < off + x.length
  ·rw [if_pos (by omega), dG (by omega)]
  ·rw [if_neg (by omega), dK (by omega)];unfold bt;simp only [List.getD, List.getElem?_drop];rw [show off + x.length + (j - off - x.length) = j from by omega]
theorem jT (s : Int) (w : World) (h1 : 1 <= s) (h2 : s <= 8) : Calls prog 142 #[.int .i64 s] w fun e w' => e = .returned (.bool true) /\ w = w' := by
 go_enter func142, ntmps142;go_wp2;go_ret;exact ⟨rfl, rfl⟩
def pR (n k : Nat) : Bool := decide (n < 2 ^ k)
theorem oR (n : Nat) (c : Int) (w : World) (h0 : 0 <= c) (h64 : c <= 64) : Calls prog 143 #[.int .u64 n, .int .i64 c] w fun e w' => e = .returned (.bool (pR n c.toNat)) /\ w = w' := by
 obtain ⟨k, rfl⟩ := Int.eq_ofNat_of_zero_le h0;rw [Int.toNat_natCast];go_enter func143, ntmps143;go_wp2;go_ret;refine ⟨bh ?_, rfl⟩;have e : ((n : Int) / 2 ^ k) = ((n / 2 ^ k : Nat) : Int) := by simp
 rw [e];unfold pR;have h2 : 0 < 2 ^ k := Nat.pow_pos (by omega);rw [Bool.eq_iff_iff];simp only [beq_iff_eq, decide_eq_true_eq];rw [<- Nat.div_eq_zero_iff_lt h2];omega
theorem ve (n k j : Nat) (h : j < k) : bt (aZ 8 k n) j = (n : Int) / 2 ^ (j * 8) % 256 := by
 have hl : j < (aZ 8 k n).length := by rw [aD]; exact h
 rw [dE hl, gp (by omega) hl, Nat.mul_comm 8 j];simp
theorem t7 (n k : Nat) (w : World) (h1 : 1 <= k) (h2 : k <= 8) (hn : n < 256 ^ k) :
  Calls prog 129 #[.int .u64 n, .int .i64 k] w fun e w' => ∃ v, e = .returned (.tuple #[v, .int .i64 0]) /\ Own w' w.heap.size v (aZ 8 k n) /\ Below w.heap.size w w' := by
 have hf : pR n (k * 8) = true := by
  have e : (2 : Nat) ^ (k * 8) = 256 ^ k := by rw [Nat.mul_comm, Nat.pow_mul]
  unfold pR;rw [e]
  simpa using hn
 have HF := ae hf;clear hf;have hmk := fun (kl kc : IntKind) (m : Nat) (h1 : 1 * m <= 281474976710656) (h2 : m <= 9223372036854775807) (W : World) => run_make_row' (P := prog) 116 5 (.int .u8 0) 1 underlying116 pO rfl kl kc m h1 h2 W
 have hmk1 := hmk .i64 .i64 k (by omega) (by omega);clear hmk;go_enter func129, ntmps129;go_wp2_with (first | (go_at_call 142; refine (jT _ _ (by omega) (by omega)).mono ?_; rintro e w' ⟨rfl, rfl⟩));refine (oR _ _ _ (by omega) (by omega)).mono ?_;rintro e w' ⟨rfl, rfl⟩;rw [show ((k : Int) * 8).toNat = k * 8 from by omega, HF.out];go_wp2;clear hmk1;have hr0 := World.rowIs_made w (Value.int .u8 0) k 5;obtain ⟨g, hg⟩ : ∃ g, g = w.heap.size := ⟨_, rfl⟩;rw [<- hg] at hr0 ⊢;have hbl0 : Below g w (w.alloc (.cells (madeCells #[Value.int .u8 0] k) 5)) := by rw [hg]; exact aj.alloc ai _
 have HG := ae hg;clear hg HF
 go_loopw [21] (fun i wr => ∃ (j : Nat) (f : Nat -> Int), j <= k /\ i = .int .i64 j /\ wr.rowIs g 5 k (fun j => .int .u8 (f j)) /\ (∀ m, m < j -> f m = bt (aZ 8 k n) m) /\ (∀ m, 0 <= f m /\ f m <= 255) /\ Below g w wr) (fun i _ => k - (intOf i).toNat)
 case atStart => exact ⟨0, fun _ => 0, Nat.zero_le _, rfl, hr0, fun j hj => absurd hj (by omega), fun _ => by simp, hbl0⟩
 case round =>
  obtain ⟨j, f, hj, rfl, hrow, hf, hr, hbl⟩ := hrel;by_cases hlt : j < k
  ·have hc := hrow.cell hlt;have hfr := hrow.frozen j;have HFF := ae hf;have HR := ae hr;clear hf hr;go_wp2;go_roundw
   case rel =>
    refine ⟨j + 1, _, by omega, by go_num, (hrow.set j _).congr (g := fun m => .int .u8 (if m = j then bt (aZ 8 k n) j else f m)) ?_, ?_, ?_, hbl.setCell ai _⟩
    ·intro m hm
     show (if m = j then Value.int IntKind.u8 (↑n / 2 ^ (j * 8) % 256) else Value.int .u8 (f m)) = _
     split
     ·rw [ve n k j hlt]
     ·rfl
    ·intro m hm
     show (if m = j then bt (aZ 8 k n) j else f m) = _
     split
     ·subst m; rfl
     ·exact HFF.out m (by omega)
    ·intro m
     show 0 <= (if m = j then bt (aZ 8 k n) j else f m) /\ (if m = j then bt (aZ 8 k n) j else f m) <= 255
     split
     ·exact ⟨iI _ _, jS _ _⟩
     ·exact HR.out m
   case measure => simp [intOf]; omega
  ·go_wp2;go_ret2;have hjk : j = k := by omega
   subst hjk;refine ⟨_, rfl, Own.py (aD 8 j n) (Nat.le_of_eq HG.out.symm) hrow ai (by unfold maxLen; omega) hf hr, ?_⟩;rw [<- HG.out];exact hbl
theorem lu {b : List UInt8} {p k : Nat} (h : p + k < b.length) : (val 8 (piece b p (k + 1)) : Int) = val 8 (piece b p k) + 2 ^ (k * 8) * bt b (p + k) := by
 have hk : k < (b.drop p).length := by simp; omega
 have e : piece b p (k + 1) = piece b p k ++ [b[p + k]] := by
  unfold piece;rw [List.take_succ_eq_append_getElem hk];simp
 rw [e, val_append, cy (by omega), dE h, Nat.mul_comm 8 k];rw [rU];push_cast
 rfl
theorem cx {b : List UInt8} {p k : Nat} (h : p + k <= b.length) : val 8 (piece b p k) < 2 ^ (k * 8) := by
 have := pz (mV (piece b p k));rwa [cy h, Nat.mul_comm] at this
theorem ua {s : Nat} (x : Nat) (h1 : x <= 255) (hs : s <= 56) : x * 2 ^ s <= 18446744073709551615 := by
 have h2 : 2 ^ s <= 2 ^ 56 := Nat.pow_le_pow_right (by omega) hs;have h3 : x * 2 ^ s <= 255 * 2 ^ 56 := Nat.mul_le_mul h1 h2;omega
theorem zh {V s : Nat} {x : Int} (h0 : 0 <= x) (h1 : x <= 255) (hs : s <= 56) (hV : V < 2 ^ s) :
  bits .or .u64 (V : Int) (IntKind.u64.wrap (x * 2 ^ s)) = V + 2 ^ s * x := by
 obtain ⟨m, rfl⟩ := Int.eq_ofNat_of_zero_le h0;have hf := ua (s := s) m (by omega) hs;have hV' : V < 18446744073709551616 := by
  have h2 : 2 ^ s <= 2 ^ 56 := Nat.pow_le_pow_right (by omega) hs;omega
 have e : ((m : Int) * 2 ^ s) = ((m * 2 ^ s : Nat) : Int) := by push_cast; rfl
 rw [e, IntWalk.u64_in _ ⟨by omega, by omega⟩, u64_or_nat V _ hV' (by omega), Nat.or_comm, nat_join s _ _ (Nat.mul_mod_left m (2 ^ s)) hV];push_cast;rw [Int.mul_comm (2 ^ s) (m : Int), Int.add_comm]
theorem uq (A : Option Addr) (n c N : Nat) (b : List UInt8) (p k : Nat) (w : World) (hb : Rd w N A n b) (hn : n <= maxLen) (h1 : 1 <= k) (h2 : k <= 8) (h3 : p + k <= n) :
  Calls prog 137 #[.slice A n c, .int .i64 p, .int .i64 k] w fun e w' => e = .returned (.tuple #[.int .u64 (val 8 (piece b p k)), .int .i64 0]) /\ w = w' := by
 unfold maxLen at hn;go_enter func137, ntmps137;go_wp2_with (first | (go_at_call 142; refine (jT _ _ (by omega) (by omega)).mono ?_; rintro e w' ⟨rfl, rfl⟩))
 go_loop [8, 30] (fun x i => ∃ j : Nat, j <= k /\ i = .int .i64 j /\ x = .int .u64 (val 8 (piece b p j))) (fun _ i => k - (intOf i).toNat)
 case atStart => exact ⟨0, Nat.zero_le _, rfl, by simp [piece, val]⟩
 case round =>
  obtain ⟨j, hj, rfl, rfl⟩ := hrel;by_cases hlt : j < k
  ·obtain ⟨bA, oA, rfl, hA, cA⟩ := hb.2 (p + j) (by omega);have hlo := iI b (p + j);have hhi := jS b (p + j);go_wp2
   go_round
   case rel =>
    refine ⟨j + 1, by omega, by go_num, ?_⟩;rw [lu (by have := hb.1; omega), zh hlo hhi (by omega) (cx (by have := hb.1; omega))]
   case measure => simp [intOf]; omega
  ·go_wp2;go_ret2;have e : j = k := by omega
   subst e;exact ⟨rfl, rfl⟩
def dh (b : List UInt8) : List UInt8 := b ++ List.replicate (44 - b.length) 0
def dj (n : Nat) (b : List UInt8) : List UInt8 := aZ 8 8 n ++ dh b
def cF (n : Nat) (b : List UInt8) : List UInt8 := dj n b ++ (aZ 8 4 (more 0 (dj n b)) ++ aZ 8 8 n)
theorem dB {b : List UInt8} (h : b.length <= 44) : (dh b).length = 44 := by simp [dh]; omega
theorem dH {b : List UInt8} (n : Nat) (h : b.length <= 44) : (dj n b).length = 52 := by simp [dj, aD, dB h]
theorem gA {b : List UInt8} (n : Nat) (h : b.length <= 44) : (cF n b).length = 64 := by simp [cF, aD, dH n h]
def dZ (l : List UInt8) : Nat := val 8 (piece l 0 8)
def agO (l : List UInt8) : Nat := val 8 (piece l 56 8)
def lp (l : List UInt8) : Nat := val 8 (piece l 52 4)
def lh (l : List UInt8) : Nat := more 0 (piece l 0 52)
def cZ (l : List UInt8) : Nat := if dZ l = 0 \/ dZ l ≠ agO l then 5 else if lp l ≠ lh l then 6 else 0
def dy (l : List UInt8) : Nat := if cZ l = 0 then dZ l else 0
def cJ (l : List UInt8) : List UInt8 := if cZ l = 0 then piece l 8 44 else []
theorem jy {l : List UInt8} (h : dZ l = 0 \/ dZ l ≠ agO l) : cZ l = 5 := by unfold cZ; rw [if_pos h]
theorem tU {l : List UInt8} (h0 : dZ l ≠ 0) (h1 : dZ l = agO l) (h : lp l ≠ lh l) : cZ l = 6 := by
 unfold cZ;rw [if_neg (by omega), if_pos h]
theorem rz {l : List UInt8} (h0 : dZ l ≠ 0) (h1 : dZ l = agO l) (h : lp l = lh l) : cZ l = 0 := by
 unfold cZ;rw [if_neg (by omega), if_neg (by omega)]
theorem rn {l : List UInt8} (h : cZ l = 0) : dZ l ≠ 0 /\ dZ l = agO l /\ lp l = lh l := by
 unfold cZ at h
 split at h
 ·omega
 ·split at h
  ·omega
  ·omega
theorem kq {l : List UInt8} (h : cZ l = 0) : dy l = dZ l := if_pos h
theorem ky {l : List UInt8} (h : cZ l ≠ 0) : dy l = 0 := if_neg h
theorem ki {l : List UInt8} (h : cZ l = 0) : cJ l = piece l 8 44 := if_pos h
theorem ni {l : List UInt8} (h : cZ l ≠ 0) : cJ l = [] := if_neg h
theorem sh {l : List UInt8} : dy l = 0 ↔ cZ l ≠ 0 := by
 constructor
 ·intro h e;rw [kq e] at h;exact (rn e).1 h
 ·exact ky
theorem xj {l : List UInt8} (h : l.length = 64) : dZ l < 18446744073709551616 := cx (b := l) (p := 0) (k := 8) (by omega)
theorem rO {l : List UInt8} (h : l.length = 64) : lp l < 4294967296 := cx (b := l) (p := 52) (k := 4) (by omega)
theorem ry (l : List UInt8) : lh l < 4294967296 := ns (by omega) _
theorem wN {l : List UInt8} (h : l.length = 64) : dy l < 18446744073709551616 := by
 have := xj h;unfold dy
 split <;> omega
theorem qD (n : Nat) (b : List UInt8) : piece (cF n b) 0 8 = aZ 8 8 n := by
 rw [show cF n b = aZ 8 8 n ++ (dh b ++ (aZ 8 4 (more 0 (dj n b)) ++ aZ 8 8 n)) from by simp [cF, dj]];exact i3 _ _ (aD _ _ _)
theorem lj {n : Nat} {b : List UInt8} (hn : n < 18446744073709551616) : dZ (cF n b) = n := by
 unfold dZ;rw [qD, jn (by omega)];exact Nat.mod_eq_of_lt hn
section
variable {n : Nat} {b : List UInt8} (hb : b.length <= 44)
include hb
theorem td : piece (cF n b) 56 8 = aZ 8 8 n := by
 rw [show cF n b = (dj n b ++ aZ 8 4 (more 0 (dj n b))) ++ (aZ 8 8 n ++ []) from by simp [cF]];exact im _ _ _ (by simp [dH n hb, aD]) (aD _ _ _)
theorem vx : piece (cF n b) 52 4 = aZ 8 4 (more 0 (dj n b)) := im _ _ _ (dH n hb) (aD _ _ _)
theorem rV : piece (cF n b) 0 52 = dj n b := i3 _ _ (dH n hb)
theorem tC : piece (cF n b) 8 44 = dh b := by
 rw [show cF n b = aZ 8 8 n ++ (dh b ++ (aZ 8 4 (more 0 (dj n b)) ++ aZ 8 8 n)) from by simp [cF, dj]];exact im _ _ _ (aD _ _ _) (dB hb)
theorem xF (hn : n < 18446744073709551616) : agO (cF n b) = n := by
 unfold agO;rw [td hb, jn (by omega)];exact Nat.mod_eq_of_lt hn
theorem na (hn : n < 18446744073709551616) (h0 : n ≠ 0) : cZ (cF n b) = 0 := by
 refine rz (by rw [lj hn]; exact h0) (by rw [lj hn, xF hb hn]) ?_;unfold lp lh;rw [vx hb, rV hb, jn (by omega)];exact Nat.mod_eq_of_lt (ns (by omega) _)
theorem r7 (hn : n < 18446744073709551616) (h0 : n ≠ 0) : dy (cF n b) = n := by rw [kq (na hb hn h0), lj hn]
theorem tf (hn : n < 18446744073709551616) (h0 : n ≠ 0) : cJ (cF n b) = dh b := by rw [ki (na hb hn h0), tC hb]
end
def eA (n : Nat) (b : List UInt8) : Nat := if n = 0 then 2 else if 44 < b.length then 3 else 0
def eM (n : Nat) (b : List UInt8) : Blk := if eA n b = 0 then ofL (cF n b) else aA
theorem mJ {n : Nat} {b : List UInt8} (h0 : n ≠ 0) (hb : b.length <= 44) : eA n b = 0 := by unfold eA; rw [if_neg h0, if_neg (by omega)]
theorem ge {n : Nat} {b : List UInt8} (h : eA n b = 0) : n ≠ 0 /\ b.length <= 44 := by
 unfold eA at h
 split at h
 ·omega
 ·split at h <;> omega
theorem kD {n : Nat} {b : List UInt8} (h : eA n b = 0) : eM n b = ofL (cF n b) := if_pos h
theorem jt {n : Nat} {b : List UInt8} (h : eA n b = 0) : (eM n b).toList = cF n b := by
 rw [kD h, qS (gA n (ge h).2)]
theorem tY {n : Nat} {b : List UInt8} (hn : n < 18446744073709551616) (h : eA n b = 0) : cZ (eM n b).toList = 0 := by
 rw [jt h]; exact na (ge h).2 hn (ge h).1
theorem uO {n : Nat} {b : List UInt8} (hn : n < 18446744073709551616) (h : eA n b = 0) : dy (eM n b).toList = n := by
 rw [jt h]; exact r7 (ge h).2 hn (ge h).1
theorem kL {n : Nat} {b : List UInt8} (hn : n < 18446744073709551616) (h : eA n b = 0) : cJ (eM n b).toList = dh b := by
 rw [jt h]; exact tf (ge h).2 hn (ge h).1
theorem mA : cZ aA.toList = 5 := jy (.inl (by decide +kernel))
def evB (n : Nat) : Bool := decide (1 <= n /\ n <= 4611686018427387904)
theorem pj {n : Nat} (h : evB n = true) : 1 <= n /\ n <= 4611686018427387904 := of_decide_eq_true h
theorem mt {b : List UInt8} (h : b.length = 44) : dh b = b := by simp [dh, h]
theorem sU {b : List UInt8} (n : Nat) (h : b.length <= 44) : dj n (dh b) = dj n b := by unfold dj; rw [mt (dB h)]
theorem iy {b : List UInt8} (n : Nat) (h : b.length <= 44) : cF n (dh b) = cF n b := by unfold cF; rw [sU n h]
theorem fy {k n : Nat} (h : n < 2 ^ (8 * k)) : val 8 (aZ 8 k n) = n := by rw [jn (by omega), Nat.mod_eq_of_lt h]
theorem jo (l : List UInt8) (p a b : Nat) : piece l p a ++ piece l (p + a) b = piece l p (a + b) := by
 unfold piece;rw [List.take_add, List.drop_drop]
theorem jx {l : List UInt8} {p k : Nat} (h : p + k <= l.length) : aZ 8 k (val 8 (piece l p k)) = piece l p k := by
 have := nY (mV (piece l p k));rwa [cy h] at this
theorem tp {l : List UInt8} (hl : l.length = 64) (h : cZ l = 0) : cF (dZ l) (piece l 8 44) = l := by
 obtain ⟨_, h1, h2⟩ := rn h;have e1 : aZ 8 8 (dZ l) = piece l 0 8 := jx (by omega);have e2 : dj (dZ l) (piece l 8 44) = piece l 0 52 := by
  unfold dj;rw [e1, mt (cy (by omega))];exact jo l 0 8 44
 have e3 : aZ 8 4 (more 0 (piece l 0 52)) = piece l 52 4 := by
  have : more 0 (piece l 0 52) = val 8 (piece l 52 4) := h2.symm;rw [this];exact jx (by omega)
 have e4 : aZ 8 8 (dZ l) = piece l 56 8 := by rw [h1]; exact jx (by omega)
 unfold cF;rw [e2, e3, e4, jo l 52 4 8, jo l 0 52 12];unfold piece;rw [List.drop_zero, List.take_of_length_le (by omega)]
theorem mw (b : Blk) : dy b.toList < 18446744073709551616 := wN (by simp)
theorem gK {b : Blk} (h : cZ b.toList = 0) : (cJ b.toList).length = 44 := by rw [ki h]; exact cy (by simp)
theorem oZ {b : Blk} (h : cZ b.toList = 0) : ofL (cF (dy b.toList) (cJ b.toList)) = b := by
 rw [kq h, ki h, tp (by simp) h, qG]
structure Ros where
 m : Int
 s : Int
 r : Int
 st : Vector UInt8 16
 cur : Int
 gone : Bool
deriving DecidableEq
def bI : Ros := ⟨0, 0, 0, Vector.replicate 16 0, 0, false⟩
def sta (x : Ros) (j : Nat) : Int := bt x.st.toList j
def eR (l : List UInt8) : Nat -> Nat
 |0 => 0
 |k + 1 => eR l k + (if bt l k = 2 then 1 else 0)
def cu (x : Ros) : Nat := eR x.st.toList 16
theorem kV (l : List UInt8) (k : Nat) : eR l k <= k := by
 induction k with
 |zero => exact ai
 |succ k ih => unfold eR; split <;> omega
def dM (x : Ros) : Bool := decide (3 <= x.m /\ x.m <= 16 /\ 1 <= x.s /\ x.s <= 64 /\ 40 <= x.r /\ x.r <= 256)
def ew (x : Ros) : Bool := (List.range 16).all fun j => decide (sta x j <= 2) && (!decide (x.m <= (j : Int)) || decide (sta x j = 0))
theorem fY {x : Ros} : ew x = true ↔ ((∀ j, j < 16 -> sta x j <= 2) /\ (∀ j : Nat, j < 16 -> x.m <= (j : Int) -> sta x j = 0)) := by
 unfold ew;simp only [List.all_eq_true, List.mem_range, Bool.and_eq_true, decide_eq_true_eq, Bool.or_eq_true, Bool.not_eq_true', decide_eq_false_iff_not]
 constructor
 ·exact fun h => ⟨fun j hj => (h j hj).1, fun j hj hm => (h j hj).2.elim (fun h2 => absurd hm h2) id⟩
 ·rintro ⟨h1, h2⟩ j hj;refine ⟨h1 j hj, ?_⟩;by_cases hm : x.m <= (j : Int)
  ·exact .inr (h2 j hj hm)
  ·exact .inl hm
def aW (x : Ros) : Bool := dM x && ew x && decide (cu x <= 1) && decide (0 <= x.cur /\ x.cur < x.s /\ (cu x = 1 \/ x.cur = 0))
theorem fa {x : Ros} (h : dM x = true) : 3 <= x.m /\ x.m <= 16 /\ 1 <= x.s /\ x.s <= 64 /\ 40 <= x.r /\ x.r <= 256 := of_decide_eq_true h
theorem gr {x : Ros} (h : ew x = true) : (∀ j, j < 16 -> sta x j <= 2) /\ (∀ j : Nat, j < 16 -> x.m <= (j : Int) -> sta x j = 0) := fY.1 h
theorem dQ {x : Ros} (h : aW x = true) : dM x = true /\ ew x = true /\ cu x <= 1 /\ 0 <= x.cur /\ x.cur < x.s /\ (cu x = 1 \/ x.cur = 0) := by
 unfold aW at h;simp only [Bool.and_eq_true, decide_eq_true_eq] at h;exact ⟨h.1.1.1, h.1.1.2, h.1.2, h.2⟩
theorem kS {x : Ros} (h : dM x = true /\ ew x = true /\ cu x <= 1 /\ 0 <= x.cur /\ x.cur < x.s /\ (cu x = 1 \/ x.cur = 0)) : aW x = true := by
 unfold aW;simp only [Bool.and_eq_true, decide_eq_true_eq];exact ⟨⟨⟨h.1, h.2.1⟩, h.2.2.1⟩, h.2.2.2⟩
theorem gJ {x : Ros} : dM x = true ↔ (3 <= x.m /\ x.m <= 16 /\ 1 <= x.s /\ x.s <= 64 /\ 40 <= x.r /\ x.r <= 256) := by unfold dM; rw [decide_eq_true_iff]
theorem oF {x : Ros} : dM x = false ↔ ¬(3 <= x.m /\ x.m <= 16 /\ 1 <= x.s /\ x.s <= 64 /\ 40 <= x.r /\ x.r <= 256) := by unfold dM; rw [decide_eq_false_iff_not]
theorem gl (l : List UInt8) (k : Nat) : eR l (k + 1) = eR l k + (if bt l k = 2 then 1 else 0) := rfl
def oG (x : Ros) : Bool := if cu x = 0 then decide (x.cur = 0) else decide (0 <= x.cur /\ x.cur < x.s)
theorem lN (x : Ros) : aW x = (dM x && ((ew x && decide (cu x <= 1)) && oG x)) := by
 unfold aW oG;by_cases hg : dM x = true
 ·have hs := (gJ.1 hg).2.2.1;rw [hg, Bool.true_and, Bool.true_and];cases ew x
  ·rfl
  ·by_cases hh : cu x <= 1
   ·rw [am hh];simp only [Bool.true_and]
    split
    ·rw [decide_eq_decide]; omega
    ·rw [decide_eq_decide]; omega
   ·rw [al hh]; rfl
 ·rw [Bool.eq_false_iff.2 hg]; rfl
theorem zF {x : Ros} {j : Nat} (hj : j < 16) (h : 2 < sta x j \/ (x.m <= (j : Int) /\ sta x j ≠ 0)) : aW x = false := by
 rw [Bool.eq_false_iff];intro hf;obtain ⟨h1, h2⟩ := gr (dQ hf).2.1;rcases h with h | ⟨h, h'⟩
 ·have := h1 j hj; omega
 ·exact h' (h2 j hj h)
def lG (l : List UInt8) : Vector UInt8 16 := Vector.ofFn fun i => l.getD i.val 0
theorem pd {l : List UInt8} (h : l.length = 16) : (lG l).toList = l := by
 refine fQ (by simp [h]) fun k hk => ?_
 have hk' : k < 16 := by simpa using hk
 rw [dE hk, dE (l := l) (by omega)];simp [lG, List.getD, List.getElem?_eq_getElem (show k < l.length by omega)]
theorem oJ (v : Vector UInt8 16) : lG v.toList = v := by
 apply Vector.ext;intro i hi;simp [lG, List.getD]
theorem gy (v : Vector UInt8 16) : v.toList.length = 16 := by simp
structure Sup where
 id : Nat
 self : Int
 ros : Ros
deriving DecidableEq
def bg : Sup := ⟨0, 0, bI⟩
def ef (x : Sup) : Bool := decide (x.id ≠ 0) && aW x.ros && decide (0 <= x.self /\ x.self < x.ros.m)
theorem kj {x : Sup} (h : ef x = true) : x.id ≠ 0 /\ aW x.ros = true /\ 0 <= x.self /\ x.self < x.ros.m := by
 unfold ef at h;simp only [Bool.and_eq_true, decide_eq_true_eq] at h;exact ⟨h.1.1, h.1.2, h.2⟩
def kZ (b : Bool) : Nat := if b then 1 else 0
def dD (x : Sup) : List UInt8 :=
 aZ 8 8 x.id ++ (aZ 8 1 x.ros.m.toNat ++ (aZ 8 2 x.ros.s.toNat ++ (aZ 8 2 x.ros.r.toNat ++ (aZ 8 1 x.self.toNat ++ (aZ 8 4 (val 2 x.ros.st.toList) ++ (aZ 8 2 x.ros.cur.toNat ++ aZ 8 1 (kZ x.ros.gone)))))))
theorem ez (x : Sup) : (dD x).length = 21 := by simp [dD, aD]
def bZ (x : Sup) : List UInt8 := dh (dD x)
theorem cw (x : Sup) : (bZ x).length = 44 := dB (by rw [ez]; omega)
theorem il (n : Nat) (x : Sup) : eA n (bZ x) = eA n (dD x) := by
 unfold eA; rw [cw, ez]; simp
theorem my (n : Nat) (x : Sup) : eM n (bZ x) = eM n (dD x) := by
 unfold eM; rw [il]; unfold bZ; rw [iy n (by rw [ez]; omega)]
def bW (l : List UInt8) : Sup :=
 ⟨val 8 (piece l 0 8), (val 8 (piece l 13 1) : Nat), ⟨(val 8 (piece l 8 1) : Nat), (val 8 (piece l 9 2) : Nat), (val 8 (piece l 11 2) : Nat), lG (aZ 2 16 (val 8 (piece l 14 4))), (val 8 (piece l 18 2) : Nat), decide (val 8 (piece l 20 1) = 1)⟩⟩
theorem lC {x : Ros} (h : ew x = true) : ∀ u ∈ x.st.toList, u.toNat < 2 ^ 2 := by
 intro u hu;obtain ⟨j, hj, rfl⟩ := List.getElem_of_mem hu;have h2 := (gr h).1 j (by simpa using hj);unfold sta at h2;rw [dE hj] at h2;omega
theorem rt {x : Ros} (h : ew x = true) : val 2 x.st.toList < 2 ^ 32 := by
 have := pz (lC h)
 simpa using this
section
variable (x : Sup)
private theorem pc (a b c : List UInt8) {p k : Nat} (h : bZ x = a ++ (b ++ c)) (hp : a.length = p) (hk : b.length = k) : piece (bZ x) p k = b := by rw [h]; exact im _ _ _ hp hk
theorem yz : piece (bZ x) 0 8 = aZ 8 8 x.id := by
 unfold bZ dh dD;rw [List.append_assoc];exact i3 _ _ (aD _ _ _)
theorem yR : piece (bZ x) 8 1 = aZ 8 1 x.ros.m.toNat :=
 pc x (aZ 8 8 x.id) _ _ (by unfold bZ dh dD; simp only [List.append_assoc]; rfl) (by simp [aD]) (by simp [aD])
theorem zl : piece (bZ x) 9 2 = aZ 8 2 x.ros.s.toNat :=
 pc x (aZ 8 8 x.id ++ aZ 8 1 x.ros.m.toNat) _ _ (by unfold bZ dh dD; simp only [List.append_assoc]; rfl) (by simp [aD]) (by simp [aD])
theorem xO : piece (bZ x) 11 2 = aZ 8 2 x.ros.r.toNat :=
 pc x (aZ 8 8 x.id ++ aZ 8 1 x.ros.m.toNat ++ aZ 8 2 x.ros.s.toNat) _ _ (by unfold bZ dh dD; simp only [List.append_assoc]; rfl) (by simp [aD]) (by simp [aD])
theorem xG : piece (bZ x) 13 1 = aZ 8 1 x.self.toNat :=
 pc x (aZ 8 8 x.id ++ aZ 8 1 x.ros.m.toNat ++ aZ 8 2 x.ros.s.toNat ++ aZ 8 2 x.ros.r.toNat) _ _ (by unfold bZ dh dD; simp only [List.append_assoc]; rfl) (by simp [aD]) (by simp [aD])
theorem xW : piece (bZ x) 14 4 = aZ 8 4 (val 2 x.ros.st.toList) :=
 pc x (aZ 8 8 x.id ++ aZ 8 1 x.ros.m.toNat ++ aZ 8 2 x.ros.s.toNat ++ aZ 8 2 x.ros.r.toNat ++ aZ 8 1 x.self.toNat) _ _ (by unfold bZ dh dD; simp only [List.append_assoc]; rfl) (by simp [aD]) (by simp [aD])
theorem xN : piece (bZ x) 18 2 = aZ 8 2 x.ros.cur.toNat :=
 pc x (aZ 8 8 x.id ++ aZ 8 1 x.ros.m.toNat ++ aZ 8 2 x.ros.s.toNat ++ aZ 8 2 x.ros.r.toNat ++ aZ 8 1 x.self.toNat ++ aZ 8 4 (val 2 x.ros.st.toList)) _ _ (by unfold bZ dh dD; simp only [List.append_assoc]; rfl) (by simp [aD]) (by simp [aD])
theorem wZ : piece (bZ x) 20 1 = aZ 8 1 (kZ x.ros.gone) :=
 pc x (aZ 8 8 x.id ++ aZ 8 1 x.ros.m.toNat ++ aZ 8 2 x.ros.s.toNat ++ aZ 8 2 x.ros.r.toNat ++ aZ 8 1 x.self.toNat ++ aZ 8 4 (val 2 x.ros.st.toList) ++ aZ 8 2 x.ros.cur.toNat) _ _ (by unfold bZ dh dD; simp only [List.append_assoc]; rfl) (by simp [aD]) (by simp [aD])
end
theorem tI {x : Sup} (hid : x.id < 18446744073709551616) (h : ef x = true) : bW (bZ x) = x := by
 obtain ⟨_, hf, h1, h2⟩ := kj h;obtain ⟨hg, hs, _, h3, h4, _⟩ := dQ hf;obtain ⟨g1, g2, g3, g4, g5, g6⟩ := fa hg;obtain ⟨id, self, m, s, r, st, cur, gone⟩ := x;simp only at *;unfold bW;rw [yz, yR, zl, xO, xG, xW, xN, wZ];simp only;have hv := rt hs;simp only at hv;rw [fy (k := 8) (by omega), fy (k := 1) (n := self.toNat) (by omega), fy (k := 1) (n := m.toNat) (by omega), fy (k := 2) (n := s.toNat) (by omega), fy (k := 2) (n := r.toNat) (by omega), fy (k := 4) (by omega), fy (k := 2) (n := cur.toNat) (by omega), fy (k := 1) (n := kZ gone) (by unfold kZ; split <;> omega)];have hd : aZ 2 16 (val 2 st.toList) = st.toList := by
  have := nY (lC hs)
  simpa using this
 rw [hd, oJ];have e1 : ((self.toNat : Nat) : Int) = self := by omega
 have e2 : ((m.toNat : Nat) : Int) = m := by omega
 have e3 : ((s.toNat : Nat) : Int) = s := by omega
 have e4 : ((r.toNat : Nat) : Int) = r := by omega
 have e5 : ((cur.toNat : Nat) : Int) = cur := by omega
 have e6 : decide (kZ gone = 1) = gone := by cases gone <;> rfl
 rw [e1, e2, e3, e4, e5, e6]
def jP (n : Nat) (x : Sup) : Nat := if evB n = true /\ ef x = true then 0 else 2
def fx (n : Nat) (x : Sup) : Blk := if evB n = true /\ ef x = true then eM n (dD x) else aA
theorem jk {n : Nat} {x : Sup} (h : evB n = true) (h' : ef x = true) : jP n x = 0 := if_pos ⟨h, h'⟩
theorem ls {n : Nat} {x : Sup} (h : evB n = true) (h' : ef x = true) : fx n x = eM n (dD x) := if_pos ⟨h, h'⟩
theorem nL {n : Nat} {x : Sup} (h : ¬ (evB n = true /\ ef x = true)) : jP n x = 2 := if_neg h
theorem nV {n : Nat} {x : Sup} (h : ¬ (evB n = true /\ ef x = true)) : fx n x = aA := if_neg h
theorem uu {n : Nat} {x : Sup} (h : jP n x = 0) : evB n = true /\ ef x = true := by
 unfold jP at h
 split at h
 ·assumption
 ·omega
theorem fK {n : Nat} (x : Sup) (h : evB n = true) : eA n (dD x) = 0 := mJ (by have := pj h; omega) (by rw [ez]; omega)
def gsE (b : Blk) : Nat := if cZ b.toList ≠ 0 then cZ b.toList else if evB (dy b.toList) = true /\ ef (bW (cJ b.toList)) = true /\ bZ (bW (cJ b.toList)) = cJ b.toList then 0 else 5
def gsN (b : Blk) : Nat := if gsE b = 0 then dy b.toList else 0
def gsS (b : Blk) : Sup := if gsE b = 0 then bW (cJ b.toList) else bg
theorem oW {b : Blk} (h : cZ b.toList ≠ 0) : gsE b = cZ b.toList := if_pos h
theorem ld {b : Blk} (h : cZ b.toList = 0) (h' : ¬ (evB (dy b.toList) = true /\ ef (bW (cJ b.toList)) = true /\ bZ (bW (cJ b.toList)) = cJ b.toList)) : gsE b = 5 := by
 unfold gsE; rw [if_neg (by omega), if_neg h']
theorem vG {b : Blk} (h : cZ b.toList = 0) (h' : evB (dy b.toList) = true /\ ef (bW (cJ b.toList)) = true /\ bZ (bW (cJ b.toList)) = cJ b.toList) : gsE b = 0 := by
 unfold gsE; rw [if_neg (by omega), if_pos h']
theorem vv {b : Blk} (h : gsE b = 0) : cZ b.toList = 0 /\ evB (dy b.toList) = true /\ ef (bW (cJ b.toList)) = true /\ bZ (bW (cJ b.toList)) = cJ b.toList := by
 unfold gsE at h
 split at h
 ·omega
 ·rename_i h0
  split at h
  ·rename_i h1; exact ⟨by omega, h1⟩
  ·omega
theorem nk {b : Blk} (h : gsE b = 0) : gsN b = dy b.toList := if_pos h
theorem iW {b : Blk} (h : gsE b ≠ 0) : gsN b = 0 := if_neg h
theorem pT {b : Blk} (h : gsE b = 0) : gsS b = bW (cJ b.toList) := if_pos h
theorem kW {b : Blk} (h : gsE b ≠ 0) : gsS b = bg := if_neg h
theorem lf {b : Blk} : gsN b = 0 ↔ gsE b ≠ 0 := by
 constructor
 ·intro h e;have := pj (vv e).2.1;rw [nk e] at h;omega
 ·exact iW
theorem fm {l : List UInt8} (h : 8 <= l.length) : (bW l).id < 18446744073709551616 := cx (b := l) (p := 0) (k := 8) (by omega)
theorem nA {b : Blk} (h : cZ b.toList = 0) (hn : evB (dy b.toList) = true) (x : Sup) : eM (dy b.toList) (dD x) = b ↔ bZ x = cJ b.toList := by
 have hp := fK (n := dy b.toList) x hn
 constructor
 ·intro e;have h2 := kL (mw b) hp;rw [e] at h2;exact h2.symm
 ·intro e;rw [kD hp, <- iy _ (by rw [ez]; omega)];have : dh (dD x) = cJ b.toList := e;rw [this];exact oZ h
theorem uR {n : Nat} {x : Sup} (hid : x.id < 18446744073709551616) (h : jP n x = 0) : gsE (fx n x) = 0 /\ gsN (fx n x) = n /\ gsS (fx n x) = x := by
 obtain ⟨h1, h2⟩ := uu h;have hn : n < 18446744073709551616 := by have := pj h1; omega
 have hp := fK x h1;have e1 := tY hn hp;have e2 := uO hn hp;have e3 := kL hn hp;rw [ls h1 h2];have e4 : bW (cJ (eM n (dD x)).toList) = x := by rw [e3]; exact tI hid h2
 have hE : gsE (eM n (dD x)) = 0 := vG e1 ⟨by rw [e2]; exact h1, by rw [e4]; exact h2, by rw [e4, e3]; rfl⟩;exact ⟨hE, by rw [nk hE, e2], by rw [pT hE, e4]⟩
theorem o8 {b : Blk} (h : gsE b = 0) : jP (gsN b) (gsS b) = 0 /\ fx (gsN b) (gsS b) = b /\ ef (gsS b) = true /\ (gsS b).id < 18446744073709551616 := by
 obtain ⟨h1, h2, h3, h4⟩ := vv h;rw [nk h, pT h];exact ⟨jk h2 h3, by rw [ls h2 h3]; exact (nA h1 h2 _).2 h4, h3, fm (by rw [gK h1]; omega)⟩
theorem rR : gsE aA = 5 := by rw [oW (by rw [mA]; omega), mA]
def nwE (a b : Blk) : Nat := if gsN a = 0 /\ gsN b = 0 then 7 else 0
def nwN (a b : Blk) : Nat := if gsN a < gsN b then gsN b else gsN a
def nwS (a b : Blk) : Sup := if gsN a < gsN b then gsS b else gsS a
def kb (a b : Blk) : Nat := if gsN a ≠ 0 /\ ¬ gsN a < gsN b then 1 else 0
def jC (l : List UInt8) (c : Int) : Nat -> Nat
 |0 => 0
 |k + 1 => jC l c k + (if bt l k = c then 1 else 0)
theorem eG (l : List UInt8) (c : Int) (k : Nat) : jC l c (k + 1) = jC l c k + (if bt l k = c then 1 else 0) := rfl
theorem wu (l : List UInt8) (c : Int) (k : Nat) : jC l c k <= k := by
 induction k with
 |zero => exact ai
 |succ k ih => rw [eG]; split <;> omega
theorem sS (l : List UInt8) (k : Nat) : eR l k = jC l 2 k := by
 induction k with
 |zero => rfl
 |succ k ih => rw [eG, gl, ih]
def many (x : Ros) (c : Int) : Nat := jC x.st.toList c 16
theorem vN (x : Ros) (c : Int) : many x c = jC x.st.toList c 16 := rfl
theorem fq (x : Ros) : cu x = many x 2 := sS _ _
def oI (l : List UInt8) : Nat -> Nat
 |0 => 0
 |k + 1 => oI l k + (if bt l k = 0 then 0 else 1)
theorem jw (l : List UInt8) (k : Nat) : oI l (k + 1) = oI l k + (if bt l k = 0 then 0 else 1) := rfl
theorem wT (l : List UInt8) (k : Nat) : oI l k <= k := by
 induction k with
 |zero => exact ai
 |succ k ih => rw [jw]; split <;> omega
def outs (x : Ros) : Nat := oI x.st.toList 16
theorem uy {l : List UInt8} {k : Nat} (h : ∀ j, j < k -> bt l j <= 2) : oI l k = jC l 1 k + jC l 2 k := by
 induction k with
 |zero => rfl
 |succ k ih =>
  have h1 := ih fun j hj => h j (by omega)
  have h2 := h k (by omega);have h3 := iI l k;rw [eG, eG, jw, h1]
  split <;> split <;> split <;> omega
theorem sY {x : Ros} (h : ew x = true) : outs x = many x 1 + many x 2 := uy (gr h).1
theorem pP {x : Ros} (h : ew x = true) : cu x <= outs x := by rw [sY h, fq]; omega
def jl (l : List UInt8) : Nat -> Option Nat
 |0 => none
 |k + 1 => (jl l k).or (if bt l k = 2 then some k else none)
theorem iz (l : List UInt8) (k : Nat) : jl l (k + 1) = (jl l k).or (if bt l k = 2 then some k else none) := rfl
theorem r9 (l : List UInt8) (k : Nat) : jl l k = none ↔ eR l k = 0 := by
 induction k with
 |zero => exact ⟨fun _ => rfl, fun _ => rfl⟩
 |succ k ih =>
  rw [iz, gl];cases hf : jl l k with
  |some i =>
   have h1 : ¬ eR l k = 0 := fun e => by have := ih.2 e; rw [hf] at this; cases this
   simp only [Option.some_or]
   constructor
   ·intro h; cases h
   ·intro h; omega
  |none =>
   have h1 := ih.1 hf;simp only [Option.none_or]
   split
   ·constructor
    ·intro h; cases h
    ·intro h; omega
   ·constructor
    ·intro _; omega
    ·intro _; rfl
theorem rf {l : List UInt8} {i j : Nat} (h : jl l i = some j) : ∀ {k : Nat}, i <= k -> jl l k = some j
 |0, hk => by rw [show i = 0 from by omega] at h; exact h
 |k + 1, hk => by
  by_cases e : i = k + 1
  ·rw [<- e]; exact h
  ·rw [iz, rf h (k := k) (by omega)]; rfl
theorem xY {l : List UInt8} {j : Nat} (h0 : jl l j = none) (h2 : bt l j = 2) {k : Nat} (hk : j < k) : jl l k = some j := by
 refine rf (i := j + 1) ?_ (by omega);rw [iz, h0, if_pos h2]
 rfl
theorem sL {l : List UInt8} {j : Nat} (h0 : jl l j = none) (h2 : bt l j ≠ 2) : jl l (j + 1) = none := by
 rw [iz, h0, if_neg h2]
 rfl
def jm (x : Ros) : Option Nat := jl x.st.toList 16
theorem sp (x : Ros) : jm x = jl x.st.toList 16 := rfl
theorem qM (x : Ros) : jm x = none ↔ cu x = 0 := r9 _ _
def eW (x : Ros) (j : Nat) (u : UInt8) : Ros := ⟨x.m, x.s, x.r, x.st.setIfInBounds j u, x.cur, x.gone⟩
def jE (x : Ros) (c : Int) : Ros := ⟨x.m, x.s, x.r, x.st, c, x.gone⟩
theorem jq (x : Ros) (j : Nat) (u : UInt8) : (eW x j u).st.toList = x.st.toList.set j u := by
 unfold eW;simp
theorem uw {l : List UInt8} {j : Nat} (h : j < l.length) (u : UInt8) (k : Nat) : bt (l.set j u) k = if k = j then (u.toNat : Int) else bt l k := by
 unfold bt;simp only [List.getD, List.getElem?_set];by_cases e : k = j
 ·subst e; simp [h]
 ·rw [if_neg (fun e' => e e'.symm), if_neg e]
theorem jb (x : Ros) {j : Nat} (h : j < 16) (u : UInt8) (k : Nat) : sta (eW x j u) k = if k = j then (u.toNat : Int) else sta x k := by
 unfold sta;rw [jq];exact uw (by simpa using h) u k
theorem vM {l : List UInt8} {j : Nat} (h : j < l.length) (u : UInt8) (c : Int) (k : Nat) : jC (l.set j u) c k + (if j < k /\ bt l j = c then 1 else 0) = jC l c k + (if j < k /\ (u.toNat : Int) = c then 1 else 0) := by
 induction k with
 |zero => rw [if_neg (by omega), if_neg (by omega)]; rfl
 |succ k ih =>
  rw [eG, eG, uw h];by_cases e : k = j
  ·subst e;rw [if_neg (by omega), if_neg (by omega)] at ih;rw [if_pos rfl];by_cases h1 : bt l k = c <;> by_cases h2 : (u.toNat : Int) = c <;> simp [h1, h2] <;> omega
  ·rw [if_neg e];have e1 : (j < k + 1 /\ bt l j = c) ↔ (j < k /\ bt l j = c) := by omega
   have e2 : (j < k + 1 /\ (u.toNat : Int) = c) ↔ (j < k /\ (u.toNat : Int) = c) := by omega
   simp only [e1, e2];omega
theorem tq (x : Ros) {j : Nat} (h : j < 16) (u : UInt8) (c : Int) : many (eW x j u) c + (if sta x j = c then 1 else 0) = many x c + (if (u.toNat : Int) = c then 1 else 0) := by
 have := vM (l := x.st.toList) (j := j) (by simpa using h) u c 16;simp only [h, true_and] at this;unfold many;rw [jq];exact this
theorem mi {x : Ros} (hs : ew x = true) {j : Nat} (h : j < 16) (hm : (j : Int) < x.m) {u : UInt8} (hu : u.toNat <= 2) : ew (eW x j u) = true := by
 obtain ⟨h1, h2⟩ := gr hs;refine fY.2 ⟨fun k hk => ?_, fun k hk hkm => ?_⟩
 ·rw [jb x h]
  split
  ·omega
  ·exact h1 k hk
 ·have hne : k ≠ j := by
   intro e; subst e;have : x.m <= (k : Int) := hkm;omega
  rw [jb x h, if_neg hne];exact h2 k hk hkm
def eX (x : Ros) (m : Int) : Bool := decide (0 <= m /\ m < x.m)
def sD (x : Ros) (s : Int) : Bool := decide (0 <= s /\ s < x.s)
theorem nd {x : Ros} {m : Int} (h : eX x m = true) : 0 <= m /\ m < x.m := of_decide_eq_true h
def gz (y : Ros) : Ros := ⟨y.m, y.s, y.r, Vector.replicate 16 0, 0, false⟩
theorem vp (y : Ros) : cu (gz y) = 0 := by
 show eR (Vector.replicate 16 (0 : UInt8)).toList 16 = 0
 decide
theorem pS (y : Ros) {j : Nat} (h : j < 16) : sta (gz y) j = 0 := by
 show bt (List.replicate 16 (0 : UInt8)) j = 0
 unfold bt;rw [List.getD, List.getElem?_replicate]
 split <;> rfl
theorem ri (y : Ros) : aW (gz y) = dM y := by
 have hg : dM (gz y) = dM y := rfl;by_cases h : dM y = true
 ·rw [h];have := fa h;refine kS ⟨hg.trans h, fY.2 ⟨fun j hj => ?_, fun j hj _ => pS y hj⟩, by rw [vp]; omega, ?_⟩
  ·rw [pS y hj]; omega
  ·show 0 <= (0 : Int) /\ (0 : Int) < y.s /\ (cu (gz y) = 1 \/ (0 : Int) = 0)
   omega
 ·rw [Bool.eq_false_iff.2 h, Bool.eq_false_iff];intro hf;exact h (hg.symm.trans (dQ hf).1)
def vq (y : Ros) : Ros := if dM y then gz y else bI
def nR (y : Ros) : Nat := if dM y then 0 else 2
def fk (x : Ros) : Nat := if aW x then outs x else 0
def stN (x : Ros) : Nat :=
 if aW x then if 2 <= outs x \/ (outs x = 1 /\ x.gone = true) then 5 else if x.gone = true then 4 else if cu x = 1 then 3 else if outs x = 1 then 2 else 1 else 0
def jz (x : Ros) : Nat := if aW x then (jm x).getD 0 else 0
def gH (x : Ros) : Bool := aW x && (jm x).isSome
def iG (x : Ros) (m : Int) : Bool := aW x && (eX x m && decide (sta x m.toNat ≠ 1))
def cQ (x : Ros) (m : Int) : Ros := if iG x m then (if sta x m.toNat = 2 then eW (jE x 0) m.toNat 1 else eW x m.toNat 1) else x
theorem lY (x : Ros) {j : Nat} (h : j < 16) (u : UInt8) : cu (eW x j u) + (if sta x j = 2 then 1 else 0) = cu x + (if (u.toNat : Int) = 2 then 1 else 0) := by
 rw [fq, fq]; exact tq x h u 2
theorem sM (x : Ros) (c : Int) : cu (jE x c) = cu x := rfl
theorem rl (x : Ros) (c : Int) (j : Nat) : sta (jE x c) j = sta x j := rfl
theorem u1 : (((1 : UInt8).toNat : Nat) : Int) = 1 := rfl
theorem uC {x : Ros} {m : Int} (hf : aW x = true) (hq : eX x m = true) : m.toNat < 16 /\ ((m.toNat : Nat) : Int) < x.m /\ ((m.toNat : Nat) : Int) = m := by
 have h1 := nd hq;have h2 := fa (dQ hf).1;omega
theorem je {x : Ros} (m : Int) (hf : aW x = true) : aW (cQ x m) = true := by
 unfold cQ
 split
 ·rename_i hb
  have hq : eX x m = true := by
   unfold iG at hb;rw [hf, Bool.true_and, Bool.and_eq_true] at hb;exact hb.1
  obtain ⟨h16, hlt, _⟩ := uC hf hq;obtain ⟨hg, hs, h1, c0, c1, c2⟩ := dQ hf;have g := fa hg
  split
  ·rename_i h2
   have hh := lY (jE x 0) h16 1;rw [rl, if_pos h2, sM, if_neg (by rw [u1]; omega)] at hh;refine kS ⟨hg, mi (x := jE x 0) hs h16 hlt (by decide), by omega, ?_⟩
   show (0 : Int) <= 0 /\ (0 : Int) < x.s /\ (cu _ = 1 \/ (0 : Int) = 0)
   omega
  ·rename_i h2
   have hh := lY x h16 1;rw [if_neg h2, if_neg (by rw [u1]; omega)] at hh;refine kS ⟨hg, mi hs h16 hlt (by decide), by omega, ?_⟩
   show 0 <= x.cur /\ x.cur < x.s /\ (cu _ = 1 \/ x.cur = 0)
   omega
 ·exact hf
structure Cod (Y : Type) where
 zero : Y
 may : Y -> Bool
 num : Y -> Nat
 body : Y -> List UInt8
 told : Nat -> List UInt8 -> Y
 fits : Y -> Prop
 may_num : ∀ y, may y = true -> 1 <= num y /\ num y <= 4611686018427387904
 len : ∀ y, (body y).length <= 44
 back : ∀ y, fits y -> may y = true -> told (num y) (dh (body y)) = y
 num_told : ∀ n l, num (told n l) = n
 fits_told : ∀ n l, l.length = 44 -> n < 18446744073709551616 -> fits (told n l)
 zero_no : may zero = false
 zero_num : num zero = 0
 zero_fits : fits zero
namespace Cod
variable {Y : Type} (C : Cod Y)
def full (y : Y) : List UInt8 := dh (C.body y)
theorem ow (y : Y) : (C.full y).length = 44 := dB (C.len y)
theorem il (n : Nat) (y : Y) : eA n (C.full y) = eA n (C.body y) := by
 have h1 := C.ow y;have h2 := C.len y;unfold eA;rw [if_neg (show ¬ 44 < (C.full y).length by omega), if_neg (show ¬ 44 < (C.body y).length by omega)]
theorem my (n : Nat) (y : Y) : eM n (C.full y) = eM n (C.body y) := by
 unfold eM; rw [C.il]; unfold full; rw [iy n (C.len y)]
theorem fK {n : Nat} (y : Y) (h : n ≠ 0) : eA n (C.body y) = 0 := mJ h (C.len y)
theorem nA {b : Blk} (h : cZ b.toList = 0) (y : Y) : eM (dy b.toList) (C.body y) = b ↔ C.full y = cJ b.toList := by
 have hn : dy b.toList ≠ 0 := fun e => sh.1 e h
 have hp := C.fK y hn
 constructor
 ·intro e;have h2 := kL (mw b) hp;rw [e] at h2;exact h2.symm
 ·intro e;rw [kD hp, <- iy _ (C.len y)];have : dh (C.body y) = cJ b.toList := e;rw [this];exact oZ h
end Cod
open Go.RowKit
set_option maxRecDepth 100000
set_option linter.unusedVariables false
structure Mrk where
 id : Nat
 ring : Int
 first : Nat
 pos : Nat
deriving DecidableEq
open Go.RowKit
set_option maxRecDepth 100000
set_option linter.unusedVariables false
def hd (n : Nat) : Nat := (n + 15) / 16
open Go.RowKit
set_option maxRecDepth 100000
set_option linter.unusedVariables false
structure Nte where
 seq : Nat
 pos : Nat
 cells : Int
 sum : Nat
deriving DecidableEq
open Go.RowKit
set_option maxRecDepth 100000
set_option linter.unusedVariables false
inductive Stp where
 |wr (n : Int) (b : Blk)
 |fl
def nN (d : Int) (M : aJ) : Stp -> Int
 |.wr n _ => iB M d n
 |.fl => f8 M d
def nl (d : Int) (M : aJ) : Stp -> aJ
 |.wr n b => dz M d n b
 |.fl => ey M d
def goE (d : Int) : aJ -> List Stp -> Int
 |_, [] => 0
 |M, s :: l => if nN d M s = 0 then goE d (nl d M s) l else nN d M s
def goB (d : Int) : aJ -> List Stp -> aJ
 |M, [] => M
 |M, s :: l => if nN d M s = 0 then goB d (nl d M s) l else nl d M s
theorem go_ok {d : Int} {M : aJ} {s : Stp} {l : List Stp} (h : nN d M s = 0) : goE d M (s :: l) = goE d (nl d M s) l /\ goB d M (s :: l) = goB d (nl d M s) l := ⟨if_pos h, if_pos h⟩
theorem yf {d : Int} {M : aJ} {s : Stp} {l : List Stp} (h : nN d M s ≠ 0) : goE d M (s :: l) = nN d M s /\ goB d M (s :: l) = nl d M s := ⟨if_neg h, if_neg h⟩
structure LgS where
 d : Nat
 own : Nat
 size : Nat
 cnt : Nat
 fst : Nat
 pos : Nat
 nts : List Nte
open Go.RowKit
set_option linter.unusedVariables false
set_option maxRecDepth 100000
def rY (id ev : Nat) (R : Ros) (M : aJ) (m : Nat) : List Stp := [.wr (kb (dx M m 0) (dx M m 1) : Nat) (fx ev ⟨id, m, R⟩), .fl]
def dc (id ev : Nat) (R : Ros) (M : aJ) (m : Nat) : Int := if ce M m 0 = 0 then (if ce M m 1 = 0 then goE m M (rY id ev R M m) else ce M m 1) else ce M m 0
def cM (id ev : Nat) (R : Ros) (M : aJ) (m : Nat) : aJ := if ce M m 0 = 0 /\ ce M m 1 = 0 then goB m M (rY id ev R M m) else M
def cC (id ev : Nat) (R : Ros) : Nat -> Nat -> aJ -> Option Nat × Int × aJ
 |0, _, M => (none, 0, M)
 |k + 1, m, M =>
  if sta R m = 1 then cC id ev R k (m + 1) M
  else if dc id ev R M m = 9 then (some m, 0, cM id ev R M m)
  else if dc id ev R M m = 0 then cC id ev R k (m + 1) (cM id ev R M m)
  else (none, dc id ev R M m, cM id ev R M m)
structure HuS where
 M : aJ
 id : Nat
 ev : Nat
 R : Ros
def eB : Nat -> HuS -> Int × HuS
 |0, h => (0, h)
 |f + 1, h =>
  match cC h.id (h.ev + 1) h.R h.R.m.toNat 0 h.M with
  |(none, e, M') => (e, ⟨M', h.id, h.ev + 1, h.R⟩)
  |(some m, _, M') => eB f ⟨M', h.id, h.ev + 1, cQ h.R m⟩
def iU (h : HuS) : Int := (eB 17 h).1
def gO (h : HuS) : HuS := (eB 17 h).2
section
variable {M : aJ} {m : Nat} {S : List Blk}
theorem qZ {α : Type} (l : List α) (k j : Nat) (a d : α) (hk : k < l.length) : (l.set k a).getD j d = if j = k then a else l.getD j d := by
 by_cases e : j = k
 ·subst e; rw [if_pos rfl]; simp [List.getD, hk]
 ·rw [if_neg e]; simp only [List.getD]; rw [List.getElem?_set_ne (by omega)]
structure Wel (M : aJ) (m : Nat) (S : List Blk) : Prop where
 bH : M.bH = false
 left : M.left = 0
 lt : m < M.ds.length
 dev : M.ds.getD m bD = ⟨S, [], false⟩
theorem Wel.lit (h : Wel M m S) : df M m = 0 := iu h.bH h.lt
theorem Wel.yB (h : Wel M m S) : M.dev m = ⟨S, [], false⟩ := h.dev
theorem Wel.rdE (h : Wel M m S) {n : Nat} (hn : n < S.length) : ce M m n = 0 := by
 unfold ce;rw [if_pos h.lit, h.yB]
 show co S false (n : Int) = 0
 exact fc ⟨by omega, by omega⟩
theorem Wel.rdB (h : Wel M m S) {n : Nat} (hn : n < S.length) : dx M m n = S.getD n aA := by
 unfold dx;rw [if_pos h.lit, h.yB]
 show dR S [] false (n : Int) = _
 rw [jc (fc ⟨by omega, by omega⟩)]
 rfl
theorem Wel.laid (h : Wel M m S) {n : Nat} (hn : n < S.length) (b : Blk) :
  goE m M [.wr (n : Int) b, .fl] = 0 /\ Wel (goB m M [.wr (n : Int) b, .fl]) m (S.set n b) /\ (goB m M [.wr (n : Int) b, .fl]).ds.length = M.ds.length /\ (goB m M [.wr (n : Int) b, .fl]).steps = M.steps + 2 /\ ∀ j, j ≠ m -> (goB m M [.wr (n : Int) b, .fl]).ds.getD j bD = M.ds.getD j bD := by
 have hs : M.db = 0 := by unfold aJ.db; rw [h.left]; rfl
 have e1 : nN m M (.wr (n : Int) b) = 0 := by
  show iB _ _ _ = 0
  unfold iB;rw [if_pos (h.rdE hn), hs]
 obtain ⟨M1, hM1⟩ : ∃ M1, nl m M (.wr (n : Int) b) = M1 := ⟨_, rfl⟩;have f1 : M1 = (M.done.put m ⟨S, [((n : Int), b)], false⟩) := by
  rw [<- hM1]
  show dz _ _ _ _ = _
  unfold dz;rw [if_pos (h.rdE hn), if_neg (by rw [h.left]; omega), h.yB];have e : wrL S [] false (n : Int) b = [((n : Int), b)] := by unfold wrL; rw [if_pos (fc ⟨by omega, by omega⟩)]; rfl
  show aJ.put _ _ ⟨S, wrL S [] false (n : Int) b, false⟩ = _
  rw [e]
  rfl
 have g1 : M1.dev m = ⟨S, [((n : Int), b)], false⟩ := by
  rw [f1]
  show ((M.ds.set m _).getD m bD) = _
  rw [qZ _ _ _ _ _ h.lt, if_pos rfl]
 have hl1 : M1.ds.length = M.ds.length := by rw [f1]; exact List.length_set
 have hk1 : M1.bH = false := by rw [f1]; exact h.bH
 have hz1 : M1.left = 0 := by rw [f1]; show M.left - 1 = 0; rw [h.left]
 have hA : eV M1 m = 0 := by
  unfold eV;rw [if_pos (iu hk1 (by rw [hl1]; exact h.lt)), g1]
  rfl
 have e2 : nN m M1 .fl = 0 := by
  show f8 _ _ = 0
  unfold f8;rw [if_pos hA];unfold aJ.db;rw [hz1]
  rfl
 have f2 : nl m M1 .fl = M1.done.put m ⟨S.set n b, [], false⟩ := by
  show ey _ _ = _
  unfold ey;rw [if_pos hA, if_neg (by rw [hz1]; omega), g1]
  rfl
 have hE : goE m M [.wr (n : Int) b, .fl] = 0 := by
  rw [(go_ok e1).1, hM1, (go_ok e2).1]; rfl
 have hB : goB m M [.wr (n : Int) b, .fl] = M1.done.put m ⟨S.set n b, [], false⟩ := by
  rw [(go_ok e1).2, hM1, (go_ok e2).2, f2]; rfl
 have hlm : m < M1.ds.length := by rw [hl1]; exact h.lt
 refine ⟨hE, ?_, ?_, ?_, fun j hj => ?_⟩
 ·rw [hB];refine ⟨hk1, ?_, ?_, ?_⟩
  ·show M1.left - 1 = 0; rw [hz1]
  ·show m < (M1.ds.set m _).length; rw [List.length_set]; exact hlm
  ·show (M1.ds.set m _).getD m bD = _; rw [qZ _ _ _ _ _ hlm, if_pos rfl]
 ·rw [hB]; show (M1.ds.set m _).length = _; rw [List.length_set, hl1]
 ·rw [hB]; show M1.steps + 1 = _; rw [f1]; rfl
 ·rw [hB]
  show (M1.ds.set m _).getD j bD = _
  rw [qZ _ _ _ _ _ hlm, if_neg hj, f1]
  show (M.ds.set m _).getD j bD = _
  rw [qZ _ _ _ _ _ h.lt, if_neg hj]
theorem rJ (hd : M.bH = false) (hl : m < M.ds.length) (hg : (M.ds.getD m bD).g = true) (hS : 0 < (M.ds.getD m bD).S.length) : ce M m 0 = 9 := by
 unfold ce;rw [if_pos (iu hd hl)]
 show co (M.ds.getD m bD).S (M.ds.getD m bD).g 0 = 9
 rw [hg];exact jv ⟨by omega, by omega⟩
end
structure Old (ev : Nat) (S : List Blk) : Prop where
 two : 2 <= S.length
 a : gsN (S.getD 0 aA) <= ev
 b : gsN (S.getD 1 aA) <= ev
theorem zd (a b : Blk) : kb a b < 2 := by unfold kb; split <;> omega
theorem Old.more {ev ev' : Nat} {S : List Blk} (h : Old ev S) (he : ev <= ev') : Old ev' S := ⟨h.two, ap h.a he, ap h.b he⟩
def Now (ev : Nat) (x : Sup) (S : List Blk) : Prop := nwE (S.getD 0 aA) (S.getD 1 aA) = 0 /\ nwN (S.getD 0 aA) (S.getD 1 aA) = ev /\ nwS (S.getD 0 aA) (S.getD 1 aA) = x
theorem y8 {ev : Nat} {x : Sup} {S : List Blk} {n : Nat} {b : Blk} (hn : n < 2) (hS : Old ev S) (h1 : gsN b = ev + 1) (h2 : gsS b = x) : Now (ev + 1) x (S.set n b) /\ Old (ev + 1) (S.set n b) := by
 have ha := hS.a;have hb := hS.b;have h2' := hS.two;have e0 : (S.set n b).getD 0 aA = if 0 = n then b else S.getD 0 aA := qZ _ _ _ _ _ (by omega)
 have e1 : (S.set n b).getD 1 aA = if 1 = n then b else S.getD 1 aA := qZ _ _ _ _ _ (by omega)
 unfold Now;rcases (show n = 0 \/ n = 1 by omega) with rfl | rfl
 ·rw [if_pos rfl] at e0;rw [if_neg (by omega)] at e1;rw [e0, e1];refine ⟨⟨?_, ?_, ?_⟩, ⟨by rw [List.length_set]; exact h2', by rw [e0]; omega, by rw [e1]; omega⟩⟩
  ·unfold nwE; rw [if_neg (by omega)]
  ·unfold nwN; rw [if_neg (by omega)]; exact h1
  ·unfold nwS; rw [if_neg (by omega)]; exact h2
 ·rw [if_neg (by omega)] at e0;rw [if_pos rfl] at e1;rw [e0, e1];refine ⟨⟨?_, ?_, ?_⟩, ⟨by rw [List.length_set]; exact h2', by rw [e0]; omega, by rw [e1]; omega⟩⟩
  ·unfold nwE; rw [if_neg (by omega)]
  ·unfold nwN; rw [if_pos (by omega)]; exact h1
  ·unfold nwS; rw [if_pos (by omega)]; exact h2
structure HOk (id ev : Nat) (R : Ros) (M : aJ) : Prop where
 bH : M.bH = false
 left : M.left = 0
 len : R.m.toNat < M.ds.length
 fine : aW R = true
 ids : id ≠ 0 /\ id < 18446744073709551616
 two : ∀ m, m < R.m.toNat -> 2 <= (M.ds.getD m bD).S.length
 wel : ∀ m, m < R.m.toNat -> (M.ds.getD m bD).g = false -> ∃ S, M.ds.getD m bD = ⟨S, [], false⟩ /\ Old ev S
section
variable {id ev : Nat} {R : Ros} {M : aJ} {m : Nat}
theorem HOk.more {ev' : Nat} (h : HOk id ev R M) (he : ev <= ev') : HOk id ev' R M :=
 ⟨h.bH, h.left, h.len, h.fine, h.ids, h.two, fun m hm hg => by obtain ⟨S, e, hS⟩ := h.wel m hm hg; exact ⟨S, e, hS.more he⟩⟩
theorem HOk.put {ev1 : Nat} {S : List Blk} (h : HOk id ev1 R M) (hev : ev + 1 <= 4611686018427387904) (hm : m < R.m.toNat) (hd : M.ds.getD m bD = ⟨S, [], false⟩) (hS : Old ev S) :
  dc id (ev + 1) R M m = 0 /\ ∃ S', Wel (cM id (ev + 1) R M m) m S' /\ Now (ev + 1) ⟨id, m, R⟩ S' /\ (Old (ev + 1) S' /\ S'.length = S.length) /\ (cM id (ev + 1) R M m).ds.length = M.ds.length /\ (cM id (ev + 1) R M m).steps = M.steps + 2 /\ ∀ j, j ≠ m -> (cM id (ev + 1) R M m).ds.getD j bD = M.ds.getD j bD := by
 have hw : Wel M m S := ⟨h.bH, h.left, by have := h.len; omega, hd⟩;have h2 := hS.two;have r0 : ce M m 0 = 0 := hw.rdE (n := 0) (by omega);have r1 : ce M m 1 = 0 := hw.rdE (n := 1) (by omega);have hl := zd (dx M m 0) (dx M m 1);obtain ⟨n, hn⟩ : ∃ n, kb (dx M m 0) (dx M m 1) = n := ⟨_, rfl⟩;rw [hn] at hl;have hT : rY id (ev + 1) R M m = [.wr (n : Int) (fx (ev + 1) ⟨id, m, R⟩), .fl] := by unfold rY; rw [hn]
 have hE : dc id (ev + 1) R M m = goE m M [.wr (n : Int) (fx (ev + 1) ⟨id, m, R⟩), .fl] := by
  unfold dc; rw [if_pos r0, if_pos r1, hT]
 have hM : cM id (ev + 1) R M m = goB m M [.wr (n : Int) (fx (ev + 1) ⟨id, m, R⟩), .fl] := by
  unfold cM; rw [if_pos ⟨r0, r1⟩, hT]
 have hev' : evB (ev + 1) = true := by unfold evB; rw [decide_eq_true_iff]; omega
 have hsp : ef ⟨id, m, R⟩ = true := by
  unfold ef;simp only [Bool.and_eq_true, decide_eq_true_eq];exact ⟨⟨h.ids.1, h.fine⟩, by omega, by omega⟩
 have hg := uR (x := ⟨id, m, R⟩) h.ids.2 (jk hev' hsp);obtain ⟨k1, k2, k3, k4, k5⟩ := hw.laid (n := n) (by omega) (fx (ev + 1) ⟨id, m, R⟩);rw [hE, hM];obtain ⟨n1, n2⟩ := y8 hl hS hg.2.1 hg.2.2;exact ⟨k1, _, k2, n1, ⟨n2, List.length_set⟩, k3, k4, k5⟩
theorem HOk.dead (h : HOk id ev R M) (e : Nat) (hm : m < R.m.toNat) (hg : (M.ds.getD m bD).g = true) : dc id e R M m = 9 /\ cM id e R M m = M := by
 have r0 : ce M m 0 = 9 := rJ h.bH (by have := h.len; omega) hg (by have := h.two m hm; omega);have hn : ¬ ce M m 0 = 0 := fun e => by rw [r0] at e; exact absurd e (by decide)
 constructor
 ·unfold dc; rw [if_neg hn, r0]
 ·unfold cM; rw [if_neg fun e => hn e.1]
structure kP (N : Nat) (M M' : aJ) : Prop where
 len : M'.ds.length = M.ds.length
 gs : ∀ j, (M'.ds.getD j bD).g = (M.ds.getD j bD).g
 hi : ∀ j, N <= j -> M'.ds.getD j bD = M.ds.getD j bD
 sl : ∀ j, (M'.ds.getD j bD).S.length = (M.ds.getD j bD).S.length
theorem kP.refl (N : Nat) (M : aJ) : kP N M M := ⟨rfl, fun _ => rfl, fun _ _ => rfl, fun _ => rfl⟩
theorem kP.trans {N : Nat} {M1 M2 M3 : aJ} (h : kP N M1 M2) (k : kP N M2 M3) : kP N M1 M3 := ⟨k.len.trans h.len, fun j => (k.gs j).trans (h.gs j), fun j hj => (k.hi j hj).trans (h.hi j hj), fun j => (k.sl j).trans (h.sl j)⟩
theorem js (hev : ev + 1 <= 4611686018427387904) : ∀ (k m : Nat) (M : aJ), m + k = R.m.toNat -> HOk id (ev + 1) R M ->
  (∀ j, m <= j -> j < R.m.toNat -> (M.ds.getD j bD).g = false -> ∃ S, M.ds.getD j bD = ⟨S, [], false⟩ /\ Old ev S) ->
  (∀ j, j < m -> sta R j = 1 \/ ∃ S, M.ds.getD j bD = ⟨S, [], false⟩ /\ Now (ev + 1) ⟨id, j, R⟩ S) ->
  ∃ M', HOk id (ev + 1) R M' /\ kP R.m.toNat M M' /\ M'.steps <= M.steps + 2 * k /\
   ((cC id (ev + 1) R k m M = (none, 0, M') /\ ∀ j, j < R.m.toNat -> sta R j = 1 \/ ∃ S, M'.ds.getD j bD = ⟨S, [], false⟩ /\ Now (ev + 1) ⟨id, j, R⟩ S) \/
    ∃ d, cC id (ev + 1) R k m M = (some d, 0, M') /\ d < R.m.toNat /\ sta R d ≠ 1 /\ (M.ds.getD d bD).g = true)
 |0, m, M, hk, h, _, hlo => ⟨M, h, kP.refl _ _, ai, .inl ⟨rfl, fun j hj => hlo j (by omega)⟩⟩
 |k + 1, m, M, hk, h, hhi, hlo => by
  have hm : m < R.m.toNat := by omega
  by_cases hl : sta R m = 1
  ·obtain ⟨M', h1, h2, h3, h4⟩ := js hev k (m + 1) M (by omega) h (fun j hj => hhi j (by omega)) (fun j hj => by
    by_cases e : j = m
    ·subst e; exact .inl hl
    ·exact hlo j (by omega))
   refine ⟨M', h1, h2, by omega, ?_⟩;have e : cC id (ev + 1) R (k + 1) m M = cC id (ev + 1) R k (m + 1) M := by rw [cC, if_pos hl]
   rw [e];exact h4
  ·cases hg : (M.ds.getD m bD).g
   ·obtain ⟨S, hd, hS⟩ := hhi m ai hm hg;obtain ⟨p1, S', p2, p3, ⟨p4, p8⟩, p5, p6, p7⟩ := h.put hev hm hd hS;have e : cC id (ev + 1) R (k + 1) m M = cC id (ev + 1) R k (m + 1) (cM id (ev + 1) R M m) := by
     rw [cC, if_neg hl, if_neg (by rw [p1]; decide), if_pos p1]
    rw [e];generalize cM id (ev + 1) R M m = M1 at *;have hdv : M1.ds.getD m bD = ⟨S', [], false⟩ := p2.dev;have hlk : kP R.m.toNat M M1 := ⟨p5, fun j => by
     by_cases ej : j = m
     ·subst ej; rw [hdv, hg]
     ·rw [p7 j ej], fun j hj => p7 j (by omega), fun j => by
     by_cases ej : j = m
     ·subst ej; rw [hdv, hd]; exact p8
     ·rw [p7 j ej]⟩
    obtain ⟨M', h1, h2, h3, h4⟩ := js hev k (m + 1) M1 (by omega) ⟨p2.bH, p2.left, by rw [p5]; exact h.len, h.fine, h.ids, fun j hj => by
      rw [hlk.sl j]; exact h.two j hj, fun j hj hgj => by
      by_cases ej : j = m
      ·subst ej; exact ⟨S', hdv, p4⟩
      ·rw [p7 j ej] at hgj ⊢; exact h.wel j hj hgj⟩
     (fun j hj hjn hgj => by
      rw [p7 j (by omega)] at hgj ⊢; exact hhi j (by omega) hjn hgj)
     (fun j hj => by
      by_cases ej : j = m
      ·subst ej; exact .inr ⟨S', hdv, p3⟩
      ·rw [p7 j ej]; exact hlo j (by omega))
    refine ⟨M', h1, hlk.trans h2, by omega, ?_⟩;rcases h4 with h4 | ⟨d, d1, d2, d3, d4⟩
    ·exact .inl h4
    ·exact .inr ⟨d, d1, d2, d3, by rw [<- hlk.gs d]; exact d4⟩
   ·obtain ⟨p1, p2⟩ := h.dead (ev + 1) hm hg;have e : cC id (ev + 1) R (k + 1) m M = (some m, 0, M) := by rw [cC, if_neg hl, if_pos p1, p2]
    rw [e];exact ⟨M, h, kP.refl _ _, by omega, .inr ⟨m, rfl, hm, hl, hg⟩⟩
end
def gw (q : Nat -> Bool) : Nat -> Nat
 |0 => 0
 |n + 1 => gw q n + (if q n = true then 1 else 0)
theorem rq (q : Nat -> Bool) (n : Nat) : gw q n <= n := by
 induction n with
 |zero => exact ai
 |succ n ih => rw [gw]; split <;> omega
theorem rZ {q q' : Nat -> Bool} (h : ∀ j, q' j = true -> q j = true) (n : Nat) : gw q' n <= gw q n := by
 induction n with
 |zero => exact ai
 |succ n ih =>
  rw [gw, gw];by_cases e : q' n = true
  ·rw [if_pos e, if_pos (h n e)]; omega
  ·rw [if_neg e]; split <;> omega
theorem nq {q q' : Nat -> Bool} (h : ∀ j, q' j = true -> q j = true) {d : Nat} (h1 : q d = true) (h2 : q' d = false) : ∀ {n : Nat}, d < n -> gw q' n + 1 <= gw q n
 |0, hd => absurd hd (by omega)
 |n + 1, hd => by
  rw [gw, gw];by_cases e : d = n
  ·subst e;rw [h2, if_neg (by decide), if_pos h1];have := rZ h d;omega
  ·have := nq h h1 h2 (n := n) (by omega);by_cases e' : q' n = true
   ·rw [if_pos e', if_pos (h n e')]; omega
   ·rw [if_neg e']; split <;> omega
def ded (R : Ros) (M : aJ) (j : Nat) : Bool := !decide (sta R j = 1) && (M.ds.getD j bD).g
section
variable {id ev : Nat} {R : Ros} {M : aJ} {m : Nat}
theorem nr (hf : aW R = true) {d : Nat} (hd : d < R.m.toNat) (hs : sta R d ≠ 1) : (cQ R d).m = R.m /\ ∀ j, sta (cQ R d) j = if j = d then 1 else sta R j := by
 have hq : eX R (d : Int) = true := am ⟨by omega, by omega⟩;have h16 : d < 16 := by have := (uC hf hq).1; simpa using this
 have hb : iG R (d : Int) = true := by
  unfold iG;rw [hf, hq, Int.toNat_natCast, am hs]
  rfl
 unfold cQ;rw [if_pos hb, Int.toNat_natCast]
 split
 ·exact ⟨rfl, fun j => by rw [jb _ h16, rl]; rfl⟩
 ·exact ⟨rfl, fun j => by rw [jb _ h16]; rfl⟩
theorem l9 : ∀ (f : Nat) (ev : Nat) (R : Ros) (M : aJ), HOk id ev R M -> gw (ded R M) R.m.toNat < f -> ev + f + 1 <= 4611686018427387904 ->
  ∃ ev' R' M', eB f ⟨M, id, ev, R⟩ = (0, ⟨M', id, ev', R'⟩) /\ HOk id ev' R' M' /\ ev < ev' /\ ev' <= ev + gw (ded R M) R.m.toNat + 1 /\ R'.m = R.m /\ kP R.m.toNat M M' /\ M'.steps <= M.steps + 2 * R.m.toNat * f /\
   (∀ j, j < R.m.toNat -> (sta R' j = 1 ↔ (sta R j = 1 \/ (M.ds.getD j bD).g = true))) /\ (∀ j, j < R.m.toNat -> sta R' j = 1 \/ ∃ S, M'.ds.getD j bD = ⟨S, [], false⟩ /\ Now ev' ⟨id, j, R'⟩ S) /\ (gw (ded R M) R.m.toNat = 0 -> R' = R)
 |0, ev, R, M, h, hp, _ => absurd hp (by omega)
 |f + 1, ev, R, M, h, hp, hev => by
  obtain ⟨M1, h1, h2, h3, h4⟩ := js (id := id) (R := R) (ev := ev) (by omega) R.m.toNat 0 M (by omega) (h.more (by omega)) (fun j _ hj hg => h.wel j hj hg) (fun j hj => absurd hj (by omega));have hmul : 2 * R.m.toNat <= 2 * R.m.toNat * (f + 1) := Nat.le_mul_of_pos_right _ (by omega);rcases h4 with ⟨e, hall⟩ | ⟨d, e, hd, hs, hg⟩
  ·refine ⟨ev + 1, R, M1, ?_, h1, by omega, by omega, rfl, h2, by omega, fun j hj => ?_, hall, fun _ => rfl⟩
   ·rw [eB];simp only [e]
   ·constructor
    ·exact fun x => .inl x
    ·rintro (x | x)
     ·exact x
     ·rcases hall j hj with y | ⟨S, hS, _⟩
      ·exact y
      ·have := h2.gs j;rw [hS, x] at this;cases this
  ·obtain ⟨l1, l2⟩ := nr h.fine hd hs;have hf2 := je (d : Int) h.fine;have hk2 : HOk id (ev + 1) (cQ R d) M1 := ⟨h1.bH, h1.left, by rw [l1]; exact h1.len, hf2, h1.ids, by rw [l1]; exact h1.two, by rw [l1]; exact h1.wel⟩;have hq : ded R M d = true := by unfold ded; rw [hg, al hs]; rfl
   have hq' : ded (cQ R d) M1 d = false := by unfold ded; rw [l2 d, if_pos rfl]; rfl
   have hsub : ∀ j, ded (cQ R d) M1 j = true -> ded R M j = true := fun j hj => by
    unfold ded at hj ⊢;rw [l2 j, h2.gs j] at hj;by_cases e : j = d
    ·rw [if_pos e] at hj; simp at hj
    ·rw [if_neg e] at hj; exact hj
   have hlt := nq hsub hq hq' hd;obtain ⟨ev', R', M', s1, s2, s3, s4, s5, s6, s7, s8, s9, _⟩ := l9 f (ev + 1) (cQ R d) M1 hk2 (by rw [l1]; omega) (by omega);rw [l1] at s4 s6 s7 s8 s9;refine ⟨ev', R', M', ?_, s2, by omega, by omega, s5.trans l1, h2.trans s6, ?_, fun j hj => ?_, s9, fun e0 => absurd e0 (by omega)⟩
   ·rw [eB];simp only [e];exact s1
   ·have : 2 * R.m.toNat * (f + 1) = 2 * R.m.toNat * f + 2 * R.m.toNat := Nat.mul_succ _ _;omega
   ·rw [s8 j hj, l2 j, h2.gs j];by_cases ej : j = d
    ·subst ej; rw [if_pos rfl]; exact ⟨fun _ => .inr hg, fun _ => .inl rfl⟩
    ·rw [if_neg ej]
end
open Go.RowKit
set_option linter.unusedVariables false
set_option linter.unusedSectionVars false
structure aaH (g : Ros) (p : Nat) : Prop where
 gz_ : gz g = g
 geo : dM g = true
 lt : (p : Int) < g.m
section
variable {g : Ros} {p q k : Nat} (h : aaH g p)
include h
section
variable (hq : (q : Int) < g.m) (hne : q ≠ p)
include hq hne
end
def hX (g : Ros) (p : Nat) (s : Nat) : Ros := jE (eW g p 2) (s : Int)
section
variable {s : Nat} (hs : (s : Int) < g.s)
include hs
end
def hY (g : Ros) (p s : Nat) : Ros := if (s : Int) < g.s then hX g p s else g
end
open Go.RowKit
set_option linter.unusedVariables false
set_option maxRecDepth 100000
def szK (N : Nat) (s : Int) : List Int := List.replicate N (2 + s) ++ [50]
def fH (q : Nat -> Bool) (M : aJ) : Nat -> aJ
 |0 => M
 |k + 1 => if q k = true then fZ (fH q M k) (k : Int) else fH q M k
section
variable {N : Nat} {s : Int}
theorem yY {j : Nat} (hj : j < N) : (szK N s).getD j 0 = 2 + s := by
 unfold szK;simp only [List.getD];rw [List.getElem?_append_left (by simpa using hj), List.getElem?_replicate, if_pos hj]
 rfl
theorem ik : (szK N s).length = N + 1 := by simp [szK]
theorem ip {j : Nat} (hj : j < N) : (b9 (szK N s)).ds.getD j bD = ⟨List.replicate (2 + s).toNat aA, [], false⟩ := by
 rw [ft];simp only [List.getD, List.getElem?_map];have h := yY (s := s) hj;rw [List.getD] at h;rw [List.getElem?_eq_getElem (by rw [ik]; omega)] at h ⊢;simp only [Option.getD_some] at h;simp only [Option.map_some, Option.getD_some, h]
 rfl
theorem eN : (b9 (szK N s)).ds.length = N + 1 := by rw [ft, List.length_map, ik]
theorem tP (ev : Nat) {n : Nat} (hn : 2 <= n) : Old ev (List.replicate n aA) := by
 have e : ∀ j, (List.replicate n aA).getD j aA = aA := fun j => by
  simp only [List.getD, List.getElem?_replicate]
  split <;> rfl
 have g : gsN aA = 0 := lf.2 (by rw [rR]; decide);exact ⟨by simpa using hn, by rw [e, g]; omega, by rw [e, g]; omega⟩
structure aaG (q : Nat -> Bool) (k : Nat) (M M' : aJ) : Prop where
 len : M'.ds.length = M.ds.length
 bH : M'.bH = M.bH
 left : M'.left = M.left
 steps : M'.steps = M.steps
 at_ : ∀ j, M'.ds.getD j bD = if j < k /\ q j = true then ⟨(M.ds.getD j bD).S, [], true⟩ else M.ds.getD j bD
theorem uG {q : Nat -> Bool} {M : aJ} : ∀ {k : Nat}, k <= M.ds.length -> aaG q k M (fH q M k)
 |0, _ => ⟨rfl, rfl, rfl, rfl, fun j => by rw [if_neg (fun e => by have := e.1; omega)]; rfl⟩
 |k + 1, hk => by
  have ih := uG (q := q) (M := M) (k := k) (by omega);rw [fH];by_cases hq : q k = true
  ·rw [if_pos hq];have hl : k < (fH q M k).ds.length := by rw [ih.len]; omega
   have e : fZ (fH q M k) (k : Int) = (fH q M k).put k ⟨((fH q M k).ds.getD k bD).S, [], true⟩ := by
    unfold fZ;rw [if_pos (kn hl)]
    rfl
   rw [e];refine ⟨?_, ih.bH, ih.left, ih.steps, fun j => ?_⟩
   ·show ((fH q M k).ds.set k _).length = _; rw [List.length_set, ih.len]
   ·show ((fH q M k).ds.set k _).getD j bD = _
    rw [qZ _ _ _ _ _ hl];by_cases ej : j = k
    ·subst ej;rw [if_pos rfl, if_pos ⟨by omega, hq⟩, ih.at_ j, if_neg (fun e => by have := e.1; omega)]
    ·rw [if_neg ej, ih.at_ j];by_cases h2 : j < k /\ q j = true
     ·rw [if_pos h2, if_pos ⟨by omega, h2.2⟩]
     ·rw [if_neg h2, if_neg (fun e => h2 ⟨by have := e.1; omega, e.2⟩)]
  ·rw [if_neg hq];refine ⟨ih.len, ih.bH, ih.left, ih.steps, fun j => ?_⟩;rw [ih.at_ j];by_cases h2 : j < k /\ q j = true
   ·rw [if_pos h2, if_pos ⟨by omega, h2.2⟩]
   ·rw [if_neg h2, if_neg (fun e => h2 ⟨by
     have h3 := e.1;rcases Nat.lt_or_ge j k with h4 | h4
     ·exact h4
     ·have : j = k := by omega
      rw [this] at e;exact absurd e.2 hq, e.2⟩)]
end
def neR (N : Nat) (s : Int) : Ros := gz ⟨(N : Int), s, 40, Vector.replicate 16 0, 0, false⟩
theorem kQ {N : Nat} {s : Int} (h1 : 3 <= N) (h2 : N <= 16) (h3 : 1 <= s) (h4 : s <= 64) : aW (neR N s) = true := by
 unfold neR;rw [ri];exact am ⟨by show 3 <= (N : Int); omega, by show (N : Int) <= 16; omega, h3, h4, by show (40 : Int) <= 40; omega, by show (40 : Int) <= 256; omega⟩
theorem j0 (N : Nat) (s : Int) : (neR N s).m.toNat = N := by show ((N : Int)).toNat = N; omega
theorem wG {N : Nat} {s : Int} (h1 : 3 <= N) (h2 : N <= 16) (h3 : 1 <= s) (h4 : s <= 64) (q : Nat -> Bool) (ev : Nat) : HOk 9 ev (neR N s) (fH q (b9 (szK N s)) N) := by
 have hf := uG (q := q) (M := b9 (szK N s)) (k := N) (by rw [eN]; omega);refine ⟨hf.bH, hf.left, by rw [j0, hf.len, eN]; omega, kQ h1 h2 h3 h4, ⟨by decide, by decide⟩, fun m hm => ?_, fun m hm hg => ?_⟩
 ·rw [j0] at hm;rw [hf.at_ m, ip hm]
  split
  ·show 2 <= (List.replicate _ aA).length; rw [List.length_replicate]; omega
  ·show 2 <= (List.replicate _ aA).length; rw [List.length_replicate]; omega
 ·rw [j0] at hm;rw [hf.at_ m, ip hm] at hg ⊢;by_cases hq : m < N /\ q m = true
  ·rw [if_pos hq] at hg; cases hg
  ·rw [if_neg hq];exact ⟨_, rfl, tP ev (by omega)⟩
theorem n7 {N : Nat} {s : Int} {q : Nat -> Bool} {j : Nat} (hj : j < N) : ((fH q (b9 (szK N s)) N).ds.getD j bD).g = q j := by
 have hf := uG (q := q) (M := b9 (szK N s)) (k := N) (by rw [eN]; omega);rw [hf.at_ j, ip hj];cases hq : q j
 ·rw [if_neg (fun e => by cases e.2)]
 ·rw [if_pos ⟨hj, rfl⟩]
theorem rM {N : Nat} {s : Int} {j : Nat} (hj : j < 16) : sta (neR N s) j = 0 := pS _ hj
open Go.RowKit
set_option linter.unusedVariables false
set_option maxRecDepth 100000
theorem fu {a : Int} (h : -9223372036854775808 <= a /\ a <= 9223372036854775807) : IntKind.i64.wrap a = a := IntWalk.i64_in _ ⟨by omega, by omega⟩
open Go.RowKit
set_option linter.unusedVariables false
set_option maxRecDepth 100000
def ga : Elt (Int × Blk) := oD 96 129 underlying96 (by kernel_rfl)
structure dr (w : World) (p : Nat) (vS vL : Value) (S : List Blk) (L : List (Int × Blk)) (g : Bool) : Prop where
 at_ : w.heap[p]? = some (.cells #[vS, vL, .bool g] 98)
 S_ : aY jA w 0 vS S
 L_ : aY ga w 0 vL L
section
variable {w w' : World} {p : Nat} {vS vL : Value} {S : List Blk} {L : List (Int × Blk)} {g : Bool} {F : Nat -> Prop}
theorem dr.lt (h : dr w p vS vL S L g) : ∀ k, foot p vS vL k -> k < w.heap.size := by
 intro k hk;rcases hk with rfl | hk | hk
 ·exact (Array.getElem?_eq_some_iff.1 h.at_).1
 ·exact h.S_.iM k hk
 ·exact h.L_.iM k hk
theorem dr.only (h : dr w p vS vL S L g) (k : Only F w w') (hn : ∀ b, foot p vS vL b -> ¬ F b) : dr w' p vS vL S L g :=
 ⟨k.keep h.at_ (hn p (.inl rfl)), h.S_.only k fun b hb => hn b (.inr (.inl hb)), h.L_.only k fun b hb => hn b (.inr (.inr hb))⟩
theorem dr.below (h : dr w p vS vL S L g) (k : Below w.heap.size w w') : dr w' p vS vL S L g := h.only (Only.of_below (fun _ => False) k) fun _ _ e => e
end
theorem iX (p : Nat) (vS vL : Value) (S : List Blk) (L : List (Int × Blk)) (g : Bool) (n : Int) (w : World) (h : dr w p vS vL S L g) :
  Calls prog 43 #[.pointer (some ⟨p, 0, none⟩), .int .i64 n] w fun e w' => e = .returned (.int .i64 (co S g n)) /\ w = w' := by
 obtain ⟨c0, c1, c2⟩ := cells3 h.at_;obtain ⟨A, c, rfl, hc1, hc2⟩ := h.S_.form;by_cases h0 : n < 0
 ·have HE := ae (lk (S := S) (n := n) g (by omega));go_enter func43, ntmps43;go_wp2;go_ret;exact ⟨bz HE.out.symm, rfl⟩
 ·by_cases h1 : n < S.length
  ·cases g
   ·have HE := ae (fc (S := S) (n := n) (by omega));go_enter func43, ntmps43;go_wp2;go_ret;exact ⟨bz HE.out.symm, rfl⟩
   ·have HE := ae (jv (S := S) (n := n) (by omega));go_enter func43, ntmps43;go_wp2;go_ret;exact ⟨bz HE.out.symm, rfl⟩
  ·have HE := ae (lk (S := S) (n := n) g (by omega));go_enter func43, ntmps43;go_wp2;go_ret;exact ⟨bz HE.out.symm, rfl⟩
end Go.Proofs.YtehefifamaofkaaGreatDoor
