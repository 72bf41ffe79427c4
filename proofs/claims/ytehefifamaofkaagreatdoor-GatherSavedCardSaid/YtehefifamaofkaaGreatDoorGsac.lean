import Derived.Test.YtehefifamaofkaaGreatDoorGsab
import Derived.Laws.CopyOwn
import Derived.IntWalk
import Derived.Laws.AppendOwnNone
namespace Go.Proofs.YtehefifamaofkaaGreatDoor
set_option maxHeartbeats 8000000
open Go.Proofs.Tryz
open Go.RowKit
set_option linter.unusedVariables false
set_option maxRecDepth 100000
section
variable {D : Dev} {w w' : World} {p : Nat} {v : Value} {Fs : Nat -> Nat -> Prop} {ps : List Nat} {M : aM}
theorem aaa (d n : Int) (h : bn (bU D) w p v Fs ps M) :
  Calls prog 81 #[.pointer (some ⟨p, 0, none⟩), .int .i64 d, .int .i64 n] w fun e w' => e = .returned (.tuple #[blk (dA M d n), .int .i64 (cg M d n)]) /\ Below w.heap.size w w' := by
 have hA := (Below.refl w.heap.size w).alloc ai (.cells (cel aB).toArray 29);have h1 := h.below hA;have HT := ae (eI w aB 29);have HA := ae hA;by_cases hl : dj M d = 0
 ·rcases cX M d with ⟨e, _⟩ | ⟨e, _⟩ | ⟨e, hdk, k, rfl, hk⟩
  ·omega
  ·omega
  obtain ⟨x, hx⟩ : ∃ x, M.ds.getD k bI = x := ⟨_, rfl⟩;have hat := h1.devs.at_ k hk;rw [hx] at hat
  have HB : Hid (dA M (k : Int) n = ed x.S x.L x.g n) := ae (by unfold dA; rw [if_pos e, <- hx]; rfl);have HE : Hid (cg M (k : Int) n = ct x.S x.g n) := ae (by unfold cg; rw [if_pos e, <- hx]; rfl);have HO := ae (ie h1 hdk hk);have HD := ae (D.read n hat);have HSZ := ae (World.size_alloc w (.cells (cel aB).toArray 29));clear e h h1 hat hx hdk hA hl;rw [HB.out, HE.out];clear HB HE;generalize ed x.S x.L x.g n = y at *;generalize ct x.S x.g n = z at *;generalize ps.getD k 0 = q at *;go_enter func81, ntmps81;go_wp2_with (first | (refine av rfl (bL rfl) ?_) | fail);refine HO.out.mono ?_;rintro e w1 ⟨rfl, rfl⟩;go_wp2_with fail;refine HD.out.mono ?_;rintro e w2 ⟨rfl, hb⟩;have HT2 := ae (bO HT (by rw [HSZ.out]; omega) hb);have HB2 := ae (HA.out.trans (hb.mono (by rw [HSZ.out]; omega)));clear hb;go_wp2_with (first | (refine bi rfl (bD rfl rfl rfl HT2.out) ?_) | fail);exact bodyPost_ret (cN rfl _ _ _ rfl (World.rangeAt_setCells_same _ _ _ _ (by rw [aJ]; exact HT2))) rfl ⟨rfl, below_setCells HB2 ai _⟩
 ·have HB : Hid (dA M d n = aB) := ae (by unfold dA; rw [if_neg hl]);have HE : Hid (cg M d n = dj M d) := ae (by unfold cg; rw [if_neg hl]);have HO := ae (lM h1 hl);clear h h1 hA;rw [HB.out, HE.out];rcases cX M d with ⟨e, _⟩ | ⟨e, _⟩ | ⟨e, _⟩
  rotate_right 1
  ·exact absurd e hl
  all_goals
   rw [e] at HO ⊢;clear e hl;go_enter func81, ntmps81;go_wp2_with (first | (refine av rfl (bL rfl) ?_) | fail);refine HO.out.mono ?_;rintro e w1 ⟨rfl, rfl⟩;go_wp2_with (first | (refine av rfl (cP (c := aB) (parts := []) rfl rfl) ?_) | (refine bi rfl (bD rfl rfl rfl HT.out) ?_));exact bodyPost_ret (cN rfl _ _ _ rfl (World.rangeAt_setCells_same _ _ _ _ (by rw [aJ]; exact HT))) rfl ⟨rfl, below_setCells HA ai _⟩
theorem pS (d : Int) (h : bn (bU D) w p v Fs ps M) (hl : fh M d ≠ 0) :
  Calls prog 15 #[.pointer (some ⟨p, 0, none⟩), .int .i64 d] w fun e w' => e = .returned (.int .i64 (gl M d)) /\ Left (bU D) w p v Fs ps M.ds.length (eD M d) w' := by
 have HE : Hid (gl M d = fh M d) := ae (by unfold gl; rw [if_neg hl]);have HL : Hid (∀ w', Below w.heap.size w w' -> Left (bU D) w p v Fs ps M.ds.length (eD M d) w') := ae (fun w' hb => by
  have e : eD M d = M := by unfold eD; rw [if_neg hl]
  rw [e];exact ⟨Fs, ps, h.below hb, Only.of_below _ hb, Grow.same _ _⟩)
 by_cases h0 : dj M d = 0
 ·rcases cX M d with ⟨e, _⟩ | ⟨e, _⟩ | ⟨e, hdk, k, rfl, hk⟩
  ·omega
  ·omega
  obtain ⟨x, hx⟩ : ∃ x, M.ds.getD k bI = x := ⟨_, rfl⟩;have hat := h.devs.at_ k hk;rw [hx] at hat
  have hg : x.g = true := by
   cases hg : x.g
   ·exfalso; apply hl; unfold fh; rw [if_pos e, show M.dev (k : Int) = x from hx, hg, if_neg (by decide)]
   ·rfl
  have H9 : Hid (fh M (k : Int) = 9) := ae (by unfold fh; rw [if_pos e, show M.dev (k : Int) = x from hx, hg, if_pos rfl]);have HO := ae (ie h hdk hk);have HD := ae (D.dead hat);have HG := ae hg;clear e h hat hx hdk hl h0 hg;generalize ps.getD k 0 = q at *;go_enter func15, ntmps15;go_wp2_with fail;refine HO.out.mono ?_;rintro e w1 ⟨rfl, rfl⟩;go_wp2_with fail;refine HD.out.mono ?_;rintro e w2 ⟨rfl, hb⟩;rw [HG.out];have HBB := ae hb;clear hb;go_wp2_with fail;go_ret;exact ⟨bH (by rw [HE.out, H9.out]), HL.out _ HBB⟩
 ·have HA : Hid (fh M d = dj M d) := ae (by unfold fh; rw [if_neg h0]);have HO := ae (lM h h0);clear h hl;rw [HE.out, HA.out];rcases cX M d with ⟨e, _⟩ | ⟨e, _⟩ | ⟨e, _⟩
  rotate_right 1
  ·exact absurd e h0
  all_goals
   rw [e] at HO ⊢;clear e h0;go_enter func15, ntmps15;go_wp2_with fail;refine HO.out.mono ?_;rintro e w1 ⟨rfl, rfl⟩;go_wp2_with fail;go_ret;exact ⟨rfl, HL.out _ aj⟩
theorem yh (d : Int) (h : bn (bU D) w p v Fs ps M) (hs : M.steps < 1000000) (hll : M.left < 9223372036854775808) :
  Calls prog 15 #[.pointer (some ⟨p, 0, none⟩), .int .i64 d] w fun e w' => e = .returned (.int .i64 (gl M d)) /\ Left (bU D) w p v Fs ps M.ds.length (eD M d) w' := by
 by_cases hl : fh M d = 0;rotate_left 1
 ·exact pS d h hl
 have hlit : dj M d = 0 := by
  unfold fh at hl;by_cases h0 : dj M d = 0
  ·exact h0
  ·rw [if_neg h0] at hl; exact hl
 rcases cX M d with ⟨e, _⟩ | ⟨e, _⟩ | ⟨e, hdk, k, rfl, hk⟩
 ·omega
 ·omega
 obtain ⟨x, hx⟩ : ∃ x, M.ds.getD k bI = x := ⟨_, rfl⟩;have hat := h.devs.at_ k hk;rw [hx] at hat
 have hg : x.g = false := by
  cases hg : x.g
  ·rfl
  ·exfalso; unfold fh at hl; rw [if_pos e, show M.dev (k : Int) = x from hx, hg, if_pos rfl] at hl; omega
 have HEE : Hid (gl M (k : Int) = M.de) := ae (by unfold gl; rw [if_pos hl]);have HO := ae (ie h hdk hk);have HD := ae (D.dead hat);have HG := ae hg;obtain ⟨q, hq⟩ : ∃ q, ps.getD k 0 = q := ⟨_, rfl⟩;rw [hq] at HO HD;by_cases h1 : M.left = 1
 ·have HE : Hid (M.de = 8) := ae (by unfold aM.de; rw [if_pos h1]);have HS : Hid (eD M (k : Int) = M.night) := ae (by unfold eD; rw [if_pos hl, if_pos h1]);have HH := ae h;have H1 := ae h1;clear e h hat hx hdk hl hg h1 hlit hs hll hq;go_enter func15, ntmps15;go_wp2_with fail;refine HO.out.mono ?_;rintro e w1 ⟨rfl, rfl⟩;go_wp2_with fail;refine HD.out.mono ?_;rintro e w2 ⟨rfl, hb⟩;rw [HG.out];have HBB := ae hb;clear hb;go_wp2_with fail;refine (lj _ (HH.out.below HBB) H1).mono ?_;rintro e w3 ⟨rfl, h3, ho3⟩;go_wp2_with fail;go_ret;refine ⟨bH (by rw [HEE.out, HE.out]), ?_⟩;rw [HS.out];exact ⟨Fs, ps, h3, (Only.of_below _ HBB).trans (jU _ ho3) fun b hb => .inl hb, Grow.same _ _⟩
 ·have HE : Hid (M.de = 0) := ae (by unfold aM.de; rw [if_neg h1]);have HS : Hid (eD M (k : Int) = M.done.put k ⟨flS x.S x.L, [], x.g⟩) := ae (by unfold eD; rw [if_pos hl, if_neg h1, show M.dev (k : Int) = x from hx]; rfl);have HH := ae h;have H1 := ae h1;have HX := ae hx;have HSS := ae hs;have HLL := ae hll;have HQ := ae hq;clear e h hat hx hdk hl hg h1 hlit hs hll hq;go_enter func15, ntmps15;go_wp2_with fail;refine HO.out.mono ?_;rintro e w1 ⟨rfl, rfl⟩;go_wp2_with fail;refine HD.out.mono ?_;rintro e w2 ⟨rfl, hb⟩;rw [HG.out];have HBB := ae hb;clear hb;go_wp2_with fail;refine (mF 52 #[.pointer (some ⟨q, 0, none⟩)] #[] (HH.out.below HBB) H1 HSS HLL call52 (fun z w3 => z = 0 /\ Left (bU D) w2 p v Fs ps M.ds.length (eD M (k : Int)) w3) ?_).mono ?_
  ·intro w3 h3 ho3;have hat3 := h3.devs.at_ k hk;rw [show M.done.ds.getD k bI = x from HX.out, HG.out, HQ.out] at hat3;refine (D.flush hat3).mono ?_;rintro e w4 ⟨he, F', g1, g2, g3⟩;refine ⟨0, by simpa using he, rfl, Left.behind ho3 (Left.turn h3 hk g2 g3 (d := ⟨flS x.S x.L, [], x.g⟩) (show D.Dv _ _ _ _ _ _ by rw [HG.out, HQ.out]; simpa using g1) HS)⟩
  ·rintro e w4 ⟨z, rfl, rfl, Fs', ps', h4, ho4, hg4⟩;go_wp2_with fail;go_ret;refine ⟨bH (by rw [HEE.out, HE.out]), Fs', ps', h4, (Only.of_below _ HBB).trans ho4 fun b hb => .inl hb, fun b hb => ?_⟩;rcases hg4 b hb with e | e
   ·exact .inl e
   ·exact .inr (ap HBB.out.size e)
end
section
variable {D : Dev} {w w' : World} {p : Nat} {v : Value} {Fs : Nat -> Nat -> Prop} {ps : List Nat} {M : aM}
def wr3 (w : World) (n : Int) (b : Blk) (q : Option Addr) : World := ((w.alloc (.cells #[.int .i64 n] 3)).alloc (.cells (cel b).toArray 29)).alloc (.cells #[.pointer q] 84)
theorem jZ (w : World) (n : Int) (b : Blk) (q : Option Addr) : Below w.heap.size w (wr3 w n b q) /\ (wr3 w n b q).heap[w.heap.size]? = some (.cells #[.int .i64 n] 3) /\ (wr3 w n b q).heap[w.heap.size + 1]? = some (.cells (cel b).toArray 29) /\ (wr3 w n b q).heap[w.heap.size + 1 + 1]? = some (.cells #[.pointer q] 84) /\ (wr3 w n b q).heap.size = w.heap.size + 1 + 1 + 1 := by
 unfold wr3;have e1 := World.size_alloc (w := w) (o := .cells #[.int .i64 n] 3);have e2 := World.size_alloc (w := w.alloc (.cells #[.int .i64 n] 3)) (o := .cells (cel b).toArray 29);have e3 := World.size_alloc (w := (w.alloc (.cells #[.int .i64 n] 3)).alloc (.cells (cel b).toArray 29)) (o := .cells #[.pointer q] 84);have n1 := kv w #[.int .i64 n] 3;have n2 := kv (w.alloc (.cells #[.int .i64 n] 3)) (cel b).toArray 29;have n3 := kv ((w.alloc (.cells #[.int .i64 n] 3)).alloc (.cells (cel b).toArray 29)) #[.pointer q] 84;rw [e2, e1] at n3;rw [e1] at n2;refine ⟨(((Below.refl _ w).alloc ai _).alloc (by omega) _).alloc (by omega) _, bw (bw n1 _) _, bw n2 _, n3, by omega⟩
theorem aa5 {q a b c : Nat} {n : Int} {x : Blk} {F : Nat -> Prop} {S : List Blk} {L : List (Int × Blk)} {g : Bool} (h : D.Dv w F q S L g) (hL : L.length < 1000000) (hq : w.heap[a]? = some (.cells #[.pointer (some ⟨q, 0, none⟩)] 84)) (hn : w.heap[b]? = some (.cells #[.int .i64 n] 3)) (hx : w.heap[c]? = some (.cells (cel x).toArray 29)) :
  Calls prog 40 #[.pointer (some ⟨a, 0, none⟩), .pointer (some ⟨b, 0, none⟩), .pointer (some ⟨c, 0, none⟩)] w fun e w' => e = .returned (.int .i64 (ct S g n)) /\ ∃ F', D.Dv w' F' q S (wrL S L g n x) g /\ Only F w w' /\ Grow w F F' := by
 obtain ⟨c1, f1⟩ := one_cell hq;obtain ⟨c2, f2⟩ := one_cell hn;have HR := ae (gn hx);have HD := ae (D.write n x hL h);clear h hq hn hx;go_enter func40, ntmps40;go_wp2_with (first | (refine av rfl (br rfl rfl HR) ?_) | fail);refine HD.out.mono ?_;rintro e w4 ⟨rfl, F', g1, g2, g3⟩;go_wp2_with fail;go_ret;exact ⟨rfl, F', g1, g2, g3⟩
theorem n8 (d n : Int) (x : Blk) (h : bn (bU D) w p v Fs ps M) (h0 : dj M d ≠ 0) :
  Calls prog 9 #[.pointer (some ⟨p, 0, none⟩), .int .i64 d, .int .i64 n, blk x] w fun e w' => e = .returned (.int .i64 (dj M d)) /\ Below w.heap.size w w' := by
 have hA : Below w.heap.size w ((w.alloc (.cells #[.int .i64 n] 3)).alloc (.cells (cel x).toArray 29)) := ((Below.refl _ w).alloc ai _).alloc (by rw [World.size_alloc]; omega) _;have HO := ae (lM (h.below hA) h0);have HF := ae (jZ w n x none).1;clear h hA;rcases cX M d with ⟨e, _⟩ | ⟨e, _⟩ | ⟨e, _⟩
 rotate_right 1
 ·exact absurd e h0
 all_goals
  rw [e] at HO ⊢;clear e h0;go_enter func9, ntmps9;go_wp2_with (first | (refine av rfl (b9 rfl rfl) ?_) | fail);refine HO.out.mono ?_;rintro e w1 ⟨rfl, rfl⟩;go_wp2_with fail;go_ret;exact ⟨rfl, HF⟩
end
section
variable {D : Dev} {w w' : World} {p : Nat} {v : Value} {Fs : Nat -> Nat -> Prop} {ps : List Nat} {M : aM}
theorem ol (n : Int) (x : Blk) (h : bn (bU D) w p v Fs ps M) {k : Nat} (hdk : M.bK = false) (hk : k < M.ds.length) (he : ct (M.ds.getD k bI).S (M.ds.getD k bI).g n ≠ 0) :
  Calls prog 9 #[.pointer (some ⟨p, 0, none⟩), .int .i64 k, .int .i64 n, blk x] w fun e w' => e = .returned (.int .i64 (ct (M.ds.getD k bI).S (M.ds.getD k bI).g n)) /\ Below w.heap.size w w' := by
 obtain ⟨y, hy⟩ : ∃ y, M.ds.getD k bI = y := ⟨_, rfl⟩;obtain ⟨q, hq⟩ : ∃ q, ps.getD k 0 = q := ⟨_, rfl⟩;have hA : Below w.heap.size w ((w.alloc (.cells #[.int .i64 n] 3)).alloc (.cells (cel x).toArray 29)) := ((Below.refl _ w).alloc ai _).alloc (by rw [World.size_alloc]; omega) _;have HO := ae (ie (h.below hA) hdk hk);obtain ⟨hB, k0, k1, k2, hsz⟩ := jZ w n x (some ⟨q, 0, none⟩);have hat := (h.below hB).devs.at_ k hk;rw [hy, hq] at hat
 rw [hy] at he ⊢;rw [hq] at HO;have HD := ae (D.sure n hat);have HB := ae hB;obtain ⟨c0, f0⟩ := one_cell k0;obtain ⟨c2, f2⟩ := one_cell k2;rcases eh (S := y.S) (g := y.g) (n := n) with e | e | ⟨e, _⟩
 rotate_right 1
 ·exact absurd e he
 all_goals
  rw [e] at HD ⊢;clear e he h hA hB k0 k1 k2 hat hy hq hdk;go_enter func9, ntmps9;unfold wr3 at *;go_wp2_with (first | (refine av rfl (b9 rfl rfl) ?_) | fail);refine HO.out.mono ?_;rintro e w1 ⟨rfl, rfl⟩;go_wp2_with fail;refine HD.out.mono ?_;rintro e w2 ⟨rfl, hb⟩;have HBB := ae (HB.out.trans (hb.mono (by rw [hsz]; omega)));clear hb;go_wp2_with (first | (refine av rfl (bL rfl) ?_) | (refine bi rfl (iG rfl rfl rfl) ?_) | fail);go_ret;exact ⟨rfl, HBB.out.alloc HBB.out.size _⟩
theorem p9 (n : Int) (x : Blk) (h : bn (bU D) w p v Fs ps M) {k : Nat} (hdk : M.bK = false) (hk : k < M.ds.length) (he : ct (M.ds.getD k bI).S (M.ds.getD k bI).g n = 0) (hs : M.steps < 1000000) (hll : M.left < 9223372036854775808) (hL : (M.ds.getD k bI).L.length < 1000000) :
  Calls prog 9 #[.pointer (some ⟨p, 0, none⟩), .int .i64 k, .int .i64 n, blk x] w fun e w' => e = .returned (.int .i64 M.de) /\ Left (bU D) w p v Fs ps M.ds.length (dE M (k : Int) n x) w' := by
 obtain ⟨y, hy⟩ : ∃ y, M.ds.getD k bI = y := ⟨_, rfl⟩;obtain ⟨q, hq⟩ : ∃ q, ps.getD k 0 = q := ⟨_, rfl⟩;have hA : Below w.heap.size w ((w.alloc (.cells #[.int .i64 n] 3)).alloc (.cells (cel x).toArray 29)) := ((Below.refl _ w).alloc ai _).alloc (by rw [World.size_alloc]; omega) _;have HO := ae (ie (h.below hA) hdk hk);obtain ⟨hB, k0, k1, k2, hsz⟩ := jZ w n x (some ⟨q, 0, none⟩);have hat := (h.below hB).devs.at_ k hk;have hr0 : cg M (k : Int) n = 0 := by unfold cg; rw [if_pos (iI hdk hk), M.gL]; exact he
 rw [hy, hq] at hat
 rw [hy] at he hL;rw [hq] at HO;have HD := ae (D.sure n hat);have HB := ae hB;have HH := ae h;have HK0 := ae k0;have HK1 := ae k1;have HK2 := ae k2;have HE := ae he;have HSS := ae hs;have HLL := ae hll;have HL := ae hL;have HY := ae hy;have HQ := ae hq;have HR := ae hr0;obtain ⟨c0, f0⟩ := one_cell k0;obtain ⟨c2, f2⟩ := one_cell k2;rw [he] at HD;by_cases h1 : M.left = 1
 all_goals
  have H1 := ae h1;clear h1 he h hA hB k0 k1 k2 hat hy hq hdk hs hll hL hr0;go_enter func9, ntmps9;unfold wr3 at *;go_wp2_with (first | (refine av rfl (b9 rfl rfl) ?_) | fail);refine HO.out.mono ?_;rintro e w1 ⟨rfl, rfl⟩;go_wp2_with fail;refine HD.out.mono ?_;rintro e w2 ⟨rfl, hb⟩;have hb2 := HB.out.trans (hb.mono (by rw [hsz]; omega));have HBB := ae (hb2.alloc hb2.size (.cells (cel (ic y.S y.g n)).toArray 29));have HA0 := ae (bw (aC HK0 hb) (.cells (cel (ic y.S y.g n)).toArray 29));have HA1 := ae (bw (aC HK1 hb) (.cells (cel (ic y.S y.g n)).toArray 29));have HA2 := ae (bw (aC HK2 hb) (.cells (cel (ic y.S y.g n)).toArray 29));clear hb hb2 c0 c2 f0 f2 hsz;generalize ic y.S y.g n = z at *;go_wp2_with (first | (refine av rfl (bL rfl) ?_) | (refine bi rfl (iG rfl rfl rfl) ?_) | fail);generalize w2.alloc (.cells (cel z).toArray 29) = w3 at *
 ·refine (lj _ (HH.out.below HBB) H1).mono ?_;rintro e w4 ⟨rfl, h4, ho4⟩;go_wp2_with fail;go_ret;refine ⟨bH (by unfold aM.de; rw [if_pos H1.out]), ?_⟩;rw [show dE M (k : Int) n x = M.night from by unfold dE; rw [if_pos HR.out, if_pos H1.out]];exact Left.above HBB (Left.obj h4 ho4 rfl)
 ·refine (mF 40 #[] _ (HH.out.below HBB) H1 HSS HLL call40 (fun z w4 => z = 0 /\ Left (bU D) w3 p v Fs ps M.ds.length (dE M (k : Int) n x) w4) ?_).mono ?_
  ·intro w4 h4 ho4;have hat4 := h4.devs.at_ k hk;rw [show M.done.ds.getD k bI = y from HY.out, HQ.out] at hat4;have hne : ∀ j, j < 3 -> w.heap.size + j ≠ p := fun j _ e => by have := aW HH.out.at_; omega
   refine (aa5 hat4 HL (ho4.keep HA2 (hne 2 (by omega))) (ho4.keep HA0 (hne 0 (by omega))) (ho4.keep HA1 (hne 1 (by omega)))).mono ?_;rintro e w5 ⟨he5, F', g1, g2, g3⟩;refine ⟨_, he5, HE, Left.behind ho4 (Left.turn h4 hk g2 g3 (d := ⟨y.S, wrL y.S y.L y.g n x, y.g⟩) (show D.Dv _ _ _ _ _ _ by rw [HQ.out]; exact g1) ?_)⟩;unfold dE;rw [if_pos HR.out, if_neg H1.out, show M.dev (k : Int) = y from HY.out]
   rfl
  ·rintro e w5 ⟨z, rfl, rfl, hl5⟩;have HL5 := ae (Left.above HBB hl5);clear hl5;go_wp2_with fail;go_ret;exact ⟨bH (by unfold aM.de; rw [if_neg H1.out]), HL5⟩
theorem xE (d n : Int) (x : Blk) (h : bn (bU D) w p v Fs ps M) (hr : ∀ i, i < M.ds.length -> (M.ds.getD i bI).L.length < 1000000) (hs : M.steps < 1000000) (hll : M.left < 9223372036854775808) :
  Calls prog 9 #[.pointer (some ⟨p, 0, none⟩), .int .i64 d, .int .i64 n, blk x] w fun e w' => e = .returned (.int .i64 (iS M d n)) /\ Left (bU D) w p v Fs ps M.ds.length (dE M d n x) w' := by
 by_cases h0 : dj M d = 0
 ·rcases cX M d with ⟨e, _⟩ | ⟨e, _⟩ | ⟨e, hdk, k, rfl, hk⟩
  ·omega
  ·omega
  have hr0 : cg M (k : Int) n = ct (M.ds.getD k bI).S (M.ds.getD k bI).g n := by unfold cg; rw [if_pos e, M.gL]
  by_cases he : ct (M.ds.getD k bI).S (M.ds.getD k bI).g n = 0
  ·refine (p9 n x h hdk hk he hs hll (hr k hk)).mono ?_;rintro e w' ⟨rfl, hl⟩;exact ⟨by unfold iS; rw [hr0, if_pos he], hl⟩
  ·refine (ol n x h hdk hk he).mono ?_;rintro e w' ⟨rfl, hb⟩;exact ⟨by unfold iS; rw [hr0, if_neg he], Left.qv h hb (by unfold dE; rw [hr0, if_neg he])⟩
 ·refine (n8 d n x h h0).mono ?_;rintro e w' ⟨rfl, hb⟩;have hr0 : cg M d n = dj M d := by unfold cg; rw [if_neg h0]
  exact ⟨by unfold iS; rw [hr0, if_neg h0], Left.qv h hb (by unfold dE; rw [hr0, if_neg h0])⟩
end
def lc (k : Int) : gU := ⟨List.replicate k.toNat aB, [], false⟩
theorem fD (ks : List Int) : (bV ks).ds = ks.map lc := rfl
structure Making (kd : fk) (w wr : World) (v : Value) (Fs : Nat -> Nat -> Prop) (ps : List Nat) (ds : List gU) (left : Nat) (bK : Bool) (steps : Nat) : Prop where
 at_ : wr.heap[w.heap.size]? = some (.cells (kd.cs v left bK steps) kd.o)
 row : bc kd.E wr w.heap.size v ps
 devs : iV kd.K wr Fs ps ds
 apart : ∀ i, i < ds.length -> ∀ b, Fs i b -> w.heap.size < b /\ v.ownBlock ≠ some b
 below : Below w.heap.size w wr
section
variable {kd : fk} {w wr w1 w3 : World} {v v' : Value} {Fs : Nat -> Nat -> Prop} {F' : Nat -> Prop} {ps : List Nat} {ds : List gU} {p' : Nat} {d : gU} {o2 : Obj} {left steps : Nat} {bK : Bool}
theorem Making.next (hcs : ∀ v v', (kd.cs v left bK steps).setIfInBounds 0 v' = kd.cs v' left bK steps) (h : Making kd w wr v Fs ps ds left bK steps) (hb1 : Below wr.heap.size wr w1) (hF : ∀ b, F' b -> wr.heap.size <= b) (hd : kd.K.Dv w1 F' p' d.S d.L d.g)
  (hm : bc kd.E w3 w.heap.size v' (ps ++ [p'])) (hg : (w1.alloc o2).grownBy w3 v.ownBlock) (ho : ∀ x, v'.ownBlock = some x -> v.ownBlock = some x \/ w1.heap.size + 1 <= x) :
  Making kd w (w3.setCell ⟨w.heap.size, 0, none⟩ v') v' (upF Fs ds.length F') (ps ++ [p']) (ds ++ [d]) left bK steps := by
 have hx := aW h.at_;have h1 := hb1.size;have hsz : (w1.alloc o2).heap.size = w1.heap.size + 1 := World.size_alloc _ _;have hvl : ∀ b, v.ownBlock = some b -> b < wr.heap.size := h.row.i3;have o3 : Only (fun b => v.ownBlock = some b) w1 w3 := (Only.of_below _ ((Below.refl _ w1).alloc ai o2)).trans ((Only.refl (fun b => v.ownBlock = some b) _).grown hg fun k e => .inl e) fun b hb => .inl hb
 have hvx : v.ownBlock ≠ some w.heap.size := h.row.dc h.at_ kd.ne;have hat1 := aC h.at_ hb1;have hat3 := o3.keep hat1 hvx;have o4 : Only (fun b => b = w.heap.size \/ v.ownBlock = some b) w1 (w3.setCell ⟨w.heap.size, 0, none⟩ v') := (o3.widen fun b hb => .inr hb).setCell (p := ⟨w.heap.size, 0, none⟩) (.inl (.inl rfl)) _;have hv3 : v'.ownBlock ≠ some w.heap.size := hm.dc hat3 kd.ne;have hdv := h.devs.push hb1 hF hd;have hap : ∀ i, i < (ds ++ [d]).length -> ∀ b, upF Fs ds.length F' i b -> w.heap.size < b /\ v.ownBlock ≠ some b /\ b < w1.heap.size := fun i hi b hb => by
  have hlt := hdv.lt i hi b hb;rcases hb with ⟨e, hb⟩ | ⟨e, hb⟩
  ·have := hF b hb;exact ⟨by omega, fun e => by have := hvl b e; omega, hlt⟩
  ·rw [List.length_append, List.length_singleton] at hi;exact ⟨(h.apart i (by omega) b hb).1, (h.apart i (by omega) b hb).2, hlt⟩
 refine ⟨?_, hm.only (cQ w3 w.heap.size 0 v') fun b hb e => hv3 (by rw [hb, e]), hdv.only o4 fun i hi b hb e => ?_, fun i hi b hb => ⟨(hap i hi b hb).1, fun e => ?_⟩, ?_⟩
 ·have := heap_setCell_same w3 w.heap.size 0 _ _ v' hat3;rw [hcs] at this;exact this
 ·rcases e with e | e
  ·have := (hap i hi b hb).1; omega
  ·exact (hap i hi b hb).2.1 e
 ·rcases ho b e with e | e
  ·exact (hap i hi b hb).2.1 e
  ·have := (hap i hi b hb).2.2; omega
 ·have hb01 : Below w.heap.size w w1 := h.below.trans (hb1.mono h.below.size);refine hb01.trans (o4.below (fun b hb => ?_) hb01.size);rcases hb with e | e
  ·omega
  ·exact h.row.jX b e
theorem Making.done (h : Making kd w wr v Fs ps ds left bK steps) (h1 : 1 <= ds.length) (h2 : ds.length <= 17) : bn kd wr w.heap.size v Fs ps ⟨ds, left, bK, steps⟩ /\ (∀ b, fK w.heap.size v Fs ds.length b -> w.heap.size <= b) /\ Below w.heap.size w wr :=
 ⟨⟨h.at_, h.row.base (Nat.zero_le _), h.devs, fun i hi b hb => ⟨by have := (h.apart i hi b hb).1; omega, (h.apart i hi b hb).2⟩, h1, h2⟩, fun b hb => by
  rcases hb with e | e | ⟨i, hi, e⟩
  ·omega
  ·exact h.row.jX b e
  ·have := (h.apart i hi b e).1; omega, h.below⟩
end
def ei (kd : fk) (w : World) (ks : List Int) (e : Ending) (w' : World) : Prop :=
 Below w.heap.size w w' /\ ((ga ks /\ ∃ p v Fs ps, e = .returned (.tuple #[.pointer (some ⟨p, 0, none⟩), .int .i64 0]) /\ bn kd w' p v Fs ps (bV ks) /\ ∀ b, fK p v Fs (bV ks).ds.length b -> w.heap.size <= b) \/ (¬ ga ks /\ e = .returned (.tuple #[.pointer none, .int .i64 2])))
theorem ei.no {kd : fk} {w w' : World} {ks : List Int} (hb : Below w.heap.size w w') (hn : ¬ ga ks) {e : Ending} (he : e = .returned (.tuple #[.pointer none, .int .i64 2])) : ei kd w ks e w' := ⟨hb, .inr ⟨hn, he⟩⟩
theorem iX {ks : List Int} {j : Nat} (h : j < ks.length) : (ks.take (j + 1)).map lc = (ks.take j).map lc ++ [lc (ks.getD j 0)] := by
 rw [List.take_add_one, List.getD, List.getElem?_eq_getElem h, List.map_append]; rfl
section
variable {D : Dev} {w w' : World}
theorem aaO {A : Option Addr} {n c : Nat} {ks : List Int} (hl : RdE ir w w.heap.size A n ks) (hnc : n <= c) (hc : c <= maxLen) :
  Calls prog 34 #[.slice A n c] w (ei (bU D) w ks) := by
 have hlen : ks.length = n := hl.1;unfold maxLen at hc;by_cases h1 : n < 1
 ·have HN := ae (show ¬ ga ks from fun h => by have := h.1; omega);have h0 : n = 0 := by omega
  subst h0;clear hl hlen h1;go_enter func34, ntmps34;go_wp2;go_ret2;exact ei.no aj HN rfl
 by_cases h2 : 17 < n
 ·have HN := ae (show ¬ ga ks from fun h => by have := h.2.1; omega);have h1' : ¬((n : Int) < 1) := by omega
  have h2' : ((n : Int) > 17) := by omega
  clear hl hlen h1 h2;go_enter func34, ntmps34;go_wp2;go_ret2;exact ei.no aj HN rfl
 have h1' : ¬((n : Int) < 1) := by omega
 have h2' : ¬((n : Int) > 17) := by omega
 have h3' : ¬(17 < (n : Int)) := by omega
 have HL := ae hl;have HLEN := ae hlen;have HMK := ae (show Making (bU D) w (w.alloc (.cells #[.slice none 0 0, .int .i64 0, .int .i64 0, .bool false] 75)) (.slice none 0 0) (fun _ _ => False) [] [] 0 false 0 from
  ⟨heap_alloc_new w _, bc.nil _ _, ⟨rfl, fun i hi => absurd hi (Nat.not_lt_zero i), fun i j hi => absurd hi (Nat.not_lt_zero i)⟩, fun i hi => absurd hi (Nat.not_lt_zero i), (Below.refl _ w).alloc ai _⟩)
 clear hl hlen;go_enter func34, ntmps34;go_wp2_with fail;generalize w.alloc (.cells #[.slice none 0 0, .int .i64 0, .int .i64 0, .bool false] 75) = w0 at *;clear h1' h2' h3'
 go_loopw [21] (fun i wr => ∃ (j : Nat) (v : Value) (Fs : Nat -> Nat -> Prop) (ps : List Nat), j <= n /\ i = .int .i64 j /\ Making (bU D) w wr v Fs ps ((ks.take j).map lc) 0 false 0 /\ ∀ q, q < j -> 1 <= ks.getD q 0 /\ ks.getD q 0 <= 512) (fun i _ => n - (intOf i).toNat)
 case atStart => exact ⟨0, _, _, _, Nat.zero_le _, rfl, HMK, fun q hq => absurd hq (Nat.not_lt_zero q)⟩
 case round =>
  obtain ⟨j, v, Fs, ps, hj, rfl, hmk, hall⟩ := hrel;have HALL := ae hall;clear hall HMK;by_cases hlt : j < n
  ·have hlj : (j : Int) < (n : Int) := by omega
   obtain ⟨bA, oA, rfl, hbA, hcA⟩ := (HL.out.below hmk.below).int hlt;have HM := ae hmk;obtain ⟨AS, cS, rfl, hs1, hs2⟩ := hmk.row.form;unfold maxLen at hs2;have hpl : ps.length = j := by have := hmk.devs.len; rw [List.length_map, List.length_take] at this; have := HLEN.out; omega
   have HPL := ae hpl;obtain ⟨z, hz⟩ : ∃ z, ks.getD j 0 = z := ⟨_, rfl⟩;rw [hz] at hcA;have HZ := ae hz;clear hmk hz hpl;by_cases hok : 1 <= z /\ z <= 512
   ·obtain ⟨k, rfl⟩ : ∃ k : Nat, z = k := ⟨z.toNat, by omega⟩;have hk1 : 1 <= k := by omega
    have hk2 : k <= 512 := by omega
    clear hok;go_wp2_with fail;refine (D.new_ok k wr hk1 hk2).mono ?_;rintro e w1 ⟨p', F', rfl, hd1, hb1, hF1⟩;have hat1 := aC HM.out.at_ hb1;obtain ⟨c0, c1, c2, c3⟩ := dq hat1;have hrow1 := HM.out.row.below hb1;have hrow2 := hrow1.below ((Below.refl _ w1).alloc ai (.cells ((bU D).E.cel p').toArray (bU D).E.t));have HR := ae hrow2;have HNEW := ae (gP (E := (bU D).E) (l := [p']) w1 ((bU D).E.cel p').toArray (bU D).E.t (by rw [dH]; simp [cl]));have HSZ := ae (show w.heap.size <= (w1.alloc (.cells ((bU D).E.cel p').toArray (bU D).E.t)).heap.size by rw [World.size_alloc]; have := HM.out.below.size; have := hb1.size; omega);have HD1 := ae hd1;have HB1 := ae hb1;have HF1 := ae hF1;have HAT := ae hat1;have HPS := ae (show ps.length + 1 <= 34359738368 by have := HPL.out; omega);clear hd1 hb1 hF1 hat1 hrow1 hrow2;have hal : w.heap.size < w1.heap.size := aW HAT;go_wp2_with (first | (refine av rfl (eM (E := (bU D).E) (a := p') rfl rfl rfl (by decide)) ?_) | (at_builtin; refine gQ (bU D).E rfl _ _ rfl w.heap.size _ _ _ _ ps [p'] _ rfl rfl HR HNEW HSZ HPS ?_) | fail);intro v' w3 hm3 hg3 ho3;have hxv : v'.ownBlock ≠ some w.heap.size := fun e => by
     rcases ho3 _ e with e' | e'
     ·exact HM.out.row.dc HM.out.at_ (bU D).ne e'
     ·omega
    have HNX := ae (HM.out.next (fun _ _ => rfl) HB1 HF1 (d := lc k) HD1 hm3 hg3 ho3);have hvx : (Value.slice AS ps.length cS).ownBlock ≠ some w.heap.size := HM.out.row.dc HM.out.at_ (bU D).ne;have hat3 : w3.heap[w.heap.size]? = some _ := (hg3.block w.heap.size (by rw [World.size_alloc]; omega) (fun e => hvx e.symm)).trans (bw HAT _);obtain ⟨AV, cV, rfl, _, _⟩ := hm3.form;obtain ⟨d0, d1, d2, d3⟩ := dq hat3;have f0 := frozen_of_row w3 w.heap.size 0 _ _ hat3;clear hm3 hg3 ho3 hat3 c0 c1 c2 c3;go_wp2_with fail;go_roundw
    case rel =>
     refine ⟨j + 1, .slice AV (ps.length + 1) cV, upF Fs (List.map lc (List.take j ks)).length F', ps ++ [p'], by omega, by go_num, ?_, fun q hq => ?_⟩
     ·rw [iX (by have := HLEN.out; omega), HZ.out];have h6 := HNX.out;rw [show (ps ++ [p']).length = ps.length + 1 from by simp] at h6;exact h6
     ·by_cases e : q = j
      ·subst e; rw [HZ.out]; omega
      ·exact HALL.out q (by omega)
    case measure => simp [intOf]; omega
   ·have HB := ae HM.out.below;have HN := ae (show ¬ ga ks from fun h => hok (by have := h.2.2 z (by rw [<- HZ.out]; exact iv (by have := HLEN.out; omega)); exact this));go_wp2_with fail;refine (D.new_no z wr hok).mono ?_;rintro e w1 ⟨rfl, hb1⟩;have HB1 := ae (HB.out.trans (hb1.mono HB.out.size));clear hb1 hok;go_wp2_with fail;go_ret2;exact ei.no HB1 HN rfl
  ·have hjn : j = n := by omega
   subst hjn;have hlj : ¬((j : Int) < (j : Int)) := by omega
   have HM := ae hmk;clear hmk;go_wp2_with fail;go_ret2;have h5 := HM.out;have hLL := HLEN.out;rw [<- hLL, List.take_length] at h5;obtain ⟨g1, g2, g3⟩ := h5.done (by rw [List.length_map]; omega) (by rw [List.length_map]; omega);refine ⟨g3, .inl ⟨⟨by omega, by omega, fun k hk => ?_⟩, _, _, _, _, rfl, g1, g2⟩⟩;obtain ⟨i, hi, rfl⟩ := List.getElem_of_mem hk;have := HALL.out i (by omega);rwa [List.getD_eq_getElem?_getD, List.getElem?_eq_getElem hi] at this
end
structure ru where
 read : FuncId
 write : FuncId
 flush : FuncId
 fail : FuncId
 arm : FuncId
 devices : FuncId
 eg : FuncId
 bK : FuncId
structure aM.Wf (M : aM) : Prop where
 one : 1 <= M.ds.length
 cap : M.ds.length <= 17
 len : ∀ i, i < M.ds.length -> 1 <= (M.ds.getD i bI).S.length /\ (M.ds.getD i bI).S.length <= 512
structure Ben (I : ru) where
 Bn : World -> (Nat -> Prop) -> Nat -> aM -> Prop
 lt : ∀ {w F p M}, Bn w F p M -> ∀ b, F b -> b < w.heap.size
 only : ∀ {w w' F G p M}, Bn w F p M -> Only G w w' -> (∀ b, F b -> ¬ G b) -> Bn w' F p M
 wf : ∀ {w F p M}, Bn w F p M -> M.Wf
 read : ∀ {w F p M} (d n : Int), Bn w F p M -> Calls prog I.read #[.pointer (some ⟨p, 0, none⟩), .int .i64 d, .int .i64 n] w fun e w' => e = .returned (.tuple #[blk (dA M d n), .int .i64 (cg M d n)]) /\ Below w.heap.size w w'
 write : ∀ {w F p M} (d n : Int) (b : Blk), Room M 1 -> Bn w F p M -> Calls prog I.write #[.pointer (some ⟨p, 0, none⟩), .int .i64 d, .int .i64 n, blk b] w fun e w' => e = .returned (.int .i64 (iS M d n)) /\ ∃ F', Bn w' F' p (dE M d n b) /\ Only F w w' /\ Grow w F F'
 flush : ∀ {w F p M} (d : Int), Room M 1 -> Bn w F p M -> Calls prog I.flush #[.pointer (some ⟨p, 0, none⟩), .int .i64 d] w fun e w' => e = .returned (.int .i64 (gl M d)) /\ ∃ F', Bn w' F' p (eD M d) /\ Only F w w' /\ Grow w F F'
 fail : ∀ {w F p M} (d : Int), Bn w F p M -> Calls prog I.fail #[.pointer (some ⟨p, 0, none⟩), .int .i64 d] w fun e w' => e = .returned (.int .i64 (ky M d)) /\ ∃ F', Bn w' F' p (fo M d) /\ Only F w w' /\ Grow w F F'
 arm : ∀ {w F p M} (n : Int), Bn w F p M -> Calls prog I.arm #[.pointer (some ⟨p, 0, none⟩), .int .i64 n] w fun e w' => e = .returned (.int .i64 (iU M n)) /\ ∃ F', Bn w' F' p (gv M n) /\ Only F w w' /\ Grow w F F'
 devices : ∀ {w F p M}, Bn w F p M -> Calls prog I.devices #[.pointer (some ⟨p, 0, none⟩)] w fun e w' => e = .returned (.int .i64 (M.ds.length : Int)) /\ Below w.heap.size w w'
 eg : ∀ {w F p M} (d : Int), Bn w F p M -> Calls prog I.eg #[.pointer (some ⟨p, 0, none⟩), .int .i64 d] w fun e w' => e = .returned (.int .i64 (dz M d)) /\ Below w.heap.size w w'
 bK : ∀ {w F p M}, Bn w F p M -> Calls prog I.bK #[.pointer (some ⟨p, 0, none⟩)] w fun e w' => e = .returned (.bool M.bK) /\ Below w.heap.size w w'
theorem Ben.below {I : ru} (R : Ben I) {w w' : World} {F : Nat -> Prop} {p : Nat} {M : aM} (h : R.Bn w F p M) (k : Below w.heap.size w w') : R.Bn w' F p M := R.only h (Only.of_below (fun _ => False) k) fun _ _ e => e
section
variable {k : fk} {w w' : World} {F G : Nat -> Prop} {p : Nat} {M M' : aM}
def z7 (Bn : World -> (Nat -> Prop) -> Nat -> aM -> Prop) (w : World) (ks : List Int) (e : Ending) (w' : World) : Prop :=
 Below w.heap.size w w' /\ ((ga ks /\ ∃ p F, e = .returned (.tuple #[.pointer (some ⟨p, 0, none⟩), .int .i64 0]) /\ Bn w' F p (bV ks) /\ ∀ b, F b -> w.heap.size <= b) \/ (¬ ga ks /\ e = .returned (.tuple #[.pointer none, .int .i64 2])))
def At {I : ru} (R : Ben I) (w0 : World) (B : Nat) (w : World) (p : Nat) (M : aM) : Prop := ∃ F, R.Bn w F p M /\ (∀ b, F b -> B <= b) /\ Below B w0 w /\ B <= w0.heap.size
def InB (k : fk) (w : World) (F : Nat -> Prop) (p : Nat) (M : aM) : Prop := ∃ v Fs ps, F = fK p v Fs M.ds.length /\ bn k w p v Fs ps M
theorem InB.lt (h : InB k w F p M) : ∀ b, F b -> b < w.heap.size := by
 obtain ⟨v, Fs, ps, rfl, h⟩ := h;exact h.lt
theorem InB.only (h : InB k w F p M) (ho : Only G w w') (hn : ∀ b, F b -> ¬ G b) : InB k w' F p M := by
 obtain ⟨v, Fs, ps, rfl, h⟩ := h;exact ⟨v, Fs, ps, rfl, h.only ho hn⟩
theorem Left.out {v : Value} {Fs : Nat -> Nat -> Prop} {ps : List Nat} (h : Left k w p v Fs ps M.ds.length M' w') : ∃ F', InB k w' F' p M' /\ Only (fK p v Fs M.ds.length) w w' /\ Grow w (fK p v Fs M.ds.length) F' := by
 obtain ⟨Fs', ps', h1, h2, h3⟩ := h;exact ⟨_, ⟨v, Fs', ps', rfl, h1⟩, h2, h3⟩
end
def aaW : ru where
 read := 81
 write := 9
 flush := 15
 fail := 11
 arm := 13
 devices := 25
 eg := 94
 bK := 78
theorem Dev.aaX {D : Dev} {w : World} {p : Nat} {v : Value} {Fs : Nat -> Nat -> Prop} {ps : List Nat} {M : aM} (h : bn (bU D) w p v Fs ps M) : M.Wf :=
 ⟨h.one, h.cap, fun i hi => ⟨(D.fit (h.devs.at_ i hi)).2, D.cap (h.devs.at_ i hi)⟩⟩
def abf (D : Dev) : Ben aaW where
 Bn := InB (bU D)
 lt := InB.lt
 only := InB.only
 wf := fun ⟨_, _, _, _, h⟩ => D.aaX h
 read := fun d n ⟨_, _, _, _, h⟩ => aaa d n h
 write := fun d n b hr ⟨_, _, _, e, h⟩ => by
  subst e;exact (xE d n b h (fun i hi => hr.at_ hi) (by have := hr.1; omega) hr.2.1).mono fun e w' ⟨h1, h2⟩ => ⟨h1, h2.out⟩
 flush := fun d hr ⟨_, _, _, e, h⟩ => by
  subst e;exact (yh d h (by have := hr.1; omega) hr.2.1).mono fun e w' ⟨h1, h2⟩ => ⟨h1, h2.out⟩
 fail := fun d ⟨_, _, _, e, h⟩ => by
  subst e;exact (zr d h).mono fun e w' ⟨h1, h2⟩ => ⟨h1, h2.out⟩
 arm := fun {w F p M} n ⟨_, _, _, e, h⟩ => by
  subst e;exact (aaF n h).mono fun e w' ⟨h1, h2, h3⟩ => ⟨h1, (Left.obj h2 h3 (by unfold gv; split <;> rfl)).out⟩
 devices := fun ⟨_, _, _, _, h⟩ => (mH h).mono fun e w' ⟨h1, h2⟩ => ⟨h1, fc h2⟩
 eg := fun d ⟨_, _, _, _, h⟩ => tP d h
 bK := fun ⟨_, _, _, _, h⟩ => (qZ h).mono fun e w' ⟨h1, h2⟩ => ⟨h1, fc h2⟩
theorem ei.hid {k : fk} {w w' : World} {ks : List Int} {e : Ending} (h : ei k w ks e w') : z7 (InB k) w ks e w' := by
 obtain ⟨h1, h | h⟩ := h
 ·obtain ⟨h0, p, v, Fs, ps, h2, h3, h4⟩ := h;exact ⟨h1, .inl ⟨h0, p, _, h2, ⟨v, Fs, ps, rfl, h3⟩, h4⟩⟩
 ·exact ⟨h1, .inr h⟩
structure nM extends Ben aaW where
 new : ∀ {w A n c ks}, RdE ir w w.heap.size A n ks -> n <= c -> c <= maxLen -> Calls prog 34 #[.slice A n c] w (z7 Bn w ks)
def aP : nM where
 toBen := abf aae
 new := fun h1 h2 h3 => (aaO h1 h2 h3).mono fun _ _ h => h.hid
def piece (b : List UInt8) (at_ k : Nat) : List UInt8 := (b.drop at_).take k
theorem cH {b : List UInt8} {p k : Nat} (h : p + k <= b.length) : (piece b p k).length = k := by simp [piece]; omega
def ofL (l : List UInt8) : Blk := Vector.ofFn fun i => l.getD i.val 0
theorem nd (l : List UInt8) {j : Nat} (h : j < 64) : byt (ofL l) j = bt l j := by
 rw [kK _ h];simp [ofL, bt]
theorem ry {l : List UInt8} (h : l.length = 64) : (ofL l).toList = l := fE (by simp [h]) fun k hk => nd l (by simpa using hk)
theorem re (b : Blk) : ofL b.toList = b := xv fun j h => nd _ h
theorem eQ (b : Blk) : b.toList.length = 64 := by simp
theorem oQ {l : List UInt8} {p k j : Nat} (h : j < k) : bt (piece l p k) j = bt l (p + j) := by
 unfold bt piece;simp [List.getD, List.getElem?_take_of_lt h, List.getElem?_drop]
theorem iD (x y z : List UInt8) {p k : Nat} (hp : x.length = p) (hk : y.length = k) : piece (x ++ (y ++ z)) p k = y := by
 subst hp hk;simp [piece]
theorem jf (y z : List UInt8) {k : Nat} (hk : y.length = k) : piece (y ++ z) 0 k = y := by
 subst hk;simp [piece]
theorem dO {x y : List UInt8} {j : Nat} (h : j < x.length) : bt (x ++ y) j = bt x j := by
 unfold bt;simp [List.getD, List.getElem?_append_left h]
theorem dS {x y : List UInt8} {j : Nat} (h : x.length <= j) : bt (x ++ y) j = bt y (j - x.length) := by
 unfold bt;simp [List.getD, List.getElem?_append_right h]
theorem jd {n j : Nat} : bt (List.replicate n 0) j = 0 := by
 unfold bt;by_cases h : j < n
 ·simp [List.getD, h]
 ·simp [List.getD, h]
theorem f9 {l x : List UInt8} {off j : Nat} (h : off + x.length <= l.length) : bt (splice l off x) j = if off <= j /\ j < off + x.length then bt x (j - off) else bt l j := by
 unfold splice;have h1 : (l.take off).length = off := by simp; omega
 by_cases hlo : j < off
 ·rw [if_neg (by omega), dO (by omega)];unfold bt;simp [List.getD, List.getElem?_take_of_lt hlo]
 ·rw [dS (by omega), h1];by_cases hhi : j < off + x.length
  ·rw [if_pos (by omega), dO (by omega)]
  ·rw [if_neg (by omega), dS (by omega)];unfold bt;simp only [List.getD, List.getElem?_drop];rw [show off + x.length + (j - off - x.length) = j from by omega]
theorem ki (s : Int) (w : World) (h1 : 1 <= s) (h2 : s <= 8) : Calls prog 142 #[.int .i64 s] w fun e w' => e = .returned (.bool true) /\ w = w' := by
 go_enter func142, ntmps142;go_wp2;go_ret;exact ⟨rfl, rfl⟩
def qw (n k : Nat) : Bool := decide (n < 2 ^ k)
theorem pq (n : Nat) (c : Int) (w : World) (h0 : 0 <= c) (h64 : c <= 64) : Calls prog 143 #[.int .u64 n, .int .i64 c] w fun e w' => e = .returned (.bool (qw n c.toNat)) /\ w = w' := by
 obtain ⟨k, rfl⟩ := Int.eq_ofNat_of_zero_le h0;rw [Int.toNat_natCast];go_enter func143, ntmps143;go_wp2;go_ret;refine ⟨bg ?_, rfl⟩;have e : ((n : Int) / 2 ^ k) = ((n / 2 ^ k : Nat) : Int) := by simp
 rw [e];unfold qw;have h2 : 0 < 2 ^ k := Nat.pow_pos (by omega);rw [Bool.eq_iff_iff];simp only [beq_iff_eq, decide_eq_true_eq];rw [<- Nat.div_eq_zero_iff_lt h2];omega
theorem vG (n k j : Nat) (h : j < k) : bt (bf 8 k n) j = (n : Int) / 2 ^ (j * 8) % 256 := by
 have hl : j < (bf 8 k n).length := by rw [aF]; exact h
 rw [dJ hl, gx (by omega) hl, Nat.mul_comm 8 j];simp
theorem uC (n k : Nat) (w : World) (h1 : 1 <= k) (h2 : k <= 8) (hn : n < 256 ^ k) :
  Calls prog 129 #[.int .u64 n, .int .i64 k] w fun e w' => ∃ v, e = .returned (.tuple #[v, .int .i64 0]) /\ Own w' w.heap.size v (bf 8 k n) /\ Below w.heap.size w w' := by
 have hf : qw n (k * 8) = true := by
  have e : (2 : Nat) ^ (k * 8) = 256 ^ k := by rw [Nat.mul_comm, Nat.pow_mul]
  unfold qw;rw [e]
  simpa using hn
 have HF := ae hf;clear hf;have hmk := fun (kl kc : IntKind) (m : Nat) (h1 : 1 * m <= 281474976710656) (h2 : m <= 9223372036854775807) (W : World) => run_make_row' (P := prog) 116 5 (.int .u8 0) 1 underlying116 qt rfl kl kc m h1 h2 W
 have hmk1 := hmk .i64 .i64 k (by omega) (by omega);clear hmk;go_enter func129, ntmps129;go_wp2_with (first | (go_at_call 142; refine (ki _ _ (by omega) (by omega)).mono ?_; rintro e w' ⟨rfl, rfl⟩));refine (pq _ _ _ (by omega) (by omega)).mono ?_;rintro e w' ⟨rfl, rfl⟩;rw [show ((k : Int) * 8).toNat = k * 8 from by omega, HF.out];go_wp2;clear hmk1;have hr0 := World.rowIs_made w (Value.int .u8 0) k 5;obtain ⟨g, hg⟩ : ∃ g, g = w.heap.size := ⟨_, rfl⟩;rw [<- hg] at hr0 ⊢;have hbl0 : Below g w (w.alloc (.cells (madeCells #[Value.int .u8 0] k) 5)) := by rw [hg]; exact aj.alloc ai _
 have HG := ae hg;clear hg HF
 go_loopw [21] (fun i wr => ∃ (j : Nat) (f : Nat -> Int), j <= k /\ i = .int .i64 j /\ wr.rowIs g 5 k (fun j => .int .u8 (f j)) /\ (∀ m, m < j -> f m = bt (bf 8 k n) m) /\ (∀ m, 0 <= f m /\ f m <= 255) /\ Below g w wr) (fun i _ => k - (intOf i).toNat)
 case atStart => exact ⟨0, fun _ => 0, Nat.zero_le _, rfl, hr0, fun j hj => absurd hj (by omega), fun _ => by simp, hbl0⟩
 case round =>
  obtain ⟨j, f, hj, rfl, hrow, hf, hr, hbl⟩ := hrel;by_cases hlt : j < k
  ·have hc := hrow.cell hlt;have hfr := hrow.frozen j;have HFF := ae hf;have HR := ae hr;clear hf hr;go_wp2;go_roundw
   case rel =>
    refine ⟨j + 1, _, by omega, by go_num, (hrow.set j _).congr (g := fun m => .int .u8 (if m = j then bt (bf 8 k n) j else f m)) ?_, ?_, ?_, hbl.setCell ai _⟩
    ·intro m hm
     show (if m = j then Value.int IntKind.u8 (↑n / 2 ^ (j * 8) % 256) else Value.int .u8 (f m)) = _
     split
     ·rw [vG n k j hlt]
     ·rfl
    ·intro m hm
     show (if m = j then bt (bf 8 k n) j else f m) = _
     split
     ·subst m; rfl
     ·exact HFF.out m (by omega)
    ·intro m
     show 0 <= (if m = j then bt (bf 8 k n) j else f m) /\ (if m = j then bt (bf 8 k n) j else f m) <= 255
     split
     ·exact ⟨iY _ _, kh _ _⟩
     ·exact HR.out m
   case measure => simp [intOf]; omega
  ·go_wp2;go_ret2;have hjk : j = k := by omega
   subst hjk;refine ⟨_, rfl, Own.pX (aF 8 j n) (Nat.le_of_eq HG.out.symm) hrow ai (by unfold maxLen; omega) hf hr, ?_⟩;rw [<- HG.out];exact hbl
theorem lO {b : List UInt8} {p k : Nat} (h : p + k < b.length) : (val 8 (piece b p (k + 1)) : Int) = val 8 (piece b p k) + 2 ^ (k * 8) * bt b (p + k) := by
 have hk : k < (b.drop p).length := by simp; omega
 have e : piece b p (k + 1) = piece b p k ++ [b[p + k]] := by
  unfold piece;rw [List.take_succ_eq_append_getElem hk];simp
 rw [e, val_append, cH (by omega), dJ h, Nat.mul_comm 8 k];rw [sy];push_cast
 rfl
theorem cF {b : List UInt8} {p k : Nat} (h : p + k <= b.length) : val 8 (piece b p k) < 2 ^ (k * 8) := by
 have := pY (nr (piece b p k));rwa [cH h, Nat.mul_comm] at this
theorem uE {s : Nat} (x : Nat) (h1 : x <= 255) (hs : s <= 56) : x * 2 ^ s <= 18446744073709551615 := by
 have h2 : 2 ^ s <= 2 ^ 56 := Nat.pow_le_pow_right (by omega) hs;have h3 : x * 2 ^ s <= 255 * 2 ^ 56 := Nat.mul_le_mul h1 h2;omega
theorem zU {V s : Nat} {x : Int} (h0 : 0 <= x) (h1 : x <= 255) (hs : s <= 56) (hV : V < 2 ^ s) :
  bits .or .u64 (V : Int) (IntKind.u64.wrap (x * 2 ^ s)) = V + 2 ^ s * x := by
 obtain ⟨m, rfl⟩ := Int.eq_ofNat_of_zero_le h0;have hf := uE (s := s) m (by omega) hs;have hV' : V < 18446744073709551616 := by
  have h2 : 2 ^ s <= 2 ^ 56 := Nat.pow_le_pow_right (by omega) hs;omega
 have e : ((m : Int) * 2 ^ s) = ((m * 2 ^ s : Nat) : Int) := by push_cast; rfl
 rw [e, IntWalk.u64_in _ ⟨by omega, by omega⟩, u64_or_nat V _ hV' (by omega), Nat.or_comm, nat_join s _ _ (Nat.mul_mod_left m (2 ^ s)) hV];push_cast;rw [Int.mul_comm (2 ^ s) (m : Int), Int.add_comm]
theorem uR (A : Option Addr) (n c N : Nat) (b : List UInt8) (p k : Nat) (w : World) (hb : Rd w N A n b) (hn : n <= maxLen) (h1 : 1 <= k) (h2 : k <= 8) (h3 : p + k <= n) :
  Calls prog 137 #[.slice A n c, .int .i64 p, .int .i64 k] w fun e w' => e = .returned (.tuple #[.int .u64 (val 8 (piece b p k)), .int .i64 0]) /\ w = w' := by
 unfold maxLen at hn;go_enter func137, ntmps137;go_wp2_with (first | (go_at_call 142; refine (ki _ _ (by omega) (by omega)).mono ?_; rintro e w' ⟨rfl, rfl⟩))
 go_loop [8, 30] (fun x i => ∃ j : Nat, j <= k /\ i = .int .i64 j /\ x = .int .u64 (val 8 (piece b p j))) (fun _ i => k - (intOf i).toNat)
 case atStart => exact ⟨0, Nat.zero_le _, rfl, by simp [piece, val]⟩
 case round =>
  obtain ⟨j, hj, rfl, rfl⟩ := hrel;by_cases hlt : j < k
  ·obtain ⟨bA, oA, rfl, hA, cA⟩ := hb.2 (p + j) (by omega);have hlo := iY b (p + j);have hhi := kh b (p + j);go_wp2
   go_round
   case rel =>
    refine ⟨j + 1, by omega, by go_num, ?_⟩;rw [lO (by have := hb.1; omega), zU hlo hhi (by omega) (cF (by have := hb.1; omega))]
   case measure => simp [intOf]; omega
  ·go_wp2;go_ret2;have e : j = k := by omega
   subst e;exact ⟨rfl, rfl⟩
def dl (b : List UInt8) : List UInt8 := b ++ List.replicate (44 - b.length) 0
def dn (n : Nat) (b : List UInt8) : List UInt8 := bf 8 8 n ++ dl b
def cO (n : Nat) (b : List UInt8) : List UInt8 := dn n b ++ (bf 8 4 (more 0 (dn n b)) ++ bf 8 8 n)
theorem dG {b : List UInt8} (h : b.length <= 44) : (dl b).length = 44 := by simp [dl]; omega
theorem dP {b : List UInt8} (n : Nat) (h : b.length <= 44) : (dn n b).length = 52 := by simp [dn, aF, dG h]
theorem gK {b : List UInt8} (n : Nat) (h : b.length <= 44) : (cO n b).length = 64 := by simp [cO, aF, dP n h]
def et (l : List UInt8) : Nat := val 8 (piece l 0 8)
def agO (l : List UInt8) : Nat := val 8 (piece l 56 8)
def lK (l : List UInt8) : Nat := val 8 (piece l 52 4)
def lE (l : List UInt8) : Nat := more 0 (piece l 0 52)
def db (l : List UInt8) : Nat := if et l = 0 \/ et l ≠ agO l then 5 else if lK l ≠ lE l then 6 else 0
def dD (l : List UInt8) : Nat := if db l = 0 then et l else 0
def cT (l : List UInt8) : List UInt8 := if db l = 0 then piece l 8 44 else []
theorem jN {l : List UInt8} (h : et l = 0 \/ et l ≠ agO l) : db l = 5 := by unfold db; rw [if_pos h]
theorem un {l : List UInt8} (h0 : et l ≠ 0) (h1 : et l = agO l) (h : lK l ≠ lE l) : db l = 6 := by
 unfold db;rw [if_neg (by omega), if_pos h]
theorem r7 {l : List UInt8} (h0 : et l ≠ 0) (h1 : et l = agO l) (h : lK l = lE l) : db l = 0 := by
 unfold db;rw [if_neg (by omega), if_neg (by omega)]
theorem rQ {l : List UInt8} (h : db l = 0) : et l ≠ 0 /\ et l = agO l /\ lK l = lE l := by
 unfold db at h
 split at h
 ·omega
 ·split at h
  ·omega
  ·omega
theorem kH {l : List UInt8} (h : db l = 0) : dD l = et l := if_pos h
theorem kO {l : List UInt8} (h : db l ≠ 0) : dD l = 0 := if_neg h
theorem kC {l : List UInt8} (h : db l = 0) : cT l = piece l 8 44 := if_pos h
theorem nI {l : List UInt8} (h : db l ≠ 0) : cT l = [] := if_neg h
theorem sO {l : List UInt8} : dD l = 0 ↔ db l ≠ 0 := by
 constructor
 ·intro h e;rw [kH e] at h;exact (rQ e).1 h
 ·exact kO
theorem xQ {l : List UInt8} (h : l.length = 64) : et l < 18446744073709551616 := cF (b := l) (p := 0) (k := 8) (by omega)
theorem sq {l : List UInt8} (h : l.length = 64) : lK l < 4294967296 := cF (b := l) (p := 52) (k := 4) (by omega)
theorem r6 (l : List UInt8) : lE l < 4294967296 := nR (by omega) _
theorem xw {l : List UInt8} (h : l.length = 64) : dD l < 18446744073709551616 := by
 have := xQ h;unfold dD
 split <;> omega
theorem q8 (n : Nat) (b : List UInt8) : piece (cO n b) 0 8 = bf 8 8 n := by
 rw [show cO n b = bf 8 8 n ++ (dl b ++ (bf 8 4 (more 0 (dn n b)) ++ bf 8 8 n)) from by simp [cO, dn]];exact jf _ _ (aF _ _ _)
theorem lG {n : Nat} {b : List UInt8} (hn : n < 18446744073709551616) : et (cO n b) = n := by
 unfold et;rw [q8, jB (by omega)];exact Nat.mod_eq_of_lt hn
section
variable {n : Nat} {b : List UInt8} (hb : b.length <= 44)
include hb
theorem tK : piece (cO n b) 56 8 = bf 8 8 n := by
 rw [show cO n b = (dn n b ++ bf 8 4 (more 0 (dn n b))) ++ (bf 8 8 n ++ []) from by simp [cO]];exact iD _ _ _ (by simp [dP n hb, aF]) (aF _ _ _)
theorem wb : piece (cO n b) 52 4 = bf 8 4 (more 0 (dn n b)) := iD _ _ _ (dP n hb) (aF _ _ _)
theorem sA : piece (cO n b) 0 52 = dn n b := jf _ _ (dP n hb)
theorem t5 : piece (cO n b) 8 44 = dl b := by
 rw [show cO n b = bf 8 8 n ++ (dl b ++ (bf 8 4 (more 0 (dn n b)) ++ bf 8 8 n)) from by simp [cO, dn]];exact iD _ _ _ (aF _ _ _) (dG hb)
theorem yj (hn : n < 18446744073709551616) : agO (cO n b) = n := by
 unfold agO;rw [tK hb, jB (by omega)];exact Nat.mod_eq_of_lt hn
theorem nC (hn : n < 18446744073709551616) (h0 : n ≠ 0) : db (cO n b) = 0 := by
 refine r7 (by rw [lG hn]; exact h0) (by rw [lG hn, yj hb hn]) ?_;unfold lK lE;rw [wb hb, sA hb, jB (by omega)];exact Nat.mod_eq_of_lt (nR (by omega) _)
theorem sG (hn : n < 18446744073709551616) (h0 : n ≠ 0) : dD (cO n b) = n := by rw [kH (nC hb hn h0), lG hn]
theorem tL (hn : n < 18446744073709551616) (h0 : n ≠ 0) : cT (cO n b) = dl b := by rw [kC (nC hb hn h0), t5 hb]
end
def eG (n : Nat) (b : List UInt8) : Nat := if n = 0 then 2 else if 44 < b.length then 3 else 0
def eW (n : Nat) (b : List UInt8) : Blk := if eG n b = 0 then ofL (cO n b) else aB
theorem nc {n : Nat} {b : List UInt8} (h0 : n ≠ 0) (hb : b.length <= 44) : eG n b = 0 := by unfold eG; rw [if_neg h0, if_neg (by omega)]
theorem gr {n : Nat} {b : List UInt8} (h : eG n b = 0) : n ≠ 0 /\ b.length <= 44 := by
 unfold eG at h
 split at h
 ·omega
 ·split at h <;> omega
theorem kU {n : Nat} {b : List UInt8} (h : eG n b = 0) : eW n b = ofL (cO n b) := if_pos h
theorem jI {n : Nat} {b : List UInt8} (h : eG n b = 0) : (eW n b).toList = cO n b := by
 rw [kU h, ry (gK n (gr h).2)]
theorem uv {n : Nat} {b : List UInt8} (hn : n < 18446744073709551616) (h : eG n b = 0) : db (eW n b).toList = 0 := by
 rw [jI h]; exact nC (gr h).2 hn (gr h).1
theorem vt {n : Nat} {b : List UInt8} (hn : n < 18446744073709551616) (h : eG n b = 0) : dD (eW n b).toList = n := by
 rw [jI h]; exact sG (gr h).2 hn (gr h).1
theorem lg {n : Nat} {b : List UInt8} (hn : n < 18446744073709551616) (h : eG n b = 0) : cT (eW n b).toList = dl b := by
 rw [jI h]; exact tL (gr h).2 hn (gr h).1
theorem mT : db aB.toList = 5 := jN (.inl (by decide +kernel))
def evB (n : Nat) : Bool := decide (1 <= n /\ n <= 4611686018427387904)
theorem pL {n : Nat} (h : evB n = true) : 1 <= n /\ n <= 4611686018427387904 := of_decide_eq_true h
theorem mN {b : List UInt8} (h : b.length = 44) : dl b = b := by simp [dl, h]
theorem tD {b : List UInt8} (n : Nat) (h : b.length <= 44) : dn n (dl b) = dn n b := by unfold dn; rw [mN (dG h)]
theorem iP {b : List UInt8} (n : Nat) (h : b.length <= 44) : cO n (dl b) = cO n b := by unfold cO; rw [tD n h]
theorem fJ {k n : Nat} (h : n < 2 ^ (8 * k)) : val 8 (bf 8 k n) = n := by rw [jB (by omega), Nat.mod_eq_of_lt h]
theorem jC (l : List UInt8) (p a b : Nat) : piece l p a ++ piece l (p + a) b = piece l p (a + b) := by
 unfold piece;rw [List.take_add, List.drop_drop]
theorem jL {l : List UInt8} {p k : Nat} (h : p + k <= l.length) : bf 8 k (val 8 (piece l p k)) = piece l p k := by
 have := ox (nr (piece l p k));rwa [cH h] at this
theorem tR {l : List UInt8} (hl : l.length = 64) (h : db l = 0) : cO (et l) (piece l 8 44) = l := by
 obtain ⟨_, h1, h2⟩ := rQ h;have e1 : bf 8 8 (et l) = piece l 0 8 := jL (by omega);have e2 : dn (et l) (piece l 8 44) = piece l 0 52 := by
  unfold dn;rw [e1, mN (cH (by omega))];exact jC l 0 8 44
 have e3 : bf 8 4 (more 0 (piece l 0 52)) = piece l 52 4 := by
  have : more 0 (piece l 0 52) = val 8 (piece l 52 4) := h2.symm;rw [this];exact jL (by omega)
 have e4 : bf 8 8 (et l) = piece l 56 8 := by rw [h1]; exact jL (by omega)
 unfold cO;rw [e2, e3, e4, jC l 52 4 8, jC l 0 52 12];unfold piece;rw [List.drop_zero, List.take_of_length_le (by omega)]
theorem mQ (b : Blk) : dD b.toList < 18446744073709551616 := xw (by simp)
theorem gW {b : Blk} (h : db b.toList = 0) : (cT b.toList).length = 44 := by rw [kC h]; exact cH (by simp)
theorem py {b : Blk} (h : db b.toList = 0) : ofL (cO (dD b.toList) (cT b.toList)) = b := by
 rw [kH h, kC h, tR (by simp) h, re]
structure Ros where
 m : Int
 s : Int
 r : Int
 st : Vector UInt8 16
 cur : Int
 gone : Bool
deriving DecidableEq
def bF : Ros := ⟨0, 0, 0, Vector.replicate 16 0, 0, false⟩
def sta (x : Ros) (j : Nat) : Int := bt x.st.toList j
def fa (l : List UInt8) : Nat -> Nat
 |0 => 0
 |k + 1 => fa l k + (if bt l k = 2 then 1 else 0)
def cw (x : Ros) : Nat := fa x.st.toList 16
theorem lu (l : List UInt8) (k : Nat) : fa l k <= k := by
 induction k with
 |zero => exact ai
 |succ k ih => unfold fa; split <;> omega
def dV (x : Ros) : Bool := decide (3 <= x.m /\ x.m <= 16 /\ 1 <= x.s /\ x.s <= 64 /\ 40 <= x.r /\ x.r <= 256)
def eB (x : Ros) : Bool := (List.range 16).all fun j => decide (sta x j <= 2) && (!decide (x.m <= (j : Int)) || decide (sta x j = 0))
theorem gj {x : Ros} : eB x = true ↔ ((∀ j, j < 16 -> sta x j <= 2) /\ (∀ j : Nat, j < 16 -> x.m <= (j : Int) -> sta x j = 0)) := by
 unfold eB;simp only [List.all_eq_true, List.mem_range, Bool.and_eq_true, decide_eq_true_eq, Bool.or_eq_true, Bool.not_eq_true', decide_eq_false_iff_not]
 constructor
 ·exact fun h => ⟨fun j hj => (h j hj).1, fun j hj hm => (h j hj).2.elim (fun h2 => absurd hm h2) id⟩
 ·rintro ⟨h1, h2⟩ j hj;refine ⟨h1 j hj, ?_⟩;by_cases hm : x.m <= (j : Int)
  ·exact .inr (h2 j hj hm)
  ·exact .inl hm
def aU (x : Ros) : Bool := dV x && eB x && decide (cw x <= 1) && decide (0 <= x.cur /\ x.cur < x.s /\ (cw x = 1 \/ x.cur = 0))
theorem eE {x : Ros} (h : dV x = true) : 3 <= x.m /\ x.m <= 16 /\ 1 <= x.s /\ x.s <= 64 /\ 40 <= x.r /\ x.r <= 256 := of_decide_eq_true h
theorem fM {x : Ros} (h : eB x = true) : (∀ j, j < 16 -> sta x j <= 2) /\ (∀ j : Nat, j < 16 -> x.m <= (j : Int) -> sta x j = 0) := gj.1 h
theorem dv {x : Ros} (h : aU x = true) : dV x = true /\ eB x = true /\ cw x <= 1 /\ 0 <= x.cur /\ x.cur < x.s /\ (cw x = 1 \/ x.cur = 0) := by
 unfold aU at h;simp only [Bool.and_eq_true, decide_eq_true_eq] at h;exact ⟨h.1.1.1, h.1.1.2, h.1.2, h.2⟩
theorem lq {x : Ros} (h : dV x = true /\ eB x = true /\ cw x <= 1 /\ 0 <= x.cur /\ x.cur < x.s /\ (cw x = 1 \/ x.cur = 0)) : aU x = true := by
 unfold aU;simp only [Bool.and_eq_true, decide_eq_true_eq];exact ⟨⟨⟨h.1, h.2.1⟩, h.2.2.1⟩, h.2.2.2⟩
theorem gV {x : Ros} : dV x = true ↔ (3 <= x.m /\ x.m <= 16 /\ 1 <= x.s /\ x.s <= 64 /\ 40 <= x.r /\ x.r <= 256) := by unfold dV; rw [decide_eq_true_iff]
theorem o9 {x : Ros} : dV x = false ↔ ¬(3 <= x.m /\ x.m <= 16 /\ 1 <= x.s /\ x.s <= 64 /\ 40 <= x.r /\ x.r <= 256) := by unfold dV; rw [decide_eq_false_iff_not]
theorem gw (l : List UInt8) (k : Nat) : fa l (k + 1) = fa l k + (if bt l k = 2 then 1 else 0) := rfl
def pa (x : Ros) : Bool := if cw x = 0 then decide (x.cur = 0) else decide (0 <= x.cur /\ x.cur < x.s)
theorem mg (x : Ros) : aU x = (dV x && ((eB x && decide (cw x <= 1)) && pa x)) := by
 unfold aU pa;by_cases hg : dV x = true
 ·have hs := (gV.1 hg).2.2.1;rw [hg, Bool.true_and, Bool.true_and];cases eB x
  ·rfl
  ·by_cases hh : cw x <= 1
   ·rw [am hh];simp only [Bool.true_and]
    split
    ·rw [decide_eq_decide]; omega
    ·rw [decide_eq_decide]; omega
   ·rw [al hh]; rfl
 ·rw [Bool.eq_false_iff.2 hg]; rfl
theorem aal {x : Ros} {j : Nat} (hj : j < 16) (h : 2 < sta x j \/ (x.m <= (j : Int) /\ sta x j ≠ 0)) : aU x = false := by
 rw [Bool.eq_false_iff];intro hf;obtain ⟨h1, h2⟩ := fM (dv hf).2.1;rcases h with h | ⟨h, h'⟩
 ·have := h1 j hj; omega
 ·exact h' (h2 j hj h)
def l7 (l : List UInt8) : Vector UInt8 16 := Vector.ofFn fun i => l.getD i.val 0
theorem pG {l : List UInt8} (h : l.length = 16) : (l7 l).toList = l := by
 refine fE (by simp [h]) fun k hk => ?_
 have hk' : k < 16 := by simpa using hk
 rw [dJ hk, dJ (l := l) (by omega)];simp [l7, List.getD, List.getElem?_eq_getElem (show k < l.length by omega)]
theorem im (v : Vector UInt8 16) : l7 v.toList = v := by
 apply Vector.ext;intro i hi;simp [l7, List.getD]
theorem gJ (v : Vector UInt8 16) : v.toList.length = 16 := by simp
theorem xV {a b : Ros} (h1 : a.m = b.m /\ a.s = b.s /\ a.r = b.r) (h2 : a.st.toList = b.st.toList) (h3 : a.cur = b.cur) (h4 : a.gone = b.gone) : a = b := by
 obtain ⟨m, s, r, st, cur, gone⟩ := a;obtain ⟨m', s', r', st', cur', gone'⟩ := b;simp only at *;obtain ⟨rfl, rfl, rfl⟩ := h1;subst h3 h4;have : st = st' := by rw [<- im st, h2, im]
 rw [this]
structure Sup where
 id : Nat
 self : Int
 ros : Ros
deriving DecidableEq
def bq : Sup := ⟨0, 0, bF⟩
def ew (x : Sup) : Bool := decide (x.id ≠ 0) && aU x.ros && decide (0 <= x.self /\ x.self < x.ros.m)
theorem kD {x : Sup} (h : ew x = true) : x.id ≠ 0 /\ aU x.ros = true /\ 0 <= x.self /\ x.self < x.ros.m := by
 unfold ew at h;simp only [Bool.and_eq_true, decide_eq_true_eq] at h;exact ⟨h.1.1, h.1.2, h.2⟩
def lz (b : Bool) : Nat := if b then 1 else 0
def dI (x : Sup) : List UInt8 :=
 bf 8 8 x.id ++ (bf 8 1 x.ros.m.toNat ++ (bf 8 2 x.ros.s.toNat ++ (bf 8 2 x.ros.r.toNat ++ (bf 8 1 x.self.toNat ++ (bf 8 4 (val 2 x.ros.st.toList) ++ (bf 8 2 x.ros.cur.toNat ++ bf 8 1 (lz x.ros.gone)))))))
theorem eF (x : Sup) : (dI x).length = 21 := by simp [dI, aF]
def ce (x : Sup) : List UInt8 := dl (dI x)
theorem cE (x : Sup) : (ce x).length = 44 := dG (by rw [eF]; omega)
theorem iC (n : Nat) (x : Sup) : eG n (ce x) = eG n (dI x) := by
 unfold eG; rw [cE, eF]; simp
theorem mR (n : Nat) (x : Sup) : eW n (ce x) = eW n (dI x) := by
 unfold eW; rw [iC]; unfold ce; rw [iP n (by rw [eF]; omega)]
def cd (l : List UInt8) : Sup :=
 ⟨val 8 (piece l 0 8), (val 8 (piece l 13 1) : Nat), ⟨(val 8 (piece l 8 1) : Nat), (val 8 (piece l 9 2) : Nat), (val 8 (piece l 11 2) : Nat), l7 (bf 2 16 (val 8 (piece l 14 4))), (val 8 (piece l 18 2) : Nat), decide (val 8 (piece l 20 1) = 1)⟩⟩
theorem lW {x : Ros} (h : eB x = true) : ∀ u ∈ x.st.toList, u.toNat < 2 ^ 2 := by
 intro u hu;obtain ⟨j, hj, rfl⟩ := List.getElem_of_mem hu;have h2 := (fM h).1 j (by simpa using hj);unfold sta at h2;rw [dJ hj] at h2;omega
theorem rV {x : Ros} (h : eB x = true) : val 2 x.st.toList < 2 ^ 32 := by
 have := pY (lW h)
 simpa using this
section
variable (x : Sup)
private theorem pc (a b c : List UInt8) {p k : Nat} (h : ce x = a ++ (b ++ c)) (hp : a.length = p) (hk : b.length = k) : piece (ce x) p k = b := by rw [h]; exact iD _ _ _ hp hk
theorem zj : piece (ce x) 0 8 = bf 8 8 x.id := by
 unfold ce dl dI;rw [List.append_assoc];exact jf _ _ (aF _ _ _)
theorem zD : piece (ce x) 8 1 = bf 8 1 x.ros.m.toNat :=
 pc x (bf 8 8 x.id) _ _ (by unfold ce dl dI; simp only [List.append_assoc]; rfl) (by simp [aF]) (by simp [aF])
theorem zY : piece (ce x) 9 2 = bf 8 2 x.ros.s.toNat :=
 pc x (bf 8 8 x.id ++ bf 8 1 x.ros.m.toNat) _ _ (by unfold ce dl dI; simp only [List.append_assoc]; rfl) (by simp [aF]) (by simp [aF])
theorem yw : piece (ce x) 11 2 = bf 8 2 x.ros.r.toNat :=
 pc x (bf 8 8 x.id ++ bf 8 1 x.ros.m.toNat ++ bf 8 2 x.ros.s.toNat) _ _ (by unfold ce dl dI; simp only [List.append_assoc]; rfl) (by simp [aF]) (by simp [aF])
theorem yk : piece (ce x) 13 1 = bf 8 1 x.self.toNat :=
 pc x (bf 8 8 x.id ++ bf 8 1 x.ros.m.toNat ++ bf 8 2 x.ros.s.toNat ++ bf 8 2 x.ros.r.toNat) _ _ (by unfold ce dl dI; simp only [List.append_assoc]; rfl) (by simp [aF]) (by simp [aF])
theorem yF : piece (ce x) 14 4 = bf 8 4 (val 2 x.ros.st.toList) :=
 pc x (bf 8 8 x.id ++ bf 8 1 x.ros.m.toNat ++ bf 8 2 x.ros.s.toNat ++ bf 8 2 x.ros.r.toNat ++ bf 8 1 x.self.toNat) _ _ (by unfold ce dl dI; simp only [List.append_assoc]; rfl) (by simp [aF]) (by simp [aF])
theorem yt : piece (ce x) 18 2 = bf 8 2 x.ros.cur.toNat :=
 pc x (bf 8 8 x.id ++ bf 8 1 x.ros.m.toNat ++ bf 8 2 x.ros.s.toNat ++ bf 8 2 x.ros.r.toNat ++ bf 8 1 x.self.toNat ++ bf 8 4 (val 2 x.ros.st.toList)) _ _ (by unfold ce dl dI; simp only [List.append_assoc]; rfl) (by simp [aF]) (by simp [aF])
theorem xH : piece (ce x) 20 1 = bf 8 1 (lz x.ros.gone) :=
 pc x (bf 8 8 x.id ++ bf 8 1 x.ros.m.toNat ++ bf 8 2 x.ros.s.toNat ++ bf 8 2 x.ros.r.toNat ++ bf 8 1 x.self.toNat ++ bf 8 4 (val 2 x.ros.st.toList) ++ bf 8 2 x.ros.cur.toNat) _ _ (by unfold ce dl dI; simp only [List.append_assoc]; rfl) (by simp [aF]) (by simp [aF])
end
theorem ub {x : Sup} (hid : x.id < 18446744073709551616) (h : ew x = true) : cd (ce x) = x := by
 obtain ⟨_, hf, h1, h2⟩ := kD h;obtain ⟨hg, hs, _, h3, h4, _⟩ := dv hf;obtain ⟨g1, g2, g3, g4, g5, g6⟩ := eE hg;obtain ⟨id, self, m, s, r, st, cur, gone⟩ := x;simp only at *;unfold cd;rw [zj, zD, zY, yw, yk, yF, yt, xH];simp only;have hv := rV hs;simp only at hv;rw [fJ (k := 8) (by omega), fJ (k := 1) (n := self.toNat) (by omega), fJ (k := 1) (n := m.toNat) (by omega), fJ (k := 2) (n := s.toNat) (by omega), fJ (k := 2) (n := r.toNat) (by omega), fJ (k := 4) (by omega), fJ (k := 2) (n := cur.toNat) (by omega), fJ (k := 1) (n := lz gone) (by unfold lz; split <;> omega)];have hd : bf 2 16 (val 2 st.toList) = st.toList := by
  have := ox (lW hs)
  simpa using this
 rw [hd, im];have e1 : ((self.toNat : Nat) : Int) = self := by omega
 have e2 : ((m.toNat : Nat) : Int) = m := by omega
 have e3 : ((s.toNat : Nat) : Int) = s := by omega
 have e4 : ((r.toNat : Nat) : Int) = r := by omega
 have e5 : ((cur.toNat : Nat) : Int) = cur := by omega
 have e6 : decide (lz gone = 1) = gone := by cases gone <;> rfl
 rw [e1, e2, e3, e4, e5, e6]
def kb (n : Nat) (x : Sup) : Nat := if evB n = true /\ ew x = true then 0 else 2
def fI (n : Nat) (x : Sup) : Blk := if evB n = true /\ ew x = true then eW n (dI x) else aB
theorem jy {n : Nat} {x : Sup} (h : evB n = true) (h' : ew x = true) : kb n x = 0 := if_pos ⟨h, h'⟩
theorem lN {n : Nat} {x : Sup} (h : evB n = true) (h' : ew x = true) : fI n x = eW n (dI x) := if_pos ⟨h, h'⟩
theorem od {n : Nat} {x : Sup} (h : ¬ (evB n = true /\ ew x = true)) : kb n x = 2 := if_neg h
theorem ov {n : Nat} {x : Sup} (h : ¬ (evB n = true /\ ew x = true)) : fI n x = aB := if_neg h
theorem uW {n : Nat} {x : Sup} (h : kb n x = 0) : evB n = true /\ ew x = true := by
 unfold kb at h
 split at h
 ·assumption
 ·omega
theorem fW {n : Nat} (x : Sup) (h : evB n = true) : eG n (dI x) = 0 := nc (by have := pL h; omega) (by rw [eF]; omega)
def gsE (b : Blk) : Nat := if db b.toList ≠ 0 then db b.toList else if evB (dD b.toList) = true /\ ew (cd (cT b.toList)) = true /\ ce (cd (cT b.toList)) = cT b.toList then 0 else 5
def gsN (b : Blk) : Nat := if gsE b = 0 then dD b.toList else 0
def gsS (b : Blk) : Sup := if gsE b = 0 then cd (cT b.toList) else bq
theorem pw {b : Blk} (h : db b.toList ≠ 0) : gsE b = db b.toList := if_pos h
theorem lB {b : Blk} (h : db b.toList = 0) (h' : ¬ (evB (dD b.toList) = true /\ ew (cd (cT b.toList)) = true /\ ce (cd (cT b.toList)) = cT b.toList)) : gsE b = 5 := by
 unfold gsE; rw [if_neg (by omega), if_neg h']
theorem wm {b : Blk} (h : db b.toList = 0) (h' : evB (dD b.toList) = true /\ ew (cd (cT b.toList)) = true /\ ce (cd (cT b.toList)) = cT b.toList) : gsE b = 0 := by
 unfold gsE; rw [if_neg (by omega), if_pos h']
theorem vZ {b : Blk} (h : gsE b = 0) : db b.toList = 0 /\ evB (dD b.toList) = true /\ ew (cd (cT b.toList)) = true /\ ce (cd (cT b.toList)) = cT b.toList := by
 unfold gsE at h
 split at h
 ·omega
 ·rename_i h0
  split at h
  ·rename_i h1; exact ⟨by omega, h1⟩
  ·omega
theorem nK {b : Blk} (h : gsE b = 0) : gsN b = dD b.toList := if_pos h
theorem ja {b : Blk} (h : gsE b ≠ 0) : gsN b = 0 := if_neg h
theorem qy {b : Blk} (h : gsE b = 0) : gsS b = cd (cT b.toList) := if_pos h
theorem lv {b : Blk} (h : gsE b ≠ 0) : gsS b = bq := if_neg h
theorem lC {b : Blk} : gsN b = 0 ↔ gsE b ≠ 0 := by
 constructor
 ·intro h e;have := pL (vZ e).2.1;rw [nK e] at h;omega
 ·exact ja
theorem fy {l : List UInt8} (h : 8 <= l.length) : (cd l).id < 18446744073709551616 := cF (b := l) (p := 0) (k := 8) (by omega)
theorem nW {b : Blk} (h : db b.toList = 0) (hn : evB (dD b.toList) = true) (x : Sup) : eW (dD b.toList) (dI x) = b ↔ ce x = cT b.toList := by
 have hp := fW (n := dD b.toList) x hn
 constructor
 ·intro e;have h2 := lg (mQ b) hp;rw [e] at h2;exact h2.symm
 ·intro e;rw [kU hp, <- iP _ (by rw [eF]; omega)];have : dl (dI x) = cT b.toList := e;rw [this];exact py h
theorem vv {n : Nat} {x : Sup} (hid : x.id < 18446744073709551616) (h : kb n x = 0) : gsE (fI n x) = 0 /\ gsN (fI n x) = n /\ gsS (fI n x) = x := by
 obtain ⟨h1, h2⟩ := uW h;have hn : n < 18446744073709551616 := by have := pL h1; omega
 have hp := fW x h1;have e1 := uv hn hp;have e2 := vt hn hp;have e3 := lg hn hp;rw [lN h1 h2];have e4 : cd (cT (eW n (dI x)).toList) = x := by rw [e3]; exact ub hid h2
 have hE : gsE (eW n (dI x)) = 0 := wm e1 ⟨by rw [e2]; exact h1, by rw [e4]; exact h2, by rw [e4, e3]; rfl⟩;exact ⟨hE, by rw [nK hE, e2], by rw [qy hE, e4]⟩
theorem pC {b : Blk} (h : gsE b = 0) : kb (gsN b) (gsS b) = 0 /\ fI (gsN b) (gsS b) = b /\ ew (gsS b) = true /\ (gsS b).id < 18446744073709551616 := by
 obtain ⟨h1, h2, h3, h4⟩ := vZ h;rw [nK h, qy h];exact ⟨jy h2 h3, by rw [lN h2 h3]; exact (nW h1 h2 _).2 h4, h3, fy (by rw [gW h1]; omega)⟩
theorem su : gsE aB = 5 := by rw [pw (by rw [mT]; omega), mT]
def nwE (a b : Blk) : Nat := if gsN a = 0 /\ gsN b = 0 then 7 else 0
def nwN (a b : Blk) : Nat := if gsN a < gsN b then gsN b else gsN a
def nwS (a b : Blk) : Sup := if gsN a < gsN b then gsS b else gsS a
def kw (a b : Blk) : Nat := if gsN a ≠ 0 /\ ¬ gsN a < gsN b then 1 else 0
def jS (l : List UInt8) (c : Int) : Nat -> Nat
 |0 => 0
 |k + 1 => jS l c k + (if bt l k = c then 1 else 0)
theorem eO (l : List UInt8) (c : Int) (k : Nat) : jS l c (k + 1) = jS l c k + (if bt l k = c then 1 else 0) := rfl
theorem wZ (l : List UInt8) (c : Int) (k : Nat) : jS l c k <= k := by
 induction k with
 |zero => exact ai
 |succ k ih => rw [eO]; split <;> omega
theorem tC (l : List UInt8) (k : Nat) : fa l k = jS l 2 k := by
 induction k with
 |zero => rfl
 |succ k ih => rw [eO, gw, ih]
def many (x : Ros) (c : Int) : Nat := jS x.st.toList c 16
theorem ww (x : Ros) (c : Int) : many x c = jS x.st.toList c 16 := rfl
theorem fC (x : Ros) : cw x = many x 2 := tC _ _
def kA (l : List UInt8) : Nat -> Nat
 |0 => 0
 |k + 1 => kA l k + (if bt l k = 0 then 0 else 1)
theorem fV (l : List UInt8) (k : Nat) : kA l (k + 1) = kA l k + (if bt l k = 0 then 0 else 1) := rfl
theorem r8 (l : List UInt8) (k : Nat) : kA l k <= k := by
 induction k with
 |zero => exact ai
 |succ k ih => rw [fV]; split <;> omega
def outs (x : Ros) : Nat := kA x.st.toList 16
theorem vd {l : List UInt8} {k : Nat} (h : ∀ j, j < k -> bt l j <= 2) : kA l k = jS l 1 k + jS l 2 k := by
 induction k with
 |zero => rfl
 |succ k ih =>
  have h1 := ih fun j hj => h j (by omega)
  have h2 := h k (by omega);have h3 := iY l k;rw [eO, eO, fV, h1]
  split <;> split <;> split <;> omega
theorem tH {x : Ros} (h : eB x = true) : outs x = many x 1 + many x 2 := vd (fM h).1
theorem qu {x : Ros} (h : eB x = true) : cw x <= outs x := by rw [tH h, fC]; omega
theorem mZ {l : List UInt8} {a : Nat} : ∀ {k : Nat}, a <= k -> (∀ j, a <= j -> j < k -> bt l j = 0) -> kA l k = kA l a
 |0, h, _ => by rw [show a = 0 from by omega]
 |k + 1, h, hz => by
  by_cases e : a = k + 1
  ·rw [e]
  ·rw [fV, if_pos (hz k (by omega) (by omega)), mZ (k := k) (by omega) fun j h1 h2 => hz j h1 (by omega)]
   rfl
def jz (l : List UInt8) : Nat -> Option Nat
 |0 => none
 |k + 1 => (jz l k).or (if bt l k = 2 then some k else none)
theorem iQ (l : List UInt8) (k : Nat) : jz l (k + 1) = (jz l k).or (if bt l k = 2 then some k else none) := rfl
theorem sI (l : List UInt8) (k : Nat) : jz l k = none ↔ fa l k = 0 := by
 induction k with
 |zero => exact ⟨fun _ => rfl, fun _ => rfl⟩
 |succ k ih =>
  rw [iQ, gw];cases hf : jz l k with
  |some i =>
   have h1 : ¬ fa l k = 0 := fun e => by have := ih.2 e; rw [hf] at this; cases this
   simp only [Option.some_or]
   constructor
   ·intro h; cases h
   ·intro h; omega
  |none =>
   have h1 := ih.1 hf;simp only [Option.none_or]
   split
   ·constructor
    ·intro h; cases h
    ·intro h; omega
   ·constructor
    ·intro _; omega
    ·intro _; rfl
theorem rK {l : List UInt8} {i j : Nat} (h : jz l i = some j) : ∀ {k : Nat}, i <= k -> jz l k = some j
 |0, hk => by rw [show i = 0 from by omega] at h; exact h
 |k + 1, hk => by
  by_cases e : i = k + 1
  ·rw [<- e]; exact h
  ·rw [iQ, rK h (k := k) (by omega)]; rfl
theorem yH {l : List UInt8} {j : Nat} (h0 : jz l j = none) (h2 : bt l j = 2) {k : Nat} (hk : j < k) : jz l k = some j := by
 refine rK (i := j + 1) ?_ (by omega);rw [iQ, h0, if_pos h2]
 rfl
theorem tu {l : List UInt8} {j : Nat} (h0 : jz l j = none) (h2 : bt l j ≠ 2) : jz l (j + 1) = none := by
 rw [iQ, h0, if_neg h2]
 rfl
def jA (x : Ros) : Option Nat := jz x.st.toList 16
theorem sU (x : Ros) : jA x = jz x.st.toList 16 := rfl
theorem rp (x : Ros) : jA x = none ↔ cw x = 0 := sI _ _
def dW (x : Ros) (j : Nat) (u : UInt8) : Ros := ⟨x.m, x.s, x.r, x.st.setIfInBounds j u, x.cur, x.gone⟩
def ij (x : Ros) (c : Int) : Ros := ⟨x.m, x.s, x.r, x.st, c, x.gone⟩
theorem jE (x : Ros) (j : Nat) (u : UInt8) : (dW x j u).st.toList = x.st.toList.set j u := by
 unfold dW;simp
theorem uZ {l : List UInt8} {j : Nat} (h : j < l.length) (u : UInt8) (k : Nat) : bt (l.set j u) k = if k = j then (u.toNat : Int) else bt l k := by
 unfold bt;simp only [List.getD, List.getElem?_set];by_cases e : k = j
 ·subst e; simp [h]
 ·rw [if_neg (fun e' => e e'.symm), if_neg e]
theorem jp (x : Ros) {j : Nat} (h : j < 16) (u : UInt8) (k : Nat) : sta (dW x j u) k = if k = j then (u.toNat : Int) else sta x k := by
 unfold sta;rw [jE];exact uZ (by simpa using h) u k
theorem wv {l : List UInt8} {j : Nat} (h : j < l.length) (u : UInt8) (c : Int) (k : Nat) : jS (l.set j u) c k + (if j < k /\ bt l j = c then 1 else 0) = jS l c k + (if j < k /\ (u.toNat : Int) = c then 1 else 0) := by
 induction k with
 |zero => rw [if_neg (by omega), if_neg (by omega)]; rfl
 |succ k ih =>
  rw [eO, eO, uZ h];by_cases e : k = j
  ·subst e;rw [if_neg (by omega), if_neg (by omega)] at ih;rw [if_pos rfl];by_cases h1 : bt l k = c <;> by_cases h2 : (u.toNat : Int) = c <;> simp [h1, h2] <;> omega
  ·rw [if_neg e];have e1 : (j < k + 1 /\ bt l j = c) ↔ (j < k /\ bt l j = c) := by omega
   have e2 : (j < k + 1 /\ (u.toNat : Int) = c) ↔ (j < k /\ (u.toNat : Int) = c) := by omega
   simp only [e1, e2];omega
theorem tS (x : Ros) {j : Nat} (h : j < 16) (u : UInt8) (c : Int) : many (dW x j u) c + (if sta x j = c then 1 else 0) = many x c + (if (u.toNat : Int) = c then 1 else 0) := by
 have := wv (l := x.st.toList) (j := j) (by simpa using h) u c 16;simp only [h, true_and] at this;unfold many;rw [jE];exact this
theorem mG {x : Ros} (hs : eB x = true) {j : Nat} (h : j < 16) (hm : (j : Int) < x.m) {u : UInt8} (hu : u.toNat <= 2) : eB (dW x j u) = true := by
 obtain ⟨h1, h2⟩ := fM hs;refine gj.2 ⟨fun k hk => ?_, fun k hk hkm => ?_⟩
 ·rw [jp x h]
  split
  ·omega
  ·exact h1 k hk
 ·have hne : k ≠ j := by
   intro e; subst e;have : x.m <= (k : Int) := hkm;omega
  rw [jp x h, if_neg hne];exact h2 k hk hkm
def dB (x : Ros) (m : Int) : Bool := decide (0 <= m /\ m < x.m)
def tj (x : Ros) (s : Int) : Bool := decide (0 <= s /\ s < x.s)
theorem kN {x : Ros} {m : Int} (h : dB x m = true) : 0 <= m /\ m < x.m := of_decide_eq_true h
def gz (y : Ros) : Ros := ⟨y.m, y.s, y.r, Vector.replicate 16 0, 0, false⟩
theorem vV (y : Ros) : cw (gz y) = 0 := by
 show fa (Vector.replicate 16 (0 : UInt8)).toList 16 = 0
 decide
theorem qx (y : Ros) {j : Nat} (h : j < 16) : sta (gz y) j = 0 := by
 show bt (List.replicate 16 (0 : UInt8)) j = 0
 unfold bt;rw [List.getD, List.getElem?_replicate]
 split <;> rfl
theorem rM (y : Ros) : aU (gz y) = dV y := by
 have hg : dV (gz y) = dV y := rfl;by_cases h : dV y = true
 ·rw [h];have := eE h;refine lq ⟨hg.trans h, gj.2 ⟨fun j hj => ?_, fun j hj _ => qx y hj⟩, by rw [vV]; omega, ?_⟩
  ·rw [qx y hj]; omega
  ·show 0 <= (0 : Int) /\ (0 : Int) < y.s /\ (cw (gz y) = 1 \/ (0 : Int) = 0)
   omega
 ·rw [Bool.eq_false_iff.2 h, Bool.eq_false_iff];intro hf;exact h (hg.symm.trans (dv hf).1)
def vW (y : Ros) : Ros := if dV y then gz y else bF
def oo (y : Ros) : Nat := if dV y then 0 else 2
def ey (x : Ros) : Nat := if aU x then outs x else 0
def stN (x : Ros) : Nat :=
 if aU x then if 2 <= outs x \/ (outs x = 1 /\ x.gone = true) then 5 else if x.gone = true then 4 else if cw x = 1 then 3 else if outs x = 1 then 2 else 1 else 0
def jO (x : Ros) : Nat := if aU x then (jA x).getD 0 else 0
def gT (x : Ros) : Bool := aU x && (jA x).isSome
def fB (x : Ros) (m : Int) : Bool := aU x && (dB x m && decide (sta x m.toNat ≠ 1))
def cG (x : Ros) (m : Int) : Ros := if fB x m then (if sta x m.toNat = 2 then dW (ij x 0) m.toNat 1 else dW x m.toNat 1) else x
theorem mt (x : Ros) {j : Nat} (h : j < 16) (u : UInt8) : cw (dW x j u) + (if sta x j = 2 then 1 else 0) = cw x + (if (u.toNat : Int) = 2 then 1 else 0) := by
 rw [fC, fC]; exact tS x h u 2
theorem tv (x : Ros) (c : Int) : cw (ij x c) = cw x := rfl
theorem rP (x : Ros) (c : Int) (j : Nat) : sta (ij x c) j = sta x j := rfl
theorem u1 : (((1 : UInt8).toNat : Nat) : Int) = 1 := rfl
theorem vg {x : Ros} {m : Int} (hf : aU x = true) (hq : dB x m = true) : m.toNat < 16 /\ ((m.toNat : Nat) : Int) < x.m /\ ((m.toNat : Nat) : Int) = m := by
 have h1 := kN hq;have h2 := eE (dv hf).1;omega
theorem il {x : Ros} (m : Int) (hf : aU x = true) : aU (cG x m) = true := by
 unfold cG
 split
 ·rename_i hb
  have hq : dB x m = true := by
   unfold fB at hb;rw [hf, Bool.true_and, Bool.and_eq_true] at hb;exact hb.1
  obtain ⟨h16, hlt, _⟩ := vg hf hq;obtain ⟨hg, hs, h1, c0, c1, c2⟩ := dv hf;have g := eE hg
  split
  ·rename_i h2
   have hh := mt (ij x 0) h16 1;rw [rP, if_pos h2, tv, if_neg (by rw [u1]; omega)] at hh;refine lq ⟨hg, mG (x := ij x 0) hs h16 hlt (by decide), by omega, ?_⟩
   show (0 : Int) <= 0 /\ (0 : Int) < x.s /\ (cw _ = 1 \/ (0 : Int) = 0)
   omega
  ·rename_i h2
   have hh := mt x h16 1;rw [if_neg h2, if_neg (by rw [u1]; omega)] at hh;refine lq ⟨hg, mG hs h16 hlt (by decide), by omega, ?_⟩
   show 0 <= x.cur /\ x.cur < x.s /\ (cw _ = 1 \/ x.cur = 0)
   omega
 ·exact hf
theorem uU {x : Ros} (hf : aU x = true) : kA x.st.toList x.m.toNat = outs x := by
 obtain ⟨hg, hs, _⟩ := dv hf;have g := eE hg;exact (mZ (by omega) fun j h1 h2 => (fM hs).2 j h2 (by omega)).symm
structure Cod (Y : Type) where
 zero : Y
 may : Y -> Bool
 num : Y -> Nat
 body : Y -> List UInt8
 told : Nat -> List UInt8 -> Y
 fits : Y -> Prop
 may_num : ∀ y, may y = true -> 1 <= num y /\ num y <= 4611686018427387904
 len : ∀ y, (body y).length <= 44
 back : ∀ y, fits y -> may y = true -> told (num y) (dl (body y)) = y
 num_told : ∀ n l, num (told n l) = n
 fits_told : ∀ n l, l.length = 44 -> n < 18446744073709551616 -> fits (told n l)
 zero_no : may zero = false
 zero_num : num zero = 0
 zero_fits : fits zero
namespace Cod
variable {Y : Type} (C : Cod Y)
def full (y : Y) : List UInt8 := dl (C.body y)
theorem oV (y : Y) : (C.full y).length = 44 := dG (C.len y)
theorem iC (n : Nat) (y : Y) : eG n (C.full y) = eG n (C.body y) := by
 have h1 := C.oV y;have h2 := C.len y;unfold eG;rw [if_neg (show ¬ 44 < (C.full y).length by omega), if_neg (show ¬ 44 < (C.body y).length by omega)]
theorem mR (n : Nat) (y : Y) : eW n (C.full y) = eW n (C.body y) := by
 unfold eW; rw [C.iC]; unfold full; rw [iP n (C.len y)]
theorem fW {n : Nat} (y : Y) (h : n ≠ 0) : eG n (C.body y) = 0 := nc h (C.len y)
theorem nW {b : Blk} (h : db b.toList = 0) (y : Y) : eW (dD b.toList) (C.body y) = b ↔ C.full y = cT b.toList := by
 have hn : dD b.toList ≠ 0 := fun e => sO.1 e h
 have hp := C.fW y hn
 constructor
 ·intro e;have h2 := lg (mQ b) hp;rw [e] at h2;exact h2.symm
 ·intro e;rw [kU hp, <- iP _ (C.len y)];have : dl (C.body y) = cT b.toList := e;rw [this];exact py h
end Cod
open Go.RowKit
set_option maxRecDepth 100000
set_option linter.unusedVariables false
structure Mrk where
 id : Nat
 ring : Int
 first : Nat
 pos : Nat
deriving DecidableEq
open Go.RowKit
set_option maxRecDepth 100000
set_option linter.unusedVariables false
def hd (n : Nat) : Nat := (n + 15) / 16
open Go.RowKit
set_option maxRecDepth 100000
set_option linter.unusedVariables false
structure Nte where
 seq : Nat
 pos : Nat
 cells : Int
 sum : Nat
deriving DecidableEq
open Go.RowKit
set_option maxRecDepth 100000
set_option linter.unusedVariables false
inductive Stp where
 |wr (n : Int) (b : Blk)
 |fl
def og (d : Int) (M : aM) : Stp -> Int
 |.wr n _ => iS M d n
 |.fl => gl M d
def nN (d : Int) (M : aM) : Stp -> aM
 |.wr n b => dE M d n b
 |.fl => eD M d
def goE (d : Int) : aM -> List Stp -> Int
 |_, [] => 0
 |M, s :: l => if og d M s = 0 then goE d (nN d M s) l else og d M s
def goB (d : Int) : aM -> List Stp -> aM
 |M, [] => M
 |M, s :: l => if og d M s = 0 then goB d (nN d M s) l else nN d M s
theorem go_ok {d : Int} {M : aM} {s : Stp} {l : List Stp} (h : og d M s = 0) : goE d M (s :: l) = goE d (nN d M s) l /\ goB d M (s :: l) = goB d (nN d M s) l := ⟨if_pos h, if_pos h⟩
theorem yV {d : Int} {M : aM} {s : Stp} {l : List Stp} (h : og d M s ≠ 0) : goE d M (s :: l) = og d M s /\ goB d M (s :: l) = nN d M s := ⟨if_neg h, if_neg h⟩
structure LgS where
 d : Nat
 own : Nat
 size : Nat
 cnt : Nat
 fst : Nat
 pos : Nat
 nts : List Nte
open Go.RowKit
set_option linter.unusedVariables false
set_option maxRecDepth 100000
def sD (id ev : Nat) (R : Ros) (M : aM) (m : Nat) : List Stp := [.wr (kw (dA M m 0) (dA M m 1) : Nat) (fI ev ⟨id, m, R⟩), .fl]
def df (id ev : Nat) (R : Ros) (M : aM) (m : Nat) : Int := if cg M m 0 = 0 then (if cg M m 1 = 0 then goE m M (sD id ev R M m) else cg M m 1) else cg M m 0
def cW (id ev : Nat) (R : Ros) (M : aM) (m : Nat) : aM := if cg M m 0 = 0 /\ cg M m 1 = 0 then goB m M (sD id ev R M m) else M
def cI (id ev : Nat) (R : Ros) : Nat -> Nat -> aM -> Option Nat × Int × aM
 |0, _, M => (none, 0, M)
 |k + 1, m, M =>
  if sta R m = 1 then cI id ev R k (m + 1) M
  else if df id ev R M m = 9 then (some m, 0, cW id ev R M m)
  else if df id ev R M m = 0 then cI id ev R k (m + 1) (cW id ev R M m)
  else (none, df id ev R M m, cW id ev R M m)
structure HuS where
 M : aM
 id : Nat
 ev : Nat
 R : Ros
def eH : Nat -> HuS -> Int × HuS
 |0, h => (0, h)
 |f + 1, h =>
  match cI h.id (h.ev + 1) h.R h.R.m.toNat 0 h.M with
  |(none, e, M') => (e, ⟨M', h.id, h.ev + 1, h.R⟩)
  |(some m, _, M') => eH f ⟨M', h.id, h.ev + 1, cG h.R m⟩
def ia (h : HuS) : Int := (eH 17 h).1
def el (h : HuS) : HuS := (eH 17 h).2
section
variable {M : aM} {m : Nat} {S : List Blk}
theorem rG {α : Type} (l : List α) (k j : Nat) (a d : α) (hk : k < l.length) : (l.set k a).getD j d = if j = k then a else l.getD j d := by
 by_cases e : j = k
 ·subst e; rw [if_pos rfl]; simp [List.getD, hk]
 ·rw [if_neg e]; simp only [List.getD]; rw [List.getElem?_set_ne (by omega)]
structure Wel (M : aM) (m : Nat) (S : List Blk) : Prop where
 bK : M.bK = false
 left : M.left = 0
 lt : m < M.ds.length
 dev : M.ds.getD m bI = ⟨S, [], false⟩
theorem Wel.lit (h : Wel M m S) : dj M m = 0 := iI h.bK h.lt
theorem Wel.zl (h : Wel M m S) : M.dev m = ⟨S, [], false⟩ := h.dev
theorem Wel.rdE (h : Wel M m S) {n : Nat} (hn : n < S.length) : cg M m n = 0 := by
 unfold cg;rw [if_pos h.lit, h.zl]
 show ct S false (n : Int) = 0
 exact fm ⟨by omega, by omega⟩
theorem Wel.rdB (h : Wel M m S) {n : Nat} (hn : n < S.length) : dA M m n = S.getD n aB := by
 unfold dA;rw [if_pos h.lit, h.zl]
 show ed S [] false (n : Int) = _
 rw [jr (fm ⟨by omega, by omega⟩)]
 rfl
theorem Wel.laid (h : Wel M m S) {n : Nat} (hn : n < S.length) (b : Blk) :
  goE m M [.wr (n : Int) b, .fl] = 0 /\ Wel (goB m M [.wr (n : Int) b, .fl]) m (S.set n b) /\ (goB m M [.wr (n : Int) b, .fl]).ds.length = M.ds.length /\ (goB m M [.wr (n : Int) b, .fl]).steps = M.steps + 2 /\ ∀ j, j ≠ m -> (goB m M [.wr (n : Int) b, .fl]).ds.getD j bI = M.ds.getD j bI := by
 have hs : M.de = 0 := by unfold aM.de; rw [h.left]; rfl
 have e1 : og m M (.wr (n : Int) b) = 0 := by
  show iS _ _ _ = 0
  unfold iS;rw [if_pos (h.rdE hn), hs]
 obtain ⟨M1, hM1⟩ : ∃ M1, nN m M (.wr (n : Int) b) = M1 := ⟨_, rfl⟩;have f1 : M1 = (M.done.put m ⟨S, [((n : Int), b)], false⟩) := by
  rw [<- hM1]
  show dE _ _ _ _ = _
  unfold dE;rw [if_pos (h.rdE hn), if_neg (by rw [h.left]; omega), h.zl];have e : wrL S [] false (n : Int) b = [((n : Int), b)] := by unfold wrL; rw [if_pos (fm ⟨by omega, by omega⟩)]; rfl
  show aM.put _ _ ⟨S, wrL S [] false (n : Int) b, false⟩ = _
  rw [e]
  rfl
 have g1 : M1.dev m = ⟨S, [((n : Int), b)], false⟩ := by
  rw [f1]
  show ((M.ds.set m _).getD m bI) = _
  rw [rG _ _ _ _ _ h.lt, if_pos rfl]
 have hl1 : M1.ds.length = M.ds.length := by rw [f1]; exact List.length_set
 have hk1 : M1.bK = false := by rw [f1]; exact h.bK
 have hz1 : M1.left = 0 := by rw [f1]; show M.left - 1 = 0; rw [h.left]
 have hA : fh M1 m = 0 := by
  unfold fh;rw [if_pos (iI hk1 (by rw [hl1]; exact h.lt)), g1]
  rfl
 have e2 : og m M1 .fl = 0 := by
  show gl _ _ = 0
  unfold gl;rw [if_pos hA];unfold aM.de;rw [hz1]
  rfl
 have f2 : nN m M1 .fl = M1.done.put m ⟨S.set n b, [], false⟩ := by
  show eD _ _ = _
  unfold eD;rw [if_pos hA, if_neg (by rw [hz1]; omega), g1]
  rfl
 have hE : goE m M [.wr (n : Int) b, .fl] = 0 := by
  rw [(go_ok e1).1, hM1, (go_ok e2).1]; rfl
 have hB : goB m M [.wr (n : Int) b, .fl] = M1.done.put m ⟨S.set n b, [], false⟩ := by
  rw [(go_ok e1).2, hM1, (go_ok e2).2, f2]; rfl
 have hlm : m < M1.ds.length := by rw [hl1]; exact h.lt
 refine ⟨hE, ?_, ?_, ?_, fun j hj => ?_⟩
 ·rw [hB];refine ⟨hk1, ?_, ?_, ?_⟩
  ·show M1.left - 1 = 0; rw [hz1]
  ·show m < (M1.ds.set m _).length; rw [List.length_set]; exact hlm
  ·show (M1.ds.set m _).getD m bI = _; rw [rG _ _ _ _ _ hlm, if_pos rfl]
 ·rw [hB]; show (M1.ds.set m _).length = _; rw [List.length_set, hl1]
 ·rw [hB]; show M1.steps + 1 = _; rw [f1]; rfl
 ·rw [hB]
  show (M1.ds.set m _).getD j bI = _
  rw [rG _ _ _ _ _ hlm, if_neg hj, f1]
  show (M.ds.set m _).getD j bI = _
  rw [rG _ _ _ _ _ h.lt, if_neg hj]
theorem si (hd : M.bK = false) (hl : m < M.ds.length) (hg : (M.ds.getD m bI).g = true) (hS : 0 < (M.ds.getD m bI).S.length) : cg M m 0 = 9 := by
 unfold cg;rw [if_pos (iI hd hl)]
 show ct (M.ds.getD m bI).S (M.ds.getD m bI).g 0 = 9
 rw [hg];exact jK ⟨by omega, by omega⟩
end
structure Old (ev : Nat) (S : List Blk) : Prop where
 two : 2 <= S.length
 a : gsN (S.getD 0 aB) <= ev
 b : gsN (S.getD 1 aB) <= ev
theorem zR (a b : Blk) : kw a b < 2 := by unfold kw; split <;> omega
theorem Old.more {ev ev' : Nat} {S : List Blk} (h : Old ev S) (he : ev <= ev') : Old ev' S := ⟨h.two, ap h.a he, ap h.b he⟩
def Now (ev : Nat) (x : Sup) (S : List Blk) : Prop := nwE (S.getD 0 aB) (S.getD 1 aB) = 0 /\ nwN (S.getD 0 aB) (S.getD 1 aB) = ev /\ nwS (S.getD 0 aB) (S.getD 1 aB) = x
theorem zO {ev : Nat} {x : Sup} {S : List Blk} {n : Nat} {b : Blk} (hn : n < 2) (hS : Old ev S) (h1 : gsN b = ev + 1) (h2 : gsS b = x) : Now (ev + 1) x (S.set n b) /\ Old (ev + 1) (S.set n b) := by
 have ha := hS.a;have hb := hS.b;have h2' := hS.two;have e0 : (S.set n b).getD 0 aB = if 0 = n then b else S.getD 0 aB := rG _ _ _ _ _ (by omega)
 have e1 : (S.set n b).getD 1 aB = if 1 = n then b else S.getD 1 aB := rG _ _ _ _ _ (by omega)
 unfold Now;rcases (show n = 0 \/ n = 1 by omega) with rfl | rfl
 ·rw [if_pos rfl] at e0;rw [if_neg (by omega)] at e1;rw [e0, e1];refine ⟨⟨?_, ?_, ?_⟩, ⟨by rw [List.length_set]; exact h2', by rw [e0]; omega, by rw [e1]; omega⟩⟩
  ·unfold nwE; rw [if_neg (by omega)]
  ·unfold nwN; rw [if_neg (by omega)]; exact h1
  ·unfold nwS; rw [if_neg (by omega)]; exact h2
 ·rw [if_neg (by omega)] at e0;rw [if_pos rfl] at e1;rw [e0, e1];refine ⟨⟨?_, ?_, ?_⟩, ⟨by rw [List.length_set]; exact h2', by rw [e0]; omega, by rw [e1]; omega⟩⟩
  ·unfold nwE; rw [if_neg (by omega)]
  ·unfold nwN; rw [if_pos (by omega)]; exact h1
  ·unfold nwS; rw [if_pos (by omega)]; exact h2
structure HOk (id ev : Nat) (R : Ros) (M : aM) : Prop where
 bK : M.bK = false
 left : M.left = 0
 len : R.m.toNat < M.ds.length
 fine : aU R = true
 ids : id ≠ 0 /\ id < 18446744073709551616
 two : ∀ m, m < R.m.toNat -> 2 <= (M.ds.getD m bI).S.length
 wel : ∀ m, m < R.m.toNat -> (M.ds.getD m bI).g = false -> ∃ S, M.ds.getD m bI = ⟨S, [], false⟩ /\ Old ev S
section
variable {id ev : Nat} {R : Ros} {M : aM} {m : Nat}
theorem HOk.more {ev' : Nat} (h : HOk id ev R M) (he : ev <= ev') : HOk id ev' R M :=
 ⟨h.bK, h.left, h.len, h.fine, h.ids, h.two, fun m hm hg => by obtain ⟨S, e, hS⟩ := h.wel m hm hg; exact ⟨S, e, hS.more he⟩⟩
theorem HOk.put {ev1 : Nat} {S : List Blk} (h : HOk id ev1 R M) (hev : ev + 1 <= 4611686018427387904) (hm : m < R.m.toNat) (hd : M.ds.getD m bI = ⟨S, [], false⟩) (hS : Old ev S) :
  df id (ev + 1) R M m = 0 /\ ∃ S', Wel (cW id (ev + 1) R M m) m S' /\ Now (ev + 1) ⟨id, m, R⟩ S' /\ (Old (ev + 1) S' /\ S'.length = S.length) /\ (cW id (ev + 1) R M m).ds.length = M.ds.length /\ (cW id (ev + 1) R M m).steps = M.steps + 2 /\ ∀ j, j ≠ m -> (cW id (ev + 1) R M m).ds.getD j bI = M.ds.getD j bI := by
 have hw : Wel M m S := ⟨h.bK, h.left, by have := h.len; omega, hd⟩;have h2 := hS.two;have r0 : cg M m 0 = 0 := hw.rdE (n := 0) (by omega);have r1 : cg M m 1 = 0 := hw.rdE (n := 1) (by omega);have hl := zR (dA M m 0) (dA M m 1);obtain ⟨n, hn⟩ : ∃ n, kw (dA M m 0) (dA M m 1) = n := ⟨_, rfl⟩;rw [hn] at hl;have hT : sD id (ev + 1) R M m = [.wr (n : Int) (fI (ev + 1) ⟨id, m, R⟩), .fl] := by unfold sD; rw [hn]
 have hE : df id (ev + 1) R M m = goE m M [.wr (n : Int) (fI (ev + 1) ⟨id, m, R⟩), .fl] := by
  unfold df; rw [if_pos r0, if_pos r1, hT]
 have hM : cW id (ev + 1) R M m = goB m M [.wr (n : Int) (fI (ev + 1) ⟨id, m, R⟩), .fl] := by
  unfold cW; rw [if_pos ⟨r0, r1⟩, hT]
 have hev' : evB (ev + 1) = true := by unfold evB; rw [decide_eq_true_iff]; omega
 have hsp : ew ⟨id, m, R⟩ = true := by
  unfold ew;simp only [Bool.and_eq_true, decide_eq_true_eq];exact ⟨⟨h.ids.1, h.fine⟩, by omega, by omega⟩
 have hg := vv (x := ⟨id, m, R⟩) h.ids.2 (jy hev' hsp);obtain ⟨k1, k2, k3, k4, k5⟩ := hw.laid (n := n) (by omega) (fI (ev + 1) ⟨id, m, R⟩);rw [hE, hM];obtain ⟨n1, n2⟩ := zO hl hS hg.2.1 hg.2.2;exact ⟨k1, _, k2, n1, ⟨n2, List.length_set⟩, k3, k4, k5⟩
theorem HOk.dead (h : HOk id ev R M) (e : Nat) (hm : m < R.m.toNat) (hg : (M.ds.getD m bI).g = true) : df id e R M m = 9 /\ cW id e R M m = M := by
 have r0 : cg M m 0 = 9 := si h.bK (by have := h.len; omega) hg (by have := h.two m hm; omega);have hn : ¬ cg M m 0 = 0 := fun e => by rw [r0] at e; exact absurd e (by decide)
 constructor
 ·unfold df; rw [if_neg hn, r0]
 ·unfold cW; rw [if_neg fun e => hn e.1]
structure lm (N : Nat) (M M' : aM) : Prop where
 len : M'.ds.length = M.ds.length
 gs : ∀ j, (M'.ds.getD j bI).g = (M.ds.getD j bI).g
 hi : ∀ j, N <= j -> M'.ds.getD j bI = M.ds.getD j bI
 sl : ∀ j, (M'.ds.getD j bI).S.length = (M.ds.getD j bI).S.length
theorem lm.refl (N : Nat) (M : aM) : lm N M M := ⟨rfl, fun _ => rfl, fun _ _ => rfl, fun _ => rfl⟩
theorem lm.trans {N : Nat} {M1 M2 M3 : aM} (h : lm N M1 M2) (k : lm N M2 M3) : lm N M1 M3 := ⟨k.len.trans h.len, fun j => (k.gs j).trans (h.gs j), fun j hj => (k.hi j hj).trans (h.hi j hj), fun j => (k.sl j).trans (h.sl j)⟩
theorem jG (hev : ev + 1 <= 4611686018427387904) : ∀ (k m : Nat) (M : aM), m + k = R.m.toNat -> HOk id (ev + 1) R M ->
  (∀ j, m <= j -> j < R.m.toNat -> (M.ds.getD j bI).g = false -> ∃ S, M.ds.getD j bI = ⟨S, [], false⟩ /\ Old ev S) ->
  (∀ j, j < m -> sta R j = 1 \/ ∃ S, M.ds.getD j bI = ⟨S, [], false⟩ /\ Now (ev + 1) ⟨id, j, R⟩ S) ->
  ∃ M', HOk id (ev + 1) R M' /\ lm R.m.toNat M M' /\ M'.steps <= M.steps + 2 * k /\
   ((cI id (ev + 1) R k m M = (none, 0, M') /\ ∀ j, j < R.m.toNat -> sta R j = 1 \/ ∃ S, M'.ds.getD j bI = ⟨S, [], false⟩ /\ Now (ev + 1) ⟨id, j, R⟩ S) \/
    ∃ d, cI id (ev + 1) R k m M = (some d, 0, M') /\ d < R.m.toNat /\ sta R d ≠ 1 /\ (M.ds.getD d bI).g = true)
 |0, m, M, hk, h, _, hlo => ⟨M, h, lm.refl _ _, ai, .inl ⟨rfl, fun j hj => hlo j (by omega)⟩⟩
 |k + 1, m, M, hk, h, hhi, hlo => by
  have hm : m < R.m.toNat := by omega
  by_cases hl : sta R m = 1
  ·obtain ⟨M', h1, h2, h3, h4⟩ := jG hev k (m + 1) M (by omega) h (fun j hj => hhi j (by omega)) (fun j hj => by
    by_cases e : j = m
    ·subst e; exact .inl hl
    ·exact hlo j (by omega))
   refine ⟨M', h1, h2, by omega, ?_⟩;have e : cI id (ev + 1) R (k + 1) m M = cI id (ev + 1) R k (m + 1) M := by rw [cI, if_pos hl]
   rw [e];exact h4
  ·cases hg : (M.ds.getD m bI).g
   ·obtain ⟨S, hd, hS⟩ := hhi m ai hm hg;obtain ⟨p1, S', p2, p3, ⟨p4, p8⟩, p5, p6, p7⟩ := h.put hev hm hd hS;have e : cI id (ev + 1) R (k + 1) m M = cI id (ev + 1) R k (m + 1) (cW id (ev + 1) R M m) := by
     rw [cI, if_neg hl, if_neg (by rw [p1]; decide), if_pos p1]
    rw [e];generalize cW id (ev + 1) R M m = M1 at *;have hdv : M1.ds.getD m bI = ⟨S', [], false⟩ := p2.dev;have hlk : lm R.m.toNat M M1 := ⟨p5, fun j => by
     by_cases ej : j = m
     ·subst ej; rw [hdv, hg]
     ·rw [p7 j ej], fun j hj => p7 j (by omega), fun j => by
     by_cases ej : j = m
     ·subst ej; rw [hdv, hd]; exact p8
     ·rw [p7 j ej]⟩
    obtain ⟨M', h1, h2, h3, h4⟩ := jG hev k (m + 1) M1 (by omega) ⟨p2.bK, p2.left, by rw [p5]; exact h.len, h.fine, h.ids, fun j hj => by
      rw [hlk.sl j]; exact h.two j hj, fun j hj hgj => by
      by_cases ej : j = m
      ·subst ej; exact ⟨S', hdv, p4⟩
      ·rw [p7 j ej] at hgj ⊢; exact h.wel j hj hgj⟩
     (fun j hj hjn hgj => by
      rw [p7 j (by omega)] at hgj ⊢; exact hhi j (by omega) hjn hgj)
     (fun j hj => by
      by_cases ej : j = m
      ·subst ej; exact .inr ⟨S', hdv, p3⟩
      ·rw [p7 j ej]; exact hlo j (by omega))
    refine ⟨M', h1, hlk.trans h2, by omega, ?_⟩;rcases h4 with h4 | ⟨d, d1, d2, d3, d4⟩
    ·exact .inl h4
    ·exact .inr ⟨d, d1, d2, d3, by rw [<- hlk.gs d]; exact d4⟩
   ·obtain ⟨p1, p2⟩ := h.dead (ev + 1) hm hg;have e : cI id (ev + 1) R (k + 1) m M = (some m, 0, M) := by rw [cI, if_neg hl, if_pos p1, p2]
    rw [e];exact ⟨M, h, lm.refl _ _, by omega, .inr ⟨m, rfl, hm, hl, hg⟩⟩
end
def gG (q : Nat -> Bool) : Nat -> Nat
 |0 => 0
 |n + 1 => gG q n + (if q n = true then 1 else 0)
theorem rT (q : Nat -> Bool) (n : Nat) : gG q n <= n := by
 induction n with
 |zero => exact ai
 |succ n ih => rw [gG]; split <;> omega
theorem sE {q q' : Nat -> Bool} (h : ∀ j, q' j = true -> q j = true) (n : Nat) : gG q' n <= gG q n := by
 induction n with
 |zero => exact ai
 |succ n ih =>
  rw [gG, gG];by_cases e : q' n = true
  ·rw [if_pos e, if_pos (h n e)]; omega
  ·rw [if_neg e]; split <;> omega
theorem nP {q q' : Nat -> Bool} (h : ∀ j, q' j = true -> q j = true) {d : Nat} (h1 : q d = true) (h2 : q' d = false) : ∀ {n : Nat}, d < n -> gG q' n + 1 <= gG q n
 |0, hd => absurd hd (by omega)
 |n + 1, hd => by
  rw [gG, gG];by_cases e : d = n
  ·subst e;rw [h2, if_neg (by decide), if_pos h1];have := sE h d;omega
  ·have := nP h h1 h2 (n := n) (by omega);by_cases e' : q' n = true
   ·rw [if_pos e', if_pos (h n e')]; omega
   ·rw [if_neg e']; split <;> omega
def ded (R : Ros) (M : aM) (j : Nat) : Bool := !decide (sta R j = 1) && (M.ds.getD j bI).g
section
variable {id ev : Nat} {R : Ros} {M : aM} {m : Nat}
theorem nQ (hf : aU R = true) {d : Nat} (hd : d < R.m.toNat) (hs : sta R d ≠ 1) : (cG R d).m = R.m /\ ∀ j, sta (cG R d) j = if j = d then 1 else sta R j := by
 have hq : dB R (d : Int) = true := am ⟨by omega, by omega⟩;have h16 : d < 16 := by have := (vg hf hq).1; simpa using this
 have hb : fB R (d : Int) = true := by
  unfold fB;rw [hf, hq, Int.toNat_natCast, am hs]
  rfl
 unfold cG;rw [if_pos hb, Int.toNat_natCast]
 split
 ·exact ⟨rfl, fun j => by rw [jp _ h16, rP]; rfl⟩
 ·exact ⟨rfl, fun j => by rw [jp _ h16]; rfl⟩
theorem mz : ∀ (f : Nat) (ev : Nat) (R : Ros) (M : aM), HOk id ev R M -> gG (ded R M) R.m.toNat < f -> ev + f + 1 <= 4611686018427387904 ->
  ∃ ev' R' M', eH f ⟨M, id, ev, R⟩ = (0, ⟨M', id, ev', R'⟩) /\ HOk id ev' R' M' /\ ev < ev' /\ ev' <= ev + gG (ded R M) R.m.toNat + 1 /\ R'.m = R.m /\ lm R.m.toNat M M' /\ M'.steps <= M.steps + 2 * R.m.toNat * f /\
   (∀ j, j < R.m.toNat -> (sta R' j = 1 ↔ (sta R j = 1 \/ (M.ds.getD j bI).g = true))) /\ (∀ j, j < R.m.toNat -> sta R' j = 1 \/ ∃ S, M'.ds.getD j bI = ⟨S, [], false⟩ /\ Now ev' ⟨id, j, R'⟩ S) /\ (gG (ded R M) R.m.toNat = 0 -> R' = R)
 |0, ev, R, M, h, hp, _ => absurd hp (by omega)
 |f + 1, ev, R, M, h, hp, hev => by
  obtain ⟨M1, h1, h2, h3, h4⟩ := jG (id := id) (R := R) (ev := ev) (by omega) R.m.toNat 0 M (by omega) (h.more (by omega)) (fun j _ hj hg => h.wel j hj hg) (fun j hj => absurd hj (by omega));have hmul : 2 * R.m.toNat <= 2 * R.m.toNat * (f + 1) := Nat.le_mul_of_pos_right _ (by omega);rcases h4 with ⟨e, hall⟩ | ⟨d, e, hd, hs, hg⟩
  ·refine ⟨ev + 1, R, M1, ?_, h1, by omega, by omega, rfl, h2, by omega, fun j hj => ?_, hall, fun _ => rfl⟩
   ·rw [eH];simp only [e]
   ·constructor
    ·exact fun x => .inl x
    ·rintro (x | x)
     ·exact x
     ·rcases hall j hj with y | ⟨S, hS, _⟩
      ·exact y
      ·have := h2.gs j;rw [hS, x] at this;cases this
  ·obtain ⟨l1, l2⟩ := nQ h.fine hd hs;have hf2 := il (d : Int) h.fine;have hk2 : HOk id (ev + 1) (cG R d) M1 := ⟨h1.bK, h1.left, by rw [l1]; exact h1.len, hf2, h1.ids, by rw [l1]; exact h1.two, by rw [l1]; exact h1.wel⟩;have hq : ded R M d = true := by unfold ded; rw [hg, al hs]; rfl
   have hq' : ded (cG R d) M1 d = false := by unfold ded; rw [l2 d, if_pos rfl]; rfl
   have hsub : ∀ j, ded (cG R d) M1 j = true -> ded R M j = true := fun j hj => by
    unfold ded at hj ⊢;rw [l2 j, h2.gs j] at hj;by_cases e : j = d
    ·rw [if_pos e] at hj; simp at hj
    ·rw [if_neg e] at hj; exact hj
   have hlt := nP hsub hq hq' hd;obtain ⟨ev', R', M', s1, s2, s3, s4, s5, s6, s7, s8, s9, _⟩ := mz f (ev + 1) (cG R d) M1 hk2 (by rw [l1]; omega) (by omega);rw [l1] at s4 s6 s7 s8 s9;refine ⟨ev', R', M', ?_, s2, by omega, by omega, s5.trans l1, h2.trans s6, ?_, fun j hj => ?_, s9, fun e0 => absurd e0 (by omega)⟩
   ·rw [eH];simp only [e];exact s1
   ·have : 2 * R.m.toNat * (f + 1) = 2 * R.m.toNat * f + 2 * R.m.toNat := Nat.mul_succ _ _;omega
   ·rw [s8 j hj, l2 j, h2.gs j];by_cases ej : j = d
    ·subst ej; rw [if_pos rfl]; exact ⟨fun _ => .inr hg, fun _ => .inl rfl⟩
    ·rw [if_neg ej]
end
open Go.RowKit
set_option linter.unusedVariables false
set_option linter.unusedSectionVars false
structure abk (g : Ros) (p : Nat) : Prop where
 gz_ : gz g = g
 geo : dV g = true
 lt : (p : Int) < g.m
section
variable {g : Ros} {p q k : Nat} (h : abk g p)
include h
section
variable (hq : (q : Int) < g.m) (hne : q ≠ p)
include hq hne
end
def hX (g : Ros) (p : Nat) (s : Nat) : Ros := ij (dW g p 2) (s : Int)
section
variable {s : Nat} (hs : (s : Int) < g.s)
include hs
end
def hY (g : Ros) (p s : Nat) : Ros := if (s : Int) < g.s then hX g p s else g
end
open Go.RowKit
set_option linter.unusedVariables false
set_option maxRecDepth 100000
def szK (N : Nat) (s : Int) : List Int := List.replicate N (2 + s) ++ [50]
def da (q : Nat -> Bool) (M : aM) : Nat -> aM
 |0 => M
 |k + 1 => if q k = true then fo (da q M k) (k : Int) else da q M k
section
variable {N : Nat} {s : Int}
theorem zK {j : Nat} (hj : j < N) : (szK N s).getD j 0 = 2 + s := by
 unfold szK;simp only [List.getD];rw [List.getElem?_append_left (by simpa using hj), List.getElem?_replicate, if_pos hj]
 rfl
theorem iB : (szK N s).length = N + 1 := by simp [szK]
theorem iF {j : Nat} (hj : j < N) : (bV (szK N s)).ds.getD j bI = ⟨List.replicate (2 + s).toNat aB, [], false⟩ := by
 rw [fD];simp only [List.getD, List.getElem?_map];have h := zK (s := s) hj;rw [List.getD] at h;rw [List.getElem?_eq_getElem (by rw [iB]; omega)] at h ⊢;simp only [Option.getD_some] at h;simp only [Option.map_some, Option.getD_some, h]
 rfl
theorem eY : (bV (szK N s)).ds.length = N + 1 := by rw [fD, List.length_map, iB]
theorem ui (ev : Nat) {n : Nat} (hn : 2 <= n) : Old ev (List.replicate n aB) := by
 have e : ∀ j, (List.replicate n aB).getD j aB = aB := fun j => by
  simp only [List.getD, List.getElem?_replicate]
  split <;> rfl
 have g : gsN aB = 0 := lC.2 (by rw [su]; decide);exact ⟨by simpa using hn, by rw [e, g]; omega, by rw [e, g]; omega⟩
structure abj (q : Nat -> Bool) (k : Nat) (M M' : aM) : Prop where
 len : M'.ds.length = M.ds.length
 bK : M'.bK = M.bK
 left : M'.left = M.left
 steps : M'.steps = M.steps
 at_ : ∀ j, M'.ds.getD j bI = if j < k /\ q j = true then ⟨(M.ds.getD j bI).S, [], true⟩ else M.ds.getD j bI
theorem vj {q : Nat -> Bool} {M : aM} : ∀ {k : Nat}, k <= M.ds.length -> abj q k M (da q M k)
 |0, _ => ⟨rfl, rfl, rfl, rfl, fun j => by rw [if_neg (fun e => by have := e.1; omega)]; rfl⟩
 |k + 1, hk => by
  have ih := vj (q := q) (M := M) (k := k) (by omega);rw [da];by_cases hq : q k = true
  ·rw [if_pos hq];have hl : k < (da q M k).ds.length := by rw [ih.len]; omega
   have e : fo (da q M k) (k : Int) = (da q M k).put k ⟨((da q M k).ds.getD k bI).S, [], true⟩ := by
    unfold fo;rw [if_pos (kF hl)]
    rfl
   rw [e];refine ⟨?_, ih.bK, ih.left, ih.steps, fun j => ?_⟩
   ·show ((da q M k).ds.set k _).length = _; rw [List.length_set, ih.len]
   ·show ((da q M k).ds.set k _).getD j bI = _
    rw [rG _ _ _ _ _ hl];by_cases ej : j = k
    ·subst ej;rw [if_pos rfl, if_pos ⟨by omega, hq⟩, ih.at_ j, if_neg (fun e => by have := e.1; omega)]
    ·rw [if_neg ej, ih.at_ j];by_cases h2 : j < k /\ q j = true
     ·rw [if_pos h2, if_pos ⟨by omega, h2.2⟩]
     ·rw [if_neg h2, if_neg (fun e => h2 ⟨by have := e.1; omega, e.2⟩)]
  ·rw [if_neg hq];refine ⟨ih.len, ih.bK, ih.left, ih.steps, fun j => ?_⟩;rw [ih.at_ j];by_cases h2 : j < k /\ q j = true
   ·rw [if_pos h2, if_pos ⟨by omega, h2.2⟩]
   ·rw [if_neg h2, if_neg (fun e => h2 ⟨by
     have h3 := e.1;rcases Nat.lt_or_ge j k with h4 | h4
     ·exact h4
     ·have : j = k := by omega
      rw [this] at e;exact absurd e.2 hq, e.2⟩)]
end
def neR (N : Nat) (s : Int) : Ros := gz ⟨(N : Int), s, 40, Vector.replicate 16 0, 0, false⟩
theorem ln {N : Nat} {s : Int} (h1 : 3 <= N) (h2 : N <= 16) (h3 : 1 <= s) (h4 : s <= 64) : aU (neR N s) = true := by
 unfold neR;rw [rM];exact am ⟨by show 3 <= (N : Int); omega, by show (N : Int) <= 16; omega, h3, h4, by show (40 : Int) <= 40; omega, by show (40 : Int) <= 256; omega⟩
theorem kt (N : Nat) (s : Int) : (neR N s).m.toNat = N := by show ((N : Int)).toNat = N; omega
theorem xm {N : Nat} {s : Int} (h1 : 3 <= N) (h2 : N <= 16) (h3 : 1 <= s) (h4 : s <= 64) (q : Nat -> Bool) (ev : Nat) : HOk 9 ev (neR N s) (da q (bV (szK N s)) N) := by
 have hf := vj (q := q) (M := bV (szK N s)) (k := N) (by rw [eY]; omega);refine ⟨hf.bK, hf.left, by rw [kt, hf.len, eY]; omega, ln h1 h2 h3 h4, ⟨by decide, by decide⟩, fun m hm => ?_, fun m hm hg => ?_⟩
 ·rw [kt] at hm;rw [hf.at_ m, iF hm]
  split
  ·show 2 <= (List.replicate _ aB).length; rw [List.length_replicate]; omega
  ·show 2 <= (List.replicate _ aB).length; rw [List.length_replicate]; omega
 ·rw [kt] at hm;rw [hf.at_ m, iF hm] at hg ⊢;by_cases hq : m < N /\ q m = true
  ·rw [if_pos hq] at hg; cases hg
  ·rw [if_neg hq];exact ⟨_, rfl, ui ev (by omega)⟩
theorem oC {N : Nat} {s : Int} {q : Nat -> Bool} {j : Nat} (hj : j < N) : ((da q (bV (szK N s)) N).ds.getD j bI).g = q j := by
 have hf := vj (q := q) (M := bV (szK N s)) (k := N) (by rw [eY]; omega);rw [hf.at_ j, iF hj];cases hq : q j
 ·rw [if_neg (fun e => by cases e.2)]
 ·rw [if_pos ⟨hj, rfl⟩]
theorem sn {N : Nat} {s : Int} {j : Nat} (hj : j < 16) : sta (neR N s) j = 0 := qx _ hj
open Go.RowKit
set_option linter.unusedVariables false
set_option maxRecDepth 100000
section
variable {ρ : Operand -> Value} {o : Oper} {x y : Operand} {w : World} {a : Int}
theorem xq : (convert 3 43 (.int .i64 a)).run prog w = .ok (.int .u64 (IntKind.u64.wrap a)) w := by
 simp [convert, go_sem]
theorem va (ho : o.op = .convert 3 43 x) (hx : ρ x = .int .i64 a) : (execOp ρ o).run prog w = .ok (.value (.int .u64 (IntKind.u64.wrap a))) w := by
 unfold execOp;simp only [ho, hx, Sem.run_bind, xq, Result.andThen_ok, Sem.run_pure]
theorem ji (ho : o.op = .convert 3 43 x) (hx : ρ x = .int .i64 a) (h : IntKind.u64.wrap a = a) : (execOp ρ o).run prog w = .ok (.value (.int .u64 a)) w := by
 have := va (ρ := ρ) (w := w) ho hx;rwa [h] at this
end
section
variable {ρ : Operand -> Value} {o : Oper} {x y : Operand} {w : World} {a : Int}
theorem tc {t r : TypeId} {b c : Int} (ho : o.op = .binOp .rem t x y r) (hx : ρ x = .int .u8 a) (hy : ρ y = .int .u8 b) (h0 : b ≠ 0) (h : a.tmod b = c) : (execOp ρ o).run prog w = .ok (.value (.int .u8 c)) w := by
 unfold execOp;simp [ho, hx, hy, eqGuard, binOp, Op.intDiv, h, h0]
theorem xT (h : IntKind.i64.wrap a = a) : (convert 5 3 (.int .u8 a)).run prog w = .ok (.int .i64 a) w := by
 simp [convert, go_sem, h]
theorem vp (ho : o.op = .convert 5 3 x) (hx : ρ x = .int .u8 a) (h : IntKind.i64.wrap a = a) : (execOp ρ o).run prog w = .ok (.value (.int .i64 a)) w := by
 unfold execOp;simp only [ho, hx, Sem.run_bind, xT h, Result.andThen_ok, Sem.run_pure]
end
theorem eC {a : Int} (h : -9223372036854775808 <= a /\ a <= 9223372036854775807) : IntKind.i64.wrap a = a := IntWalk.i64_in _ ⟨by omega, by omega⟩
open Go.RowKit
set_option linter.unusedVariables false
set_option maxRecDepth 100000
def gp : Elt (Int × Blk) := o6 96 129 underlying96 (by kernel_rfl)
structure dw (w : World) (p : Nat) (vS vL : Value) (S : List Blk) (L : List (Int × Blk)) (g : Bool) : Prop where
 at_ : w.heap[p]? = some (.cells #[vS, vL, .bool g] 98)
 S_ : bc jP w 0 vS S
 L_ : bc gp w 0 vL L
section
variable {w w' : World} {p : Nat} {vS vL : Value} {S : List Blk} {L : List (Int × Blk)} {g : Bool} {F : Nat -> Prop}
theorem dw.lt (h : dw w p vS vL S L g) : ∀ k, foot p vS vL k -> k < w.heap.size := by
 intro k hk;rcases hk with rfl | hk | hk
 ·exact (Array.getElem?_eq_some_iff.1 h.at_).1
 ·exact h.S_.i3 k hk
 ·exact h.L_.i3 k hk
theorem dw.only (h : dw w p vS vL S L g) (k : Only F w w') (hn : ∀ b, foot p vS vL b -> ¬ F b) : dw w' p vS vL S L g :=
 ⟨k.keep h.at_ (hn p (.inl rfl)), h.S_.only k fun b hb => hn b (.inr (.inl hb)), h.L_.only k fun b hb => hn b (.inr (.inr hb))⟩
theorem dw.below (h : dw w p vS vL S L g) (k : Below w.heap.size w w') : dw w' p vS vL S L g := h.only (Only.of_below (fun _ => False) k) fun _ _ e => e
end
theorem jb (p : Nat) (vS vL : Value) (S : List Blk) (L : List (Int × Blk)) (g : Bool) (n : Int) (w : World) (h : dw w p vS vL S L g) :
  Calls prog 43 #[.pointer (some ⟨p, 0, none⟩), .int .i64 n] w fun e w' => e = .returned (.int .i64 (ct S g n)) /\ w = w' := by
 obtain ⟨c0, c1, c2⟩ := cells3 h.at_;obtain ⟨A, c, rfl, hc1, hc2⟩ := h.S_.form;by_cases h0 : n < 0
 ·have HE := ae (lH (S := S) (n := n) g (by omega));go_enter func43, ntmps43;go_wp2;go_ret;exact ⟨bH HE.out.symm, rfl⟩
 ·by_cases h1 : n < S.length
  ·cases g
   ·have HE := ae (fm (S := S) (n := n) (by omega));go_enter func43, ntmps43;go_wp2;go_ret;exact ⟨bH HE.out.symm, rfl⟩
   ·have HE := ae (jK (S := S) (n := n) (by omega));go_enter func43, ntmps43;go_wp2;go_ret;exact ⟨bH HE.out.symm, rfl⟩
  ·have HE := ae (lH (S := S) (n := n) g (by omega));go_enter func43, ntmps43;go_wp2;go_ret;exact ⟨bH HE.out.symm, rfl⟩
end Go.Proofs.YtehefifamaofkaaGreatDoor
