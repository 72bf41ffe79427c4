import Derived.Test.YtehefifamaofkaaGreatDoorGnac
namespace Go.Proofs.YtehefifamaofkaaGreatDoor
set_option maxHeartbeats 8000000
open Go.Proofs.Tryz
open Go.RowKit
set_option linter.unusedVariables false
set_option maxRecDepth 100000
theorem sA (p : Nat) (vS vL : Value) (S : List Blk) (L : List (Int × Blk)) (g : Bool) (n : Int) (w : World) (h : dr w p vS vL S L g) (he0 : co S g n ≠ 0) :
  Calls prog 84 #[.pointer (some ⟨p, 0, none⟩), .int .i64 n] w fun e w' => e = .returned (.tuple #[blk (dR S L g n), .int .i64 (co S g n)]) /\ Below w.heap.size w w' := by
 have hA := (Below.refl w.heap.size w).alloc ai (.cells (cel aA).toArray 29);have h1 := h.below hA;have HT := ae (eC w aA 29);have HA := ae hA;have HS := ae (oh (L := L) he0);clear hA;rcases dW (S := S) (g := g) (n := n) with he | he | ⟨he, _⟩
 ·have HE := ae he;clear he he0;go_enter func84, ntmps84;go_wp2_with (first | (refine av rfl (bJ rfl) ?_) | fail);refine (iX p vS vL S L g n _ h1).mono ?_;rintro e w1 ⟨rfl, rfl⟩;rw [HE.out];go_wp2_with (first | (refine av rfl (cG (c := aA) (parts := []) rfl rfl) ?_) | (refine a9 rfl (bv rfl rfl rfl HT.out) ?_));refine bodyPost_ret (cE rfl _ _ _ rfl (World.rangeAt_setCells_same _ _ _ _ (by rw [aI]; exact HT))) rfl ⟨by rw [HS.out, HE.out]; rfl, below_setCells HA ai _⟩
 ·have HE := ae he;clear he he0;go_enter func84, ntmps84;go_wp2_with (first | (refine av rfl (bJ rfl) ?_) | fail);refine (iX p vS vL S L g n _ h1).mono ?_;rintro e w1 ⟨rfl, rfl⟩;rw [HE.out];go_wp2_with (first | (refine av rfl (cG (c := aA) (parts := []) rfl rfl) ?_) | (refine a9 rfl (bv rfl rfl rfl HT.out) ?_));refine bodyPost_ret (cE rfl _ _ _ rfl (World.rangeAt_setCells_same _ _ _ _ (by rw [aI]; exact HT))) rfl ⟨by rw [HS.out, HE.out]; rfl, below_setCells HA ai _⟩
 ·exact absurd he he0
theorem tt (p k : Nat) (vS vL : Value) (S : List Blk) (L : List (Int × Blk)) (w : World) (h : dr w p vS vL S L false) (hk : k < S.length) :
  Calls prog 84 #[.pointer (some ⟨p, 0, none⟩), .int .i64 k] w fun e w' => e = .returned (.tuple #[blk (dR S L false k), .int .i64 0]) /\ Below w.heap.size w w' := by
 have hA := (Below.refl w.heap.size w).alloc ai (.cells (cel aA).toArray 29);have h1 := h.below hA;have he : co S false k = 0 := fc (by omega);have HE := ae he;have HS := ae (jc (L := L) he);have HN1 := ka w (cel aA).toArray 29;clear he;obtain ⟨A, c, rfl, hrd, hc1, hc2⟩ := h1.S_.open_ rfl;obtain ⟨b, off, rfl, hb, hr⟩ := hrd.blk hk;obtain ⟨c0, c1, c2⟩ := cells3 h1.at_;generalize S.getD k aA = x at *;have HR := ae hr;have HH := ae h1;have HA := ae hA;have HN := ae HN1;have HSZ := ae (World.size_alloc w (.cells (cel aA).toArray 29));clear hr hrd h1 hA h HN1;go_enter func84, ntmps84;go_wp2_with (first | (refine av rfl (bJ rfl) ?_) | fail);generalize w.alloc (.cells (cel aA).toArray 29) = w1 at *;refine (iX p _ vL S L false k _ HH).mono ?_;rintro e w2 ⟨rfl, rfl⟩;rw [HE.out];go_wp2_with (first | (refine av rfl (bm rfl rfl HR.out) ?_) | (refine av rfl (bJ rfl) ?_) | (refine a9 rfl (iq rfl rfl rfl) ?_) | fail);have HY := ae (ka w1 (cel x).toArray 29);have HH2 := ae (HH.out.below (aj.alloc ai (.cells (cel x).toArray 29)));have HK2 := ae (bq HN (.cells (cel x).toArray 29));have HA2 := ae (HA.out.alloc HA.out.size (.cells (cel x).toArray 29));have HF := ae HH.out.lt;have hyw : w.heap.size < w1.heap.size := by rw [HSZ.out]; omega
 have HSZ2 := ae (World.size_alloc w1 (.cells (cel x).toArray 29));clear HH HN HA c0 c1 c2 HR;generalize hy : w1.heap.size = y at *;generalize w1.alloc (.cells (cel x).toArray 29) = w2 at *;clear hy;go_wp2_with fail
 go_loopw [8] (fun i wr => ∃ j : Nat, j <= L.length /\ i = .int .i64 j /\ Only (fun b => b = y) w2 wr /\ wr.heap[y]? = some (.cells (cel (ij (L.take j) k x)).toArray 29)) (fun i _ => L.length - (intOf i).toNat)
 case atStart => exact ⟨0, Nat.zero_le _, rfl, Only.refl _ _, HY⟩
 case round =>
  obtain ⟨j, hj, rfl, hon, hY⟩ := hrel;have hH := HH2.out.only hon (fun b hb e => by have := HF.out b hb; omega);obtain ⟨c0, c1, c2⟩ := cells3 hH.at_;obtain ⟨AL, cL, rfl, hrd, hl1, hl2⟩ := hH.L_.open_ rfl;unfold maxLen at hl2;have HON := ae hon;have HYW := ae hY;clear hon hY hH;by_cases hlt : j < L.length
  ·have HNX := ae (iQ (L := L) (k : Int) x hlt);obtain ⟨bA, oA, rfl, hA, cA, rA⟩ := hrd.pair hlt;generalize L.getD j (0, aA) = q at *;obtain ⟨qn, qb⟩ := q;have HRA := ae rA;have HTY := ae (fi HYW);clear rA hrd;have hAw : bA ≠ y := by have := HF.out bA (.inr (.inr rfl)); omega
   have hLL : (j : Int) < (L.length : Int) := by omega
   by_cases e : qn = (k : Int)
   ·simp only [e, if_true] at HNX;subst e;go_wp2_with (first | (refine av rfl (bm rfl rfl HRA.out) ?_) | (refine a9 rfl (bv rfl rfl rfl HTY.out) ?_));go_roundw
    case rel => exact ⟨j + 1, by omega, by go_num, HON.out.setCells (.inl rfl) _ _, by rw [HNX.out]; exact oE HYW⟩
    case measure => simp [intOf]; omega
   ·rw [if_neg e] at HNX;go_wp2_with (first | (refine av rfl (bm rfl rfl HRA.out) ?_) | (refine a9 rfl (bv rfl rfl rfl HTY.out) ?_));go_roundw
    case rel => exact ⟨j + 1, by omega, by go_num, HON, by rw [HNX.out]; exact HYW⟩
    case measure => simp [intOf]; omega
  ·have hjn : j = L.length := by omega
   subst hjn;have HR := ae (HON.out.keep HK2 (by omega));have HTR := ae (fi HR);have HRY := ae (f9 HYW);rw [List.take_length] at HRY;generalize ij L (k : Int) x = z at *;have hLL : ¬((L.length : Int) < (L.length : Int)) := by omega
   go_wp2_with (first | (refine av rfl (bm rfl rfl HRY.out) ?_) | (refine a9 rfl (bv rfl rfl rfl HTR.out) ?_));refine bodyPost_ret (cE rfl _ _ _ rfl (World.rangeAt_setCells_same _ _ _ _ (by rw [aI]; exact HTR))) rfl ⟨by rw [HS.out]; rfl, ?_⟩;exact below_setCells (HA2.out.trans (HON.out.below (fun b hb => by omega) (by rw [HSZ2.out]; omega))) ai _
theorem zq (p : Nat) (vS vL : Value) (S : List Blk) (L : List (Int × Blk)) (g : Bool) (n : Int) (w : World) (h : dr w p vS vL S L g) :
  Calls prog 84 #[.pointer (some ⟨p, 0, none⟩), .int .i64 n] w fun e w' => e = .returned (.tuple #[blk (dR S L g n), .int .i64 (co S g n)]) /\ Below w.heap.size w w' := by
 by_cases he : co S g n = 0
 ·rcases dW (S := S) (g := g) (n := n) with h1 | h1 | ⟨_, rfl, k, rfl, hk⟩
  ·omega
  ·omega
  ·rw [he]; exact tt p k vS vL S L w h hk
 ·exact sA p vS vL S L g n w h he
section
variable {w w' : World} {p : Nat} {vS vL : Value} {S : List Blk} {L : List (Int × Blk)} {g : Bool}
theorem dr.aaz (h : dr w p vS vL S L g) (g' : Bool) : dr (w.setCell ⟨p, 2, none⟩ (.bool g')) p vS vL S L g' := by
 have hO := cH w p 2 (.bool g');refine ⟨?_, h.S_.only hO fun b hb e => h.S_.c8 h.at_ (by decide) (by rw [hb, e]), h.L_.only hO fun b hb e => h.L_.c8 h.at_ (by decide) (by rw [hb, e])⟩;have := heap_setCell_same w p 2 _ _ (.bool g') h.at_
 simpa using this
theorem dr.li (h : dr w p vS vL S L g) {vL' : Value} {L' : List (Int × Blk)} (h' : aY ga w 0 vL' L') : dr (w.setCell ⟨p, 1, none⟩ vL') p vS vL' S L' g := by
 have hO := cH w p 1 vL';refine ⟨?_, h.S_.only hO fun b hb e => h.S_.c8 h.at_ (by decide) (by rw [hb, e]), h'.only hO fun b hb e => h'.c8 h.at_ (by decide) (by rw [hb, e])⟩;have := heap_setCell_same w p 1 _ _ vL' h.at_
 simpa using this
theorem aap (hp : w.heap[p]? = some (.cells #[vS, vL, .bool g] 98)) (hS : aY jA w 0 vS S) {vL' : Value} {L' : List (Int × Blk)} (h' : aY ga w 0 vL' L') : dr (w.setCell ⟨p, 1, none⟩ vL') p vS vL' S L' g := by
 have hO := cH w p 1 vL';refine ⟨?_, hS.only hO fun b hb e => hS.c8 hp (by decide) (by rw [hb, e]), h'.only hO fun b hb e => h'.c8 hp (by decide) (by rw [hb, e])⟩;have := heap_setCell_same w p 1 _ _ vL' hp
 simpa using this
theorem aaJ {b : Nat} : (Instr.fieldAt 98 (.pointer (some ⟨b, 0, none⟩)) 0).run prog w = .ok (.pointer (some ⟨b, 0, none⟩)) w := by kernel_rfl
theorem xt {b : Nat} : (Instr.fieldAt 98 (.pointer (some ⟨b, 0, none⟩)) 1).run prog w = .ok (.pointer (some ⟨b, 1, none⟩)) w := by kernel_rfl
theorem zx {a : Addr} {A : Option Addr} {n c : Nat} (h : w.cell? a = some (.slice A n c)) : (Instr.loadAt 96 (.pointer (some a))).run prog w = .ok (.slice A n c) w := by simp [go_sem, h]
theorem stS {a : Addr} {v : Value} {A : Option Addr} {n c : Nat} (h : w.cell? a = some v) (hf : w.frozen? a = false) : (Instr.storeAt 96 (.pointer (some a)) (.slice A n c)).run prog w = .ok () (w.setCell a (.slice A n c)) := by simp [go_sem, h, hf]
theorem qB (k : Int) (b : Blk) : (Instr.build 129 #[(0, .int .i64 k), (1, blk b)]).run prog w = .ok (fD k b) w := by
 have hz := iw ga w;have h1 := ct (place := fun i => (#[(0, 1), (1, 64)] : Array (Nat × Nat))[i]?) (i := 0) (off := 0) (size := 1) (v := .int .i64 k) (pre := []) (mid := [.int .i64 0]) (post := cel aA) (vs := [.int .i64 k]) (rest := [(1, blk b)]) rfl rfl rfl rfl rfl;have h2 := ct (place := fun i => (#[(0, 1), (1, 64)] : Array (Nat × Nat))[i]?) (i := 1) (off := 1) (size := 64) (v := blk b) (pre := [.int .i64 k]) (mid := cel aA) (post := []) (vs := cel b) (rest := []) rfl rfl (aI b) rfl (aI aA);simp only [List.nil_append, List.append_nil, List.singleton_append] at h1 h2;have h3 := h1.trans h2;have hz' : (zeroValue 129).run prog w = .ok (fD 0 aA) w := hz;have hc : (fD 0 aA).cells = (.int .i64 0 :: cel aA).toArray := rfl;simp only [Instr.build, Sem.run_bind, hz', run_underlying underlying129, Result.andThen_ok, hc];refine Eq.trans (congrArg (fun r => Result.andThen r _) (?h : _ = Result.ok #[(0, 1), (1, 64)] w)) ?_
 case h => kernel_rfl
 simp only [Result.andThen_ok];have h4 : Instr.fill (fun i => (#[(0, 1), (1, 64)] : Array (Nat × Nat))[i]?) (.int .i64 k :: cel b).toArray [] = some (.int .i64 k :: cel b).toArray := by rw [Instr.fill]
 rw [h3.trans h4]
 rfl
theorem nI {ρ : Operand -> Value} {o : Oper} {x y : Operand} {k : Int} {b : Blk} (ho : o.op = .build 129 #[(0, x), (1, y)]) (hx : ρ x = .int .i64 k) (hy : ρ y = blk b) : (execOp ρ o).run prog w = .ok (.value (fD k b)) w := by
 have h := qB (w := w) k b;unfold execOp;simp only [ho, List.map_toArray, List.map_cons, List.map_nil, hx, hy, Sem.run_bind, h, Result.andThen_ok, Sem.run_pure]
theorem pair_cells (k : Int) (b : Blk) : (fD k b).cells = (ga.cel (k, b)).toArray := rfl
end
theorem yt (p : Nat) (vS vL : Value) (S : List Blk) (L : List (Int × Blk)) (g : Bool) (w : World) (h : dr w p vS vL S L g) :
  Calls prog 49 #[.pointer (some ⟨p, 0, none⟩)] w fun e w' => (∃ v, e = .returned v) /\ dr w' p vS (.slice none 0 0) S [] true /\ Only (foot p vS vL) w w' := by
 obtain ⟨c0, c1, c2⟩ := cells3 h.at_;have f1 := frozen_of_row w p 1 _ _ h.at_;have f2 := frozen_of_row w p 2 _ _ h.at_;have H := ae h;clear h;go_enter func49, ntmps49;go_wp2;refine bodyPost_end (results_none rfl _ _ _) rfl ⟨⟨_, rfl⟩, (H.out.aaz true).li (aY.nil _ _), ?_⟩;exact ((cH w p 2 _).trans (cH _ p 1 _) fun b hb => .inl hb).widen fun b hb => .inl hb
theorem qw (p : Nat) (vS vL : Value) (S : List Blk) (L : List (Int × Blk)) (g : Bool) (n : Int) (b : Blk) (w : World) (h : dr w p vS vL S L g) (he0 : co S g n ≠ 0) :
  Calls prog 45 #[.pointer (some ⟨p, 0, none⟩), .int .i64 n, blk b] w fun e w' => e = .returned (.int .i64 (co S g n)) /\ Below w.heap.size w w' := by
 have hA := (Below.refl w.heap.size w).alloc ai (.cells (cel b).toArray 29);have h1 := h.below hA;have HA := ae hA;clear hA;have H0 := ae he0;rcases dW (S := S) (g := g) (n := n) with he | he | ⟨he, _⟩
 ·have HE := ae he;clear he he0;go_enter func45, ntmps45;go_wp2_with (first | (refine av rfl (bV rfl rfl) ?_) | fail);refine (iX p vS vL S L g n _ h1).mono ?_;rintro e w1 ⟨rfl, rfl⟩;rw [HE.out];go_wp2_with fail;go_ret;exact ⟨bz HE.out.symm, HA⟩
 ·have HE := ae he;clear he he0;go_enter func45, ntmps45;go_wp2_with (first | (refine av rfl (bV rfl rfl) ?_) | fail);refine (iX p vS vL S L g n _ h1).mono ?_;rintro e w1 ⟨rfl, rfl⟩;rw [HE.out];go_wp2_with fail;go_ret;exact ⟨bz HE.out.symm, HA⟩
 ·exact absurd he he0
theorem ra (p k : Nat) (vS vL : Value) (S : List Blk) (L : List (Int × Blk)) (b : Blk) (w : World) (h : dr w p vS vL S L false) (hk : k < S.length) (hL : L.length < 1000000) :
  Calls prog 45 #[.pointer (some ⟨p, 0, none⟩), .int .i64 k, blk b] w fun e w' => e = .returned (.int .i64 0) /\ ∃ vL', dr w' p vS vL' S (L ++ [((k : Int), b)]) false /\ Only (foot p vS vL) w w' /\ (∀ x, vL'.ownBlock = some x -> vL.ownBlock = some x \/ w.heap.size <= x) := by
 have hA := (Below.refl w.heap.size w).alloc ai (.cells (cel b).toArray 29);have h1 := h.below hA;have HA := ae hA;have HE := ae (fc (S := S) (n := (k : Int)) (by omega));have HB := ae (ka w (cel b).toArray 29);clear hA;obtain ⟨AL, cL, rfl, hl1, hl2⟩ := h1.L_.form;go_enter func45, ntmps45;go_wp2_with (first | (refine av rfl (bV rfl rfl) ?_) | fail);refine (iX p vS _ S L false k _ h1).mono ?_;rintro e w1 ⟨rfl, rfl⟩;rw [HE.out];go_wp2_with fail;generalize hy : w.heap.size = y at *;generalize w.alloc (.cells (cel b).toArray 29) = w1 at *;refine gT (fun w' => w'.heap[p]? = some (.cells #[vS, .slice AL L.length cL, .bool false] 98) /\ w'.heap[y]? = some (.cells (cel b).toArray 29)) 12 (by kernel_rfl) ?_;change dN _ _ _ _ _ _ 13 _ _ w1.drew;have hS : w1.drew.heap[p]? = some (.cells #[vS, .slice AL L.length cL, .bool false] 98) /\ w1.drew.heap[y]? = some (.cells (cel b).toArray 29) := ⟨h1.at_, HB⟩;refine aa7 0 rfl (fun _ hw => aO rfl abd) hS ?_;refine aa7 1 rfl (fun _ hw => aO rfl abd) hS ?_;refine aa7 2 rfl (fun _ hw => cf rfl abd) hS ?_;refine aa7 3 rfl (fun _ hw => ax rfl abd xt) hS ?_;refine aa7 4 rfl (fun _ hw => aF rfl abd (zx (cells3 hw.1).2.1)) hS ?_;refine aa7 5 rfl (fun _ hw => aO rfl abd) hS ?_;refine aa7 6 rfl (fun _ hw => bm rfl abd (f9 hw.2)) hS ?_;refine aa7 7 rfl (fun _ hw => nI rfl abd abd) hS ?_;have hr : dr w1.drew p vS (.slice AL L.length cL) S L false := ⟨h1.at_, h1.S_, h1.L_⟩;have hS2 : dr (w1.drew.alloc (.cells (ga.cel ((k : Int), b)).toArray ga.t)) p vS (.slice AL L.length cL) S L false := hr.below (aj.alloc ai _);have hb2 := bq hS.2 (.cells (ga.cel ((k : Int), b)).toArray ga.t);have hnew : RdE ga _ _ _ 1 _ := gD (E := ga) (l := [((k : Int), b)]) w1.drew (ga.cel ((k : Int), b)).toArray ga.t (by rw [dC]; simp [ci]);obtain ⟨v3, w3, hrun, hm3, hg3, ho3⟩ := gx ga _ 96 0 _ 1 1 _ _ _ _ hS2.L_ hnew (Nat.zero_le _) (by omega);have hO2 : Only (foot p vS (.slice AL L.length cL)) w (w1.drew.alloc (.cells (ga.cel ((k : Int), b)).toArray ga.t)) := (Only.of_below _ (hy ▸ HA.out)).drew.alloc _;have hO3 := hO2.grown hg3 (fun x hx => .inl (.inr (.inr hx)));have hp3 : w3.heap[p]? = some (.cells #[vS, .slice AL L.length cL, .bool false] 98) := (hg3.block p (aX hS2.at_) (fun e => hS2.L_.c8 hS2.at_ (by decide) e.symm)).trans hS2.at_;have hy3 : w3.heap[y]? = some (.cells (cel b).toArray 29) := (hg3.block y (aX hb2) (fun e => hS2.L_.c8 hb2 (by decide) e.symm)).trans hb2;have hSS3 := hS2.S_.kept hg3 (hS2.S_.other hS2.L_ (by decide));refine eu 8 rfl (by kernel_rfl) rfl (eF (E := ga) (a := ((k : Int), b)) rfl abd (pair_cells _ _) (by decide)) (fun _ => ⟨hS2.at_, hb2⟩) ?_;simp only [aa];refine eu 9 rfl (by kernel_rfl) rfl (iA (E := ga) rfl abd abd hrun) (fun _ => ⟨hp3, hy3⟩) ?_;simp only [aa];refine eu 10 rfl (by kernel_rfl) rfl (cf rfl abd) (fun _ => ⟨hp3, hy3⟩) ?_;simp only [aa];refine eu 11 rfl (by kernel_rfl) rfl (ax rfl abd xt) (fun _ => ⟨hp3, hy3⟩) ?_;simp only [aa];obtain ⟨A3, c3, rfl, _, _⟩ := hm3.form;refine nT 12 rfl (by kernel_rfl) rfl (gt rfl (ev rfl) (ev rfl) (stS (cells3 hp3).2.1 (frozen_of_row _ _ _ _ _ hp3))) (fun e => absurd rfl e) ?_;simp only [Act.put];refine jZ (by kernel_rfl) ?_ _;go_wp2_with fail;go_ret;refine ⟨rfl, _, aap hp3 hSS3 hm3, hO3.setCell (.inl (.inl rfl)) _, fun x hx => ?_⟩;rcases ho3 x hx with e | e
 ·exact .inl e
 ·refine .inr (ap ?_ e);have := hO2.size;omega
theorem xR (p : Nat) (vS vL : Value) (S : List Blk) (L : List (Int × Blk)) (g : Bool) (n : Int) (b : Blk) (w : World) (h : dr w p vS vL S L g) (hL : L.length < 1000000) :
  Calls prog 45 #[.pointer (some ⟨p, 0, none⟩), .int .i64 n, blk b] w fun e w' => e = .returned (.int .i64 (co S g n)) /\ ∃ vL', dr w' p vS vL' S (wrL S L g n b) g /\ Only (foot p vS vL) w w' /\ (∀ x, vL'.ownBlock = some x -> vL.ownBlock = some x \/ w.heap.size <= x) := by
 by_cases he : co S g n = 0
 ·rcases dW (S := S) (g := g) (n := n) with h1 | h1 | ⟨_, rfl, k, rfl, hk⟩
  ·omega
  ·omega
  ·have e : wrL S L false k b = L ++ [((k : Int), b)] := by unfold wrL; rw [if_pos he]
   rw [e, he];exact ra p k vS vL S L b w h hk hL
 ·have e : wrL S L g n b = L := by unfold wrL; rw [if_neg he]
  rw [e];exact (qw p vS vL S L g n b w h he).mono fun e w' ⟨h1, h2⟩ => ⟨h1, vL, h.below h2, Only.of_below _ h2, fun x hx => .inl hx⟩
section
variable {w : World} {p b off gg n c k : Nat} {vL : Value} {S : List Blk} {L : List (Int × Blk)} {g : Bool}
theorem aaF : (Instr.fieldAt 129 (.pointer (some ⟨b, off, none⟩)) 0).run prog w = .ok (.pointer (some ⟨b, off, none⟩)) w := by kernel_rfl
theorem aaT : (Instr.fieldAt 129 (.pointer (some ⟨b, off, none⟩)) 1).run prog w = .ok (.pointer (some ⟨b, off + 1, none⟩)) w := by kernel_rfl
theorem dr.eW (h : dr w p (.slice (some ⟨gg, 0, none⟩) n c) vL S L g) (hk : k < n) (x : Blk) : dr (w.setCells gg (k * 64) (cel x)) p (.slice (some ⟨gg, 0, none⟩) n c) vL (S.set k x) L g := by
 have hO : Only (fun b => b = gg) w (w.setCells gg (k * 64) (cel x)) := (Only.refl (fun b => b = gg) w).setCells (.inl rfl) _ _;refine ⟨hO.keep h.at_ (fun e => h.S_.c8 h.at_ (by decide) (by rw [e]; rfl)), h.S_.store hk x, h.L_.only hO fun b hb e => ?_⟩;rcases h.L_.other h.S_ (by decide) with e' | e'
 ·rw [e'] at hb; cases hb
 ·exact e' (by rw [hb, e]; rfl)
end
theorem mP (p : Nat) (vS vL : Value) (S : List Blk) (L : List (Int × Blk)) (w : World) (h : dr w p vS vL S L true) :
  Calls prog 53 #[.pointer (some ⟨p, 0, none⟩)] w fun e w' => e = .returned (.int .i64 9) /\ w = w' := by
 obtain ⟨c0, c1, c2⟩ := cells3 h.at_;go_enter func53, ntmps53;go_wp2;go_ret;exact ⟨rfl, rfl⟩
theorem qE (p : Nat) (vS vL : Value) (S : List Blk) (L : List (Int × Blk)) (w : World) (h : dr w p vS vL S L false) (hF : Fit S L) :
  Calls prog 53 #[.pointer (some ⟨p, 0, none⟩)] w fun e w' => e = .returned (.int .i64 0) /\ dr w' p vS (.slice none 0 0) (flS S L) [] false /\ Only (foot p vS vL) w w' := by
 obtain ⟨c0, c1, c2⟩ := cells3 h.at_;obtain ⟨AL, cL, rfl, hl1, hl2⟩ := h.L_.form;unfold maxLen at hl2;have HH := ae h;have HF := ae hF;clear h hF;go_enter func53, ntmps53;go_wp2;clear c0 c1 c2
 go_loopw [3] (fun i wr => ∃ j : Nat, j <= L.length /\ i = .int .i64 j /\ dr wr p vS (.slice AL L.length cL) (flS S (L.take j)) L false /\ Only (foot p vS (.slice AL L.length cL)) w wr) (fun i _ => L.length - (intOf i).toNat)
 case atStart => exact ⟨0, Nat.zero_le _, rfl, HH, Only.refl _ _⟩
 case round =>
  obtain ⟨j, hj, rfl, hr, hon⟩ := hrel;obtain ⟨c0, c1, c2⟩ := cells3 hr.at_;by_cases hlt : j < L.length
  ·obtain ⟨k, hqk, hk⟩ := HF.out.at_ hlt;have hlenS := kz S (L.take j);obtain ⟨gS, cS, rfl⟩ := hr.S_.slice hlenS (by omega);obtain ⟨bA, oA, hAe, hAl, cA, rA⟩ := hr.L_.rd.pair hlt;have HS := ae (o9 (S := S) hlt);rw [hqk] at cA HS;generalize (L.getD j (0, aA)).2 = x at *;have HRA := ae rA;have HA := ae (⟨c0, c1⟩ : _ /\ _);have HRr := ae hr;have HON := ae hon;subst hAe;have HKT := ae (show wr.there gS (k * 64) 64 from by
    have := HRr.out.S_.there hk (j := 0) (m := 64) ai;rw [Nat.add_zero] at this;exact this)
   clear hr hon rA hqk hlenS;have hLL : (j : Int) < (L.length : Int) := by omega
   go_wp2_with fail;refine wp_region_still_tail 21 (by kernel_rfl) (by kernel_rfl) ?_;simp only [ac];refine aM rfl (aO rfl abd) ?_;simp only [aa];refine aM rfl (cf rfl abd) ?_;simp only [aa];refine aM rfl (ax rfl abd aaJ) ?_;simp only [aa];refine aM rfl (aF rfl abd (ldB HA.out.1)) ?_;simp only [aa];refine aM rfl (aO rfl abd) ?_;simp only [aa];refine aM rfl (cf rfl abd) ?_;simp only [aa];refine aM rfl (ax rfl abd xt) ?_;simp only [aa];refine aM rfl (aF rfl abd (zx HA.out.2)) ?_;simp only [aa];refine aM rfl (aO rfl abd) ?_;simp only [aa];refine aM rfl (cT (E := ga) rfl abd abd hlt) ?_;simp only [aa];refine aM rfl (ax rfl abd aaF) ?_;simp only [aa];refine aM rfl (aF rfl abd (ldI cA)) ?_;simp only [aa];refine aM rfl (aO rfl abd) ?_;simp only [aa];refine aM rfl (cf rfl abd) ?_;simp only [aa];refine aM rfl (ax rfl abd xt) ?_;simp only [aa];refine aM rfl (aF rfl abd (zx HA.out.2)) ?_;simp only [aa];refine aM rfl (aO rfl abd) ?_;simp only [aa];refine aM rfl (cT (E := ga) rfl abd abd hlt) ?_;simp only [aa];refine aM rfl (ax rfl abd aaT) ?_;simp only [aa];refine aM rfl (bm rfl abd HRA) ?_;simp only [aa];refine aM rfl (gZ (E := jA) rfl abd abd hk) ?_;simp only [aa];refine wpStill_nil ?_;change wpList _ _ _ _ _ wr.drew;go_wp2_with (first | (refine a9 rfl (bv rfl rfl rfl HKT.out) ?_));go_roundw
   case rel =>
    have hd : dr wr.drew p (.slice (some ⟨gS, 0, none⟩) S.length cS) (.slice (some ⟨bA, oA, none⟩) L.length cL) (flS S (L.take j)) L false := ⟨HRr.out.at_, HRr.out.S_, HRr.out.L_⟩;exact ⟨j + 1, by omega, by go_num, by rw [HS.out]; exact hd.eW hk x, HON.out.drew.setCells (.inl (.inr (.inl rfl))) _ _⟩
   case measure => simp [intOf]; omega
  ·have hjn : j = L.length := by omega
   subst hjn;have f1 := frozen_of_row wr p 1 _ _ hr.at_;have HRr := ae hr;have HON := ae hon;clear hr hon;have hLL : ¬((L.length : Int) < (L.length : Int)) := by omega
   go_wp2;go_ret;have hd := HRr.out.li (aY.nil _ _);rw [List.take_length] at hd;exact ⟨rfl, hd, HON.out.setCell (.inl (.inl rfl)) _⟩
theorem vJ (k : Nat) (w : World) (h1 : 1 <= k) (h2 : k <= 512) :
  Calls prog 73 #[.int .i64 k] w fun e w' => ∃ p vS, e = .returned (.tuple #[.pointer (some ⟨p, 0, none⟩), .int .i64 0]) /\ dr w' p vS (.slice none 0 0) (List.replicate k aA) [] false /\ Below w.heap.size w w' /\ ∀ b, foot p vS (.slice none 0 0) b -> w.heap.size <= b := by
 go_enter func73, ntmps73;have HM := ae (heap_alloc_new w (.cells (madeCells (cel aA).toArray (k * 64)) 29));have HB := ae ((Below.refl w.heap.size w).alloc ai (.cells (madeCells (cel aA).toArray (k * 64)) 29));have HSZ := ae (World.size_alloc w (.cells (madeCells (cel aA).toArray (k * 64)) 29));go_wp2_with (first | (refine av rfl (lZ (n := k) rfl rfl rfl (by omega)) ?_));generalize w.alloc (.cells (madeCells (cel aA).toArray (k * 64)) 29) = w1 at *;go_ret2;have hS : aY jA w1 0 (.slice (some ⟨w.heap.size, 0, none⟩) k k) (List.replicate k aA) := aY.of_block (E := jA) HM (by rw [<- lO]; rfl) (Nat.zero_le _) (by simp) (by unfold maxLen; omega);have hnw := heap_alloc_new w1 (.cells #[.slice (some ⟨w.heap.size, 0, none⟩) k k, .slice none 0 0, .bool false] 98);rw [HSZ.out] at hnw;refine ⟨w.heap.size + 1, _, rfl, ⟨hnw, hS.below (aj.alloc ai _), aY.nil _ _⟩, HB.out.alloc HB.out.size _, fun b hb => ?_⟩;rcases hb with rfl | hb | hb
 ·omega
 ·simp [Value.ownBlock] at hb; omega
 ·simp [Value.ownBlock] at hb
theorem uj (n : Int) (w : World) (h : ¬(1 <= n /\ n <= 512)) :
  Calls prog 73 #[.int .i64 n] w fun e w' => e = .returned (.tuple #[.pointer none, .int .i64 2]) /\ w = w' := by
 have hor : n < 1 \/ (1 <= n /\ 512 < n) := by omega
 clear h;rcases hor with h | ⟨h, h'⟩
 all_goals
  go_enter func73, ntmps73;go_wp2;go_ret2;exact ⟨rfl, rfl⟩
def Rv (w : World) (F : Nat -> Prop) (p : Nat) (S : List Blk) (L : List (Int × Blk)) (g : Bool) : Prop := ∃ vS vL, F = foot p vS vL /\ dr w p vS vL S L g /\ Fit S L
section
variable {w w' : World} {F G : Nat -> Prop} {p : Nat} {S : List Blk} {L : List (Int × Blk)} {g : Bool}
theorem Rv.lt (h : Rv w F p S L g) : ∀ b, F b -> b < w.heap.size := by
 obtain ⟨vS, vL, rfl, h, _⟩ := h;exact h.lt
theorem Rv.only (h : Rv w F p S L g) (k : Only G w w') (hn : ∀ b, F b -> ¬ G b) : Rv w' F p S L g := by
 obtain ⟨vS, vL, rfl, h, hF⟩ := h;exact ⟨vS, vL, rfl, h.only k hn, hF⟩
end
section
variable {w : World} {F : Nat -> Prop} {p : Nat} {S : List Blk} {L : List (Int × Blk)} {g : Bool}
theorem xE (n : Int) (h : Rv w F p S L g) : Calls prog 84 #[.pointer (some ⟨p, 0, none⟩), .int .i64 n] w fun e w' => e = .returned (.tuple #[blk (dR S L g n), .int .i64 (co S g n)]) /\ Below w.heap.size w w' := by
 obtain ⟨vS, vL, rfl, h, _⟩ := h;exact zq p vS vL S L g n w h
theorem uF (n : Int) (b : Blk) (hL : L.length < 1000000) (h : Rv w F p S L g) : Calls prog 45 #[.pointer (some ⟨p, 0, none⟩), .int .i64 n, blk b] w fun e w' => e = .returned (.int .i64 (co S g n)) /\ ∃ F', Rv w' F' p S (wrL S L g n b) g /\ Only F w w' /\ Grow w F F' := by
 obtain ⟨vS, vL, rfl, h, hF⟩ := h;refine (xR p vS vL S L g n b w h hL).mono ?_;rintro e w' ⟨he, vL', h1, h2, h3⟩;refine ⟨he, _, ⟨vS, vL', rfl, h1, hF.wr g n b⟩, h2, fun k hk => ?_⟩;rcases hk with e | e | e
 ·exact .inl (.inl e)
 ·exact .inl (.inr (.inl e))
 ·rcases h3 k e with e | e
  ·exact .inl (.inr (.inr e))
  ·exact .inr e
theorem vR (h : Rv w F p S L g) : Calls prog 53 #[.pointer (some ⟨p, 0, none⟩)] w fun e w' => e = .returned (.int .i64 (if g = true then 9 else 0)) /\ ∃ F', Rv w' F' p (if g = true then S else flS S L) (if g = true then L else []) g /\ Only F w w' /\ Grow w F F' := by
 obtain ⟨vS, vL, rfl, h, hF⟩ := h;cases g
 ·refine (qE p vS vL S L w h hF).mono ?_;rintro e w' ⟨he, h1, h2⟩;refine ⟨he, _, ⟨vS, _, rfl, h1, Fit.nil _⟩, h2, fun k hk => ?_⟩;rcases hk with e | e | e
  ·exact .inl (.inl e)
  ·exact .inl (.inr (.inl e))
  ·simp [Value.ownBlock] at e
 ·refine (mP p vS vL S L w h).mono ?_;rintro e w' ⟨he, rfl⟩;exact ⟨he, _, ⟨vS, vL, rfl, h, hF⟩, Only.refl _ _, Grow.same _ _⟩
theorem xf (h : Rv w F p S L g) : Calls prog 49 #[.pointer (some ⟨p, 0, none⟩)] w fun e w' => (∃ v, e = .returned v) /\ ∃ F', Rv w' F' p S [] true /\ Only F w w' /\ Grow w F F' := by
 obtain ⟨vS, vL, rfl, h, hF⟩ := h;refine (yt p vS vL S L g w h).mono ?_;rintro e w' ⟨he, h1, h2⟩;refine ⟨he, _, ⟨vS, _, rfl, h1, Fit.nil _⟩, h2, fun k hk => ?_⟩;rcases hk with e | e | e
 ·exact .inl (.inl e)
 ·exact .inl (.inr (.inl e))
 ·simp [Value.ownBlock] at e
theorem yE (k : Nat) (w : World) (h1 : 1 <= k) (h2 : k <= 512) : Calls prog 73 #[.int .i64 k] w fun e w' => ∃ p F, e = .returned (.tuple #[.pointer (some ⟨p, 0, none⟩), .int .i64 0]) /\ Rv w' F p (List.replicate k aA) [] false /\ Below w.heap.size w w' /\ ∀ b, F b -> w.heap.size <= b := by
 refine (vJ k w h1 h2).mono ?_;rintro e w' ⟨p, vS, he, hr, hb, hf⟩;exact ⟨p, _, he, ⟨vS, _, rfl, hr, Fit.nil _⟩, hb, hf⟩
end
def cj : eZ where
 K := ⟨Rv, Rv.lt, Rv.only⟩
 s := 91
 t := 90
 und := underlying91
 info := by kernel_rfl
 o := 93
 cs := fun v left bH steps => #[v, .int .i64 left, .bool bH, .int .i64 steps]
 ne := by decide
theorem m4 {w : World} {b : Nat} {t : TypeId} {x y z u : Value} (h : w.heap[b]? = some (.cells #[x, y, z, u] t (0, 0))) : w.cell? ⟨b, 0, none⟩ = some x /\ w.cell? ⟨b, 1, none⟩ = some y /\ w.cell? ⟨b, 2, none⟩ = some z /\ w.cell? ⟨b, 3, none⟩ = some u := by
 refine ⟨?_, ?_, ?_, ?_⟩
 ·rw [cell_of_row w b 0 _ t (0, 0) h]; rfl
 ·rw [cell_of_row w b 1 _ t (0, 0) h]; rfl
 ·rw [cell_of_row w b 2 _ t (0, 0) h]; rfl
 ·rw [cell_of_row w b 3 _ t (0, 0) h]; rfl
theorem rQ {w : World} {F : Nat -> Prop} {p : Nat} {S : List Blk} {L : List (Int × Blk)} {g : Bool} (n : Int) (h : Rv w F p S L g) : Calls prog 43 #[.pointer (some ⟨p, 0, none⟩), .int .i64 n] w fun e w' => e = .returned (.int .i64 (co S g n)) /\ w = w' := by
 obtain ⟨vS, vL, rfl, h, _⟩ := h;exact iX p vS vL S L g n w h
theorem kU {w : World} {F : Nat -> Prop} {p : Nat} {S : List Blk} {L : List (Int × Blk)} {g : Bool} (h : Rv w F p S L g) : ∃ A c, w.cell? ⟨p, 0, none⟩ = some (.slice A S.length c) /\ w.cell? ⟨p, 2, none⟩ = some (.bool g) := by
 obtain ⟨vS, vL, rfl, h, _⟩ := h;obtain ⟨c0, c1, c2⟩ := cells3 h.at_;obtain ⟨A, c, rfl, _, _⟩ := h.S_.form;exact ⟨A, c, c0, c2⟩
section
variable {w w' : World} {p : Nat} {v : Value} {Fs : Nat -> Nat -> Prop} {ps : List Nat} {M : aJ}
theorem bl.dO (h : bl cj w p v Fs ps M) : w.cell? ⟨p, 0, none⟩ = some v /\ w.cell? ⟨p, 1, none⟩ = some (.int .i64 M.left) /\ w.cell? ⟨p, 2, none⟩ = some (.bool M.bH) /\ w.cell? ⟨p, 3, none⟩ = some (.int .i64 M.steps) := m4 h.at_
theorem tz (h : bl cj w p v Fs ps M) :
  Calls prog 17 #[.pointer (some ⟨p, 0, none⟩)] w fun e w' => e = .returned (.int .i64 (M.ds.length : Int)) /\ w = w' := by
 obtain ⟨g, c, rfl, _, _⟩ := h.slice;obtain ⟨c0, c1, c2, c3⟩ := h.dO;go_enter func17, ntmps17;go_wp2;go_ret;exact ⟨rfl, rfl⟩
theorem yC (h : bl cj w p v Fs ps M) :
  Calls prog 56 #[.pointer (some ⟨p, 0, none⟩)] w fun e w' => e = .returned (.bool M.bH) /\ w = w' := by
 obtain ⟨c0, c1, c2, c3⟩ := h.dO;go_enter func56, ntmps56;go_wp2;go_ret;exact ⟨rfl, rfl⟩
theorem lg (h : bl cj w p v Fs ps M) {d : Int} (hd : ¬(0 <= d /\ d < M.ds.length)) :
  Calls prog 48 #[.pointer (some ⟨p, 0, none⟩), .int .i64 d] w fun e w' => e = .returned (.bool false) /\ w = w' := by
 obtain ⟨g, c, rfl, _, _⟩ := h.slice;obtain ⟨c0, c1, c2, c3⟩ := h.dO;clear h;by_cases h0 : 0 <= d
 ·have h1 : ¬(d < (M.ds.length : Int)) := by omega
  clear hd;go_enter func48, ntmps48;go_wp2;go_ret;exact ⟨rfl, rfl⟩
 ·clear hd;go_enter func48, ntmps48;go_wp2;go_ret;exact ⟨rfl, rfl⟩
theorem kH (h : bl cj w p v Fs ps M) {k : Nat} (hk : k < M.ds.length) :
  Calls prog 48 #[.pointer (some ⟨p, 0, none⟩), .int .i64 k] w fun e w' => e = .returned (.bool true) /\ w = w' := by
 obtain ⟨g, c, rfl, _, _⟩ := h.slice;obtain ⟨c0, c1, c2, c3⟩ := h.dO;clear h;go_enter func48, ntmps48;go_wp2;go_ret;exact ⟨rfl, rfl⟩
theorem lM (d : Int) (h : bl cj w p v Fs ps M) :
  Calls prog 42 #[.pointer (some ⟨p, 0, none⟩), .int .i64 d] w fun e w' => e = .returned (.int .i64 (df M d)) /\ w = w' := by
 obtain ⟨c0, c1, c2, c3⟩ := h.dO;rcases cO M d with ⟨e, hdk⟩ | ⟨e, hdk, ho⟩ | ⟨e, hdk, k, rfl, hk⟩
 ·rw [e];rw [hdk] at c2;clear e hdk h;go_enter func42, ntmps42;go_wp2;go_ret;exact ⟨rfl, rfl⟩
 ·rw [e];rw [hdk] at c2;have HO := ae (lg h ho);clear e hdk h ho;go_enter func42, ntmps42;go_wp2_with fail;refine HO.out.mono ?_;rintro e w1 ⟨rfl, rfl⟩;go_wp2_with fail;go_ret;exact ⟨rfl, rfl⟩
 ·rw [e];rw [hdk] at c2;have HO := ae (kH h hk);clear e hdk h hk;go_enter func42, ntmps42;go_wp2_with fail;refine HO.out.mono ?_;rintro e w1 ⟨rfl, rfl⟩;go_wp2_with fail;go_ret;exact ⟨rfl, rfl⟩
theorem tr (d : Int) (h : bl cj w p v Fs ps M) :
  Calls prog 86 #[.pointer (some ⟨p, 0, none⟩), .int .i64 d] w fun e w' => e = .returned (.int .i64 (dv M d)) /\ w = w' := by
 rcases jd M d with ⟨e, ho⟩ | ⟨e, k, rfl, hk⟩
 ·have HS : Hid (dv M d = 0) := ae (by unfold dv; rw [if_neg (by omega)]);have HO := ae (lg h ho);clear e h ho;go_enter func86, ntmps86;go_wp2_with fail;refine HO.out.mono ?_;rintro e w1 ⟨rfl, rfl⟩;go_wp2_with fail;go_ret;exact ⟨bz HS.out.symm, rfl⟩
 ·obtain ⟨x, hx⟩ : ∃ x, M.ds.getD k bD = x := ⟨_, rfl⟩;have hat := h.devs.at_ k hk;rw [hx] at hat
  have HS : Hid (dv M (k : Int) = (x.S.length : Int)) := ae (by unfold dv; rw [if_pos e, M.gB, hx]);have HO := ae (kH h hk);obtain ⟨g, c, rfl, _, _⟩ := h.slice;obtain ⟨c0, c1, c2, c3⟩ := h.dO;have ck := h.cell hk;obtain ⟨AS, cS, d0, d2⟩ := kU hat
  clear e h hat hx;generalize ps.getD k 0 = q at *;go_enter func86, ntmps86;go_wp2_with fail;refine HO.out.mono ?_;rintro e w1 ⟨rfl, rfl⟩;go_wp2_with fail;go_ret;exact ⟨bz HS.out.symm, rfl⟩
theorem yn (d n : Int) (h : bl cj w p v Fs ps M) :
  Calls prog 57 #[.pointer (some ⟨p, 0, none⟩), .int .i64 d, .int .i64 n] w fun e w' => e = .returned (.tuple #[blk (dx M d n), .int .i64 (ce M d n)]) /\ Below w.heap.size w w' := by
 have hA := (Below.refl w.heap.size w).alloc ai (.cells (cel aA).toArray 29);have h1 := h.below hA;have HT := ae (eC w aA 29);have HA := ae hA;have HO := ae (lM d h1);by_cases hl : df M d = 0
 ·rcases cO M d with ⟨e, _⟩ | ⟨e, _⟩ | ⟨e, hdk, k, rfl, hk⟩
  ·omega
  ·omega
  obtain ⟨x, hx⟩ : ∃ x, M.ds.getD k bD = x := ⟨_, rfl⟩;have hat := h1.devs.at_ k hk;rw [hx] at hat
  have HB : Hid (dx M (k : Int) n = dR x.S x.L x.g n) := ae (by unfold dx; rw [if_pos e, <- hx]; rfl);have HE : Hid (ce M (k : Int) n = co x.S x.g n) := ae (by unfold ce; rw [if_pos e, <- hx]; rfl);rw [e] at HO;have HD := ae (xE n hat);have HSZ := ae (World.size_alloc w (.cells (cel aA).toArray 29));obtain ⟨g, c, rfl, _, _⟩ := h1.slice;obtain ⟨c0, c1, c2, c3⟩ := h1.dO;have ck := h1.cell hk;clear e h h1 hat hx hdk hA hl;rw [HB.out, HE.out];clear HB HE;generalize dR x.S x.L x.g n = y at *;generalize co x.S x.g n = z at *;generalize ps.getD k 0 = q at *;go_enter func57, ntmps57;go_wp2_with (first | (refine av rfl (bJ rfl) ?_) | fail);refine HO.out.mono ?_;rintro e w1 ⟨rfl, rfl⟩;go_wp2_with fail;refine HD.out.mono ?_;rintro e w2 ⟨rfl, hb⟩;have HT2 := ae (bL HT (by rw [HSZ.out]; omega) hb);have HB2 := ae (HA.out.trans (hb.mono (by rw [HSZ.out]; omega)));clear hb;go_wp2_with (first | (refine a9 rfl (bv rfl rfl rfl HT2.out) ?_) | fail);exact bodyPost_ret (cE rfl _ _ _ rfl (World.rangeAt_setCells_same _ _ _ _ (by rw [aI]; exact HT2))) rfl ⟨rfl, below_setCells HB2 ai _⟩
 ·have HB : Hid (dx M d n = aA) := ae (by unfold dx; rw [if_neg hl]);have HE : Hid (ce M d n = df M d) := ae (by unfold ce; rw [if_neg hl]);clear h h1 hA;rw [HB.out, HE.out];rcases cO M d with ⟨e, _⟩ | ⟨e, _⟩ | ⟨e, _⟩
  rotate_right 1
  ·exact absurd e hl
  all_goals
   rw [e] at HO ⊢;clear e hl;go_enter func57, ntmps57;go_wp2_with (first | (refine av rfl (bJ rfl) ?_) | fail);refine HO.out.mono ?_;rintro e w1 ⟨rfl, rfl⟩;go_wp2_with (first | (refine av rfl (cG (c := aA) (parts := []) rfl rfl) ?_) | (refine a9 rfl (bv rfl rfl rfl HT.out) ?_));exact bodyPost_ret (cE rfl _ _ _ rfl (World.rangeAt_setCells_same _ _ _ _ (by rw [aI]; exact HT))) rfl ⟨rfl, below_setCells HA ai _⟩
theorem z5 (n : Int) (h : bl cj w p v Fs ps M) :
  Calls prog 14 #[.pointer (some ⟨p, 0, none⟩), .int .i64 n] w fun e w' => e = .returned (.int .i64 (iD M n)) /\ bl cj w' p v Fs ps (gj M n) /\ Only (fun b => b = p) w w' := by
 obtain ⟨c0, c1, c2, c3⟩ := h.dO;have f1 := frozen_of_row w p 1 _ _ h.at_;have HH := ae h;cases hdk : M.bH
 ·rw [hdk] at c2;by_cases hn : n < 0
  ·have HE : Hid (iD M n = 2) := ae (by unfold iD; rw [if_neg (by rw [hdk]; decide), if_pos hn]);have HS : Hid (gj M n = M) := ae (by unfold gj; rw [HE.out, if_neg (by decide)]);clear h hdk;go_enter func14, ntmps14;go_wp2_with fail;go_ret;exact ⟨bz HE.out.symm, by rw [HS.out]; exact HH, Only.refl _ _⟩
  ·have HE : Hid (iD M n = 0) := ae (by unfold iD; rw [if_neg (by rw [hdk]; decide), if_neg hn]);have HS : Hid (gj M n = ⟨M.ds, n.toNat, M.bH, M.steps⟩) := ae (by unfold gj; rw [HE.out, if_pos rfl]);have HN : Hid (((n.toNat : Nat) : Int) = n) := ae (by omega);clear h hdk;go_enter func14, ntmps14;go_wp2_with fail;go_ret;have ho := cH w p 1 (.int .i64 n);refine ⟨bz HE.out.symm, ?_, ho⟩;rw [HS.out];refine HH.out.obj _ _ _ ho ?_;have := heap_setCell_same w p 1 _ _ (.int .i64 n) HH.out.at_
   simpa [cj, HN.out] using this
 ·have HE : Hid (iD M n = 8) := ae (by unfold iD; rw [if_pos hdk]);have HS : Hid (gj M n = M) := ae (by unfold gj; rw [HE.out, if_neg (by decide)]);rw [hdk] at c2;clear h hdk;go_enter func14, ntmps14;go_wp2_with fail;go_ret;exact ⟨bz HE.out.symm, by rw [HS.out]; exact HH, Only.refl _ _⟩
theorem zE (d : Int) (h : bl cj w p v Fs ps M) :
  Calls prog 12 #[.pointer (some ⟨p, 0, none⟩), .int .i64 d] w fun e w' => e = .returned (.int .i64 (kf M d)) /\ Left cj w p v Fs ps M.ds.length (fZ M d) w' := by
 rcases jd M d with ⟨e, ho⟩ | ⟨e, k, rfl, hk⟩
 ·have HL := ae (Left.same h (M' := fZ M d) (by unfold fZ; rw [if_neg (by omega)]));have HO := ae (lg h ho);have HE := ae e;clear e h ho;go_enter func12, ntmps12;go_wp2_with fail;refine HO.out.mono ?_;rintro e w1 ⟨rfl, rfl⟩;go_wp2_with fail;go_ret;exact ⟨bz HE.out.symm, HL⟩
 ·obtain ⟨x, hx⟩ : ∃ x, M.ds.getD k bD = x := ⟨_, rfl⟩;have hat := h.devs.at_ k hk;rw [hx] at hat
  have HS : Hid (fZ M (k : Int) = M.put k ⟨x.S, [], true⟩) := ae (by unfold fZ; rw [if_pos e, <- hx]; rfl);have HO := ae (kH h hk);have HD := ae (xf hat);have HE := ae e;have HH := ae h;obtain ⟨g, c, rfl, _, _⟩ := h.slice;obtain ⟨c0, c1, c2, c3⟩ := h.dO;have ck := h.cell hk;obtain ⟨q, hq⟩ : ∃ q, ps.getD k 0 = q := ⟨_, rfl⟩;rw [hq] at ck HD;have HQ := ae hq;clear e h hat hx hq;go_enter func12, ntmps12;go_wp2_with fail;refine HO.out.mono ?_;rintro e w1 ⟨rfl, rfl⟩;go_wp2_with fail;refine HD.out.mono ?_;rintro e w2 ⟨⟨z, rfl⟩, F', h1, h2, h3⟩;go_wp2_with fail;go_ret;exact ⟨bz HE.out.symm, Left.turn HH hk h2 h3 (d := ⟨x.S, [], true⟩) (by rw [HQ.out]; exact h1) HS⟩
def aJ.step (M : aJ) : aJ := if M.left = 1 then M.night else M.done
theorem vm (h : bl cj w p v Fs ps M) (hs : M.steps < 1000000) (hll : M.left < 9223372036854775808) :
  Calls prog 44 #[.pointer (some ⟨p, 0, none⟩)] w fun e w' => e = .returned (.int .i64 M.db) /\ bl cj w' p v Fs ps M.step /\ Only (fun b => b = p) w w' := by
 obtain ⟨c0, c1, c2, c3⟩ := h.dO;have f1 := frozen_of_row w p 1 _ _ h.at_;have f2 := frozen_of_row w p 2 _ _ h.at_;have f3 := frozen_of_row w p 3 _ _ h.at_;have HH := ae h;clear h;by_cases h1 : M.left = 1
 ·have HE : Hid (M.db = 8) := ae (by unfold aJ.db; rw [if_pos h1]);have HS : Hid (M.step = M.night) := ae (by unfold aJ.step; rw [if_pos h1]);rw [h1] at c1;clear h1 hs hll;go_enter func44, ntmps44;go_wp2_with fail;go_ret;have ho := cH w p 2 (.bool true);refine ⟨bz HE.out.symm, ?_, ho⟩;rw [HS.out];refine HH.out.obj _ _ _ ho ?_;have := heap_setCell_same w p 2 _ _ (.bool true) HH.out.at_
  simpa [cj] using this
 ·have HE : Hid (M.db = 0) := ae (by unfold aJ.db; rw [if_neg h1]);have HS : Hid (M.step = M.done) := ae (by unfold aJ.step; rw [if_neg h1]);by_cases h2 : 1 < M.left
  ·have hl1 : ((M.left : Int) == 1) = false := by simpa using (by omega : ¬ (M.left : Int) = 1)
   go_enter func44, ntmps44;go_wp2_with fail;go_ret;have ho := (cH w p 1 (.int .i64 ((M.left : Int) - 1))).setCell (p := ⟨p, 3, none⟩) (.inl rfl) (.int .i64 ((M.steps : Int) + 1));refine ⟨bz HE.out.symm, ?_, ho⟩;rw [HS.out];refine HH.out.obj _ _ _ ho ?_;have h3 := heap_setCell_same _ p 3 _ _ (.int .i64 ((M.steps : Int) + 1)) (heap_setCell_same w p 1 _ _ (.int .i64 ((M.left : Int) - 1)) HH.out.at_);have e : ((M.left - 1 : Nat) : Int) = (M.left : Int) - 1 := by omega
   simpa [cj, e] using h3
  ·have hl0 : M.left = 0 := by omega
   have HL0 := ae hl0;rw [hl0] at c1;clear h1 hll h2 hl0;go_enter func44, ntmps44;go_wp2_with fail;go_ret;have ho := cH w p 3 (.int .i64 ((M.steps : Int) + 1));refine ⟨bz HE.out.symm, ?_, ho⟩;rw [HS.out];refine HH.out.obj _ _ _ ho ?_;have h3 := heap_setCell_same w p 3 _ _ (.int .i64 ((M.steps : Int) + 1)) HH.out.at_
   simpa [cj, HL0.out] using h3
end
section
variable {w w' : World} {p : Nat} {v : Value} {Fs : Nat -> Nat -> Prop} {ps : List Nat} {M : aJ}
theorem ny {d : Int} (h0 : df M d ≠ 0) : df M d = 8 \/ df M d = 2 := by
 rcases cO M d with ⟨e, _⟩ | ⟨e, _⟩ | ⟨e, _⟩
 ·exact .inl e
 ·exact .inr e
 ·exact absurd e h0
theorem qV (d : Int) (h : bl cj w p v Fs ps M) (hl : eV M d ≠ 0) :
  Calls prog 16 #[.pointer (some ⟨p, 0, none⟩), .int .i64 d] w fun e w' => e = .returned (.int .i64 (f8 M d)) /\ Left cj w p v Fs ps M.ds.length (ey M d) w' := by
 have HE : Hid (f8 M d = eV M d) := ae (by unfold f8; rw [if_neg hl]);have HL := ae (Left.same h (M' := ey M d) (by unfold ey; rw [if_neg hl]));have HO := ae (lM d h);by_cases h0 : df M d = 0
 ·rcases cO M d with ⟨e, _⟩ | ⟨e, _⟩ | ⟨e, hdk, k, rfl, hk⟩
  ·omega
  ·omega
  obtain ⟨x, hx⟩ : ∃ x, M.ds.getD k bD = x := ⟨_, rfl⟩;have hat := h.devs.at_ k hk;rw [hx] at hat
  have hg : x.g = true := by
   cases hg : x.g
   ·exfalso; apply hl; unfold eV; rw [if_pos e, show M.dev (k : Int) = x from hx, hg, if_neg (by decide)]
   ·rfl
  have H9 : Hid (eV M (k : Int) = 9) := ae (by unfold eV; rw [if_pos e, show M.dev (k : Int) = x from hx, hg, if_pos rfl]);obtain ⟨g, c, rfl, _, _⟩ := h.slice;obtain ⟨c0, c1, c2, c3⟩ := h.dO;have ck := h.cell hk;obtain ⟨AS, cS, d0, d2⟩ := kU hat
  rw [hg] at d2;rw [e] at HO;clear e h hat hx hdk hl h0 hg;generalize ps.getD k 0 = q at *;go_enter func16, ntmps16;go_wp2_with fail;refine HO.out.mono ?_;rintro e w1 ⟨rfl, rfl⟩;go_wp2_with fail;go_ret;exact ⟨bz (by rw [HE.out, H9.out]), HL⟩
 ·have HA : Hid (eV M d = df M d) := ae (by unfold eV; rw [if_neg h0]);clear h hl;rw [HE.out, HA.out];rcases ny h0 with e | e
  all_goals
   rw [e] at HO ⊢;clear e h0;go_enter func16, ntmps16;go_wp2_with fail;refine HO.out.mono ?_;rintro e w1 ⟨rfl, rfl⟩;go_wp2_with fail;go_ret;exact ⟨rfl, HL⟩
theorem wJ (d : Int) (h : bl cj w p v Fs ps M) (hs : M.steps < 1000000) (hll : M.left < 9223372036854775808) :
  Calls prog 16 #[.pointer (some ⟨p, 0, none⟩), .int .i64 d] w fun e w' => e = .returned (.int .i64 (f8 M d)) /\ Left cj w p v Fs ps M.ds.length (ey M d) w' := by
 by_cases hl : eV M d = 0;rotate_left 1
 ·exact qV d h hl
 have hlit : df M d = 0 := by
  unfold eV at hl;by_cases h0 : df M d = 0
  ·exact h0
  ·rw [if_neg h0] at hl; exact hl
 rcases cO M d with ⟨e, _⟩ | ⟨e, _⟩ | ⟨e, hdk, k, rfl, hk⟩
 ·omega
 ·omega
 obtain ⟨x, hx⟩ : ∃ x, M.ds.getD k bD = x := ⟨_, rfl⟩;have hat := h.devs.at_ k hk;rw [hx] at hat
 have hg : x.g = false := by
  cases hg : x.g
  ·rfl
  ·exfalso; unfold eV at hl; rw [if_pos e, show M.dev (k : Int) = x from hx, hg, if_pos rfl] at hl; omega
 have HEE : Hid (f8 M (k : Int) = M.db) := ae (by unfold f8; rw [if_pos hl]);have HO := ae (lM (k : Int) h);rw [e] at HO;have HST := ae (vm h hs hll);obtain ⟨q, hq⟩ : ∃ q, ps.getD k 0 = q := ⟨_, rfl⟩;obtain ⟨g, c, rfl, _, _⟩ := h.slice;obtain ⟨c0, c1, c2, c3⟩ := h.dO;have ck := h.cell hk;obtain ⟨AS, cS, d0, d2⟩ := kU hat
 rw [hg] at d2;rw [hq] at ck d2 d0;by_cases h1 : M.left = 1
 ·have HE : Hid (M.db = 8) := ae (by unfold aJ.db; rw [if_pos h1]);have HN : Hid (M.step = M.night) := ae (by unfold aJ.step; rw [if_pos h1]);have HS : Hid (ey M (k : Int) = M.night) := ae (by unfold ey; rw [if_pos hl, if_pos h1]);clear e h hat hx hdk hl hg h1 hlit hs hll hq;go_enter func16, ntmps16;go_wp2_with fail;refine HO.out.mono ?_;rintro e w1 ⟨rfl, rfl⟩;go_wp2_with fail;refine HST.out.mono ?_;rintro e w2 ⟨rfl, h2, ho2⟩;rw [HE.out];have H2 := ae h2;have HO2 := ae ho2;clear h2 ho2;go_wp2_with fail;go_ret;refine ⟨bz (by rw [HEE.out, HE.out]), ?_⟩;rw [HS.out, <- HN.out];exact Left.obj H2 HO2 (by rw [HN.out]; rfl)
 ·have HE : Hid (M.db = 0) := ae (by unfold aJ.db; rw [if_neg h1]);have HN : Hid (M.step = M.done) := ae (by unfold aJ.step; rw [if_neg h1]);have HS : Hid (ey M (k : Int) = M.done.put k ⟨flS x.S x.L, [], x.g⟩) := ae (by unfold ey; rw [if_pos hl, if_neg h1, show M.dev (k : Int) = x from hx]; rfl);have HX := ae hx;have HG := ae hg;have HQ := ae hq;clear e h hat hx hdk hl hg h1 hlit hs hll hq;go_enter func16, ntmps16;go_wp2_with fail;refine HO.out.mono ?_;rintro e w1 ⟨rfl, rfl⟩;go_wp2_with fail;refine HST.out.mono ?_;rintro e w2 ⟨rfl, h2, ho2⟩;rw [HE.out];rw [HN.out] at h2;obtain ⟨e0, e1, e2, e3⟩ := h2.dO;have ek := bl.cell (M := M.done) h2 (i := k) hk;rw [HQ.out] at ek;have hat2 := h2.devs.at_ k hk;rw [show M.done.ds.getD k bD = x from HX.out, HQ.out] at hat2;have HD := ae (vR hat2);have H2 := ae h2;have HO2 := ae ho2;clear h2 ho2 hat2 c0 c1 c2 c3 ck d0 d2;go_wp2_with fail;refine HD.out.mono ?_;rintro e w3 ⟨rfl, F', g1, g2, g3⟩;rw [HG.out];have HL := ae (Left.behind HO2 (Left.turn H2 (i := k) hk g2 g3 (d := ⟨flS x.S x.L, [], x.g⟩) (show Rv _ _ _ _ _ _ by rw [HQ.out]; simpa [HG.out] using g1) HS));clear g1 g2 g3;go_wp2_with fail;go_ret;exact ⟨bz (by rw [HEE.out, HE.out]), HL⟩
end
section
variable {w w' : World} {p : Nat} {v : Value} {Fs : Nat -> Nat -> Prop} {ps : List Nat} {M : aJ}
theorem aac {b : Nat} : (Instr.fieldAt 93 (.pointer (some ⟨b, 0, none⟩)) 0).run prog w = .ok (.pointer (some ⟨b, 0, none⟩)) w := by kernel_rfl
theorem aaM {a : Addr} {A : Option Addr} {n c : Nat} (h : w.cell? a = some (.slice A n c)) : (Instr.loadAt 91 (.pointer (some a))).run prog w = .ok (.slice A n c) w := by simp [go_sem, h]
theorem aaI {a : Addr} {A : Option Addr} (h : w.cell? a = some (.pointer A)) : (Instr.loadAt 90 (.pointer (some a))).run prog w = .ok (.pointer A) w := by simp [go_sem, h]
theorem tS {k : eZ} {ρ : Operand -> Value} {o : Oper} {x y : Operand} {w : World} {b n c j : Nat} (ho : o.op = .indexAddr k.E.s x y) (hx : ρ x = .slice (some ⟨b, 0, none⟩) n c) (hy : ρ y = .int .i64 (j : Int)) (hj : j < n) : (execOp ρ o).run prog w = .ok (.value (.pointer (some ⟨b, j, none⟩))) w := by
 have h := cT (E := k.E) (w := w) ho hx hy hj;rwa [show 0 + j * k.E.n = j from by show 0 + j * 1 = j; omega] at h
theorem pI (d n : Int) (x : Blk) (h : bl cj w p v Fs ps M) (hr : ce M d n ≠ 0) :
  Calls prog 10 #[.pointer (some ⟨p, 0, none⟩), .int .i64 d, .int .i64 n, blk x] w fun e w' => e = .returned (.int .i64 (ce M d n)) /\ Below w.heap.size w w' := by
 have hA := (Below.refl w.heap.size w).alloc ai (.cells (cel x).toArray 29);have h1 := h.below hA;have HO := ae (lM d h1);have HA := ae hA;by_cases h0 : df M d = 0
 ·rcases cO M d with ⟨e, _⟩ | ⟨e, _⟩ | ⟨e, hdk, k, rfl, hk⟩
  ·omega
  ·omega
  obtain ⟨y, hy⟩ : ∃ y, M.ds.getD k bD = y := ⟨_, rfl⟩;have hat := h1.devs.at_ k hk;rw [hy] at hat
  have hr0 : ce M (k : Int) n = co y.S y.g n := by unfold ce; rw [if_pos e, M.gB, hy]
  rw [hr0] at hr ⊢;have HD := ae (rQ n hat);obtain ⟨g, c, rfl, _, _⟩ := h1.slice;obtain ⟨c0, c1, c2, c3⟩ := h1.dO;have ck := h1.cell hk;rw [e] at HO;clear e h h1 hA hat hy hdk h0 hr0;generalize ps.getD k 0 = q at *;rcases dW (S := y.S) (g := y.g) (n := n) with e | e | ⟨e, _⟩
  rotate_right 1
  ·exact absurd e hr
  all_goals
   rw [e] at HD ⊢;clear e hr;go_enter func10, ntmps10;go_wp2_with (first | (refine av rfl (bV rfl rfl) ?_) | fail);refine HO.out.mono ?_;rintro e w1 ⟨rfl, rfl⟩;go_wp2_with fail;refine HD.out.mono ?_;rintro e w2 ⟨rfl, rfl⟩;go_wp2_with fail;go_ret;exact ⟨rfl, HA⟩
 ·have hr0 : ce M d n = df M d := by unfold ce; rw [if_neg h0]
  rw [hr0];clear h h1 hA hr hr0;rcases ny h0 with e | e
  all_goals
   rw [e] at HO ⊢;clear e h0;go_enter func10, ntmps10;go_wp2_with (first | (refine av rfl (bV rfl rfl) ?_) | fail);refine HO.out.mono ?_;rintro e w1 ⟨rfl, rfl⟩;go_wp2_with fail;go_ret;exact ⟨rfl, HA⟩
theorem ph (n : Int) (x : Blk) (h : bl cj w p v Fs ps M) {k : Nat} (hdk : M.bH = false) (hk : k < M.ds.length) (he : co (M.ds.getD k bD).S (M.ds.getD k bD).g n = 0) (hs : M.steps < 1000000) (hll : M.left < 9223372036854775808) (hL : (M.ds.getD k bD).L.length < 1000000) :
  Calls prog 10 #[.pointer (some ⟨p, 0, none⟩), .int .i64 k, .int .i64 n, blk x] w fun e w' => e = .returned (.int .i64 M.db) /\ Left cj w p v Fs ps M.ds.length (dz M (k : Int) n x) w' := by
 obtain ⟨y, hy⟩ : ∃ y, M.ds.getD k bD = y := ⟨_, rfl⟩;obtain ⟨q, hq⟩ : ∃ q, ps.getD k 0 = q := ⟨_, rfl⟩;have hA := (Below.refl w.heap.size w).alloc ai (.cells (cel x).toArray 29);have h1 := h.below hA;have HO := ae (lM (k : Int) h1);rw [iu hdk hk] at HO;have hat := h1.devs.at_ k hk;have hr0 : ce M (k : Int) n = 0 := by unfold ce; rw [if_pos (iu hdk hk), M.gB]; exact he
 rw [hy, hq] at hat
 rw [hy] at he hL;have HD := ae (rQ n hat);rw [he] at HD;have HST := ae (vm h1 hs hll);obtain ⟨g, c, rfl, _, _⟩ := h1.slice;obtain ⟨c0, c1, c2, c3⟩ := h1.dO;have ck := h1.cell hk;rw [hq] at ck;have HA := ae hA;have HE := ae he;have HL := ae hL;have HY := ae hy;have HQ := ae hq;have HR := ae hr0;have HB := ae (ka w (cel x).toArray 29);have HPW := ae (aX h.at_);by_cases h2 : M.left = 1
 ·have HE1 : Hid (M.db = 8) := ae (by unfold aJ.db; rw [if_pos h2]);have HN : Hid (M.step = M.night) := ae (by unfold aJ.step; rw [if_pos h2]);have HW : Hid (dz M (k : Int) n x = M.night) := ae (by unfold dz; rw [if_pos hr0, if_pos h2]);clear h h1 h2 hA hat hr0 hy hq hdk he hs hll hL;go_enter func10, ntmps10;go_wp2_with (first | (refine av rfl (bV rfl rfl) ?_) | fail);refine HO.out.mono ?_;rintro e w1 ⟨rfl, rfl⟩;go_wp2_with fail;refine HD.out.mono ?_;rintro e w2 ⟨rfl, rfl⟩;go_wp2_with fail;refine HST.out.mono ?_;rintro e w3 ⟨rfl, h3, ho3⟩;rw [HE1.out];have HLL := ae (Left.above HA (Left.obj h3 ho3 (n := M.ds.length) (by rw [HN.out]; rfl)));clear h3 ho3;go_wp2_with fail;go_ret;exact ⟨bz HE1.out.symm, by rw [HW.out, <- HN.out]; exact HLL⟩
 ·have HE1 : Hid (M.db = 0) := ae (by unfold aJ.db; rw [if_neg h2]);have HN : Hid (M.step = M.done) := ae (by unfold aJ.step; rw [if_neg h2]);have HW : Hid (dz M (k : Int) n x = M.done.put k ⟨y.S, wrL y.S y.L y.g n x, y.g⟩) := ae (by unfold dz; rw [if_pos hr0, if_neg h2, show M.dev (k : Int) = y from hy]; rfl);clear h h1 h2 hA hat hr0 hy hq hdk he hs hll hL;go_enter func10, ntmps10;go_wp2_with (first | (refine av rfl (bV rfl rfl) ?_) | fail);refine HO.out.mono ?_;rintro e w1 ⟨rfl, rfl⟩;go_wp2_with fail;refine HD.out.mono ?_;rintro e w2 ⟨rfl, rfl⟩;go_wp2_with fail;refine HST.out.mono ?_;rintro e w3 ⟨rfl, h3, ho3⟩;rw [HE1.out];rw [HN.out] at h3;have hb3 := ho3.keep HB (fun e => by have := HPW.out; omega);have H3 := ae h3;have HB3 := ae hb3;have HO3 := ae (Only.trans (Only.of_below (fun b => b = p) HA) ho3 fun b hb => .inl hb);clear h3 ho3 hb3 c0 c1 c2 c3 ck;go_wp2_with fail;have hdr : bl cj w3.drew p (.slice (some ⟨g, 0, none⟩) M.ds.length c) Fs ps M.done := H3.out.below (bd aj);refine wp_region_still_tail 9 (by kernel_rfl) (by kernel_rfl) ?_;simp only [ac];refine aM rfl (aO rfl abd) ?_;simp only [aa];refine aM rfl (cf rfl abd) ?_;simp only [aa];refine aM rfl (ax rfl abd aac) ?_;simp only [aa];refine aM rfl (aF rfl abd (aaM hdr.dO.1)) ?_;simp only [aa];refine aM rfl (aO rfl abd) ?_;simp only [aa];refine aM rfl (tS (k := cj) rfl abd abd hk) ?_;simp only [aa];refine aM rfl (aF rfl abd (aaI (bl.cell (M := M.done) hdr (i := k) hk))) ?_;simp only [aa];refine aM rfl (aO rfl abd) ?_;simp only [aa];refine aM rfl (bm rfl abd (f9 HB3)) ?_;simp only [aa];refine wpStill_nil ?_;change wpList _ _ _ _ _ w3.drew;rw [HQ.out];have hat3 := hdr.devs.at_ k hk;rw [show M.done.ds.getD k bD = y from HY.out, HQ.out] at hat3;have HDR := ae hdr;have HD3 := ae (uF n x HL hat3);clear hdr hat3;go_wp2_with fail;refine HD3.out.mono ?_;rintro e w4 ⟨rfl, F', g1, g2, g3⟩;rw [HE.out];have HLT := ae (Left.behind (HO3.out.drew) (Left.turn HDR (i := k) hk g2 g3 (d := ⟨y.S, wrL y.S y.L y.g n x, y.g⟩) (show Rv _ _ _ _ _ _ by rw [HQ.out]; exact g1) HW));clear g1 g2 g3;go_wp2_with fail;go_ret;exact ⟨bz HE1.out.symm, HLT⟩
theorem xk (d n : Int) (x : Blk) (h : bl cj w p v Fs ps M) (hr : ∀ i, i < M.ds.length -> (M.ds.getD i bD).L.length < 1000000) (hs : M.steps < 1000000) (hll : M.left < 9223372036854775808) :
  Calls prog 10 #[.pointer (some ⟨p, 0, none⟩), .int .i64 d, .int .i64 n, blk x] w fun e w' => e = .returned (.int .i64 (iB M d n)) /\ Left cj w p v Fs ps M.ds.length (dz M d n x) w' := by
 by_cases hr0 : ce M d n = 0
 ·have hlit : df M d = 0 := by
   by_cases h0 : df M d = 0
   ·exact h0
   ·unfold ce at hr0; rw [if_neg h0] at hr0; exact hr0
  rcases cO M d with ⟨e, _⟩ | ⟨e, _⟩ | ⟨e, hdk, k, rfl, hk⟩
  ·omega
  ·omega
  have he : co (M.ds.getD k bD).S (M.ds.getD k bD).g n = 0 := by unfold ce at hr0; rwa [if_pos e, M.gB] at hr0
  refine (ph n x h hdk hk he hs hll (hr k hk)).mono ?_;rintro e w' ⟨rfl, hl⟩;exact ⟨by unfold iB; rw [if_pos hr0], hl⟩
 ·refine (pI d n x h hr0).mono ?_;rintro e w' ⟨rfl, hb⟩;exact ⟨by unfold iB; rw [if_neg hr0], Left.pQ h hb (by unfold dz; rw [if_neg hr0])⟩
end
section
variable {w w' : World}
theorem zN {A : Option Addr} {n c : Nat} {ks : List Int} (hl : RdE hZ w w.heap.size A n ks) (hnc : n <= c) (hc : c <= maxLen) :
  Calls prog 35 #[.slice A n c] w (dX cj w ks) := by
 have hlen : ks.length = n := hl.1;unfold maxLen at hc;by_cases h1 : n < 1
 ·have HN := ae (show ¬ fS ks from fun h => by have := h.1; omega);have h0 : n = 0 := by omega
  subst h0;clear hl hlen h1;go_enter func35, ntmps35;go_wp2;go_ret2;exact dX.no aj HN rfl
 by_cases h2 : 17 < n
 ·have HN := ae (show ¬ fS ks from fun h => by have := h.2.1; omega);have h1' : ¬((n : Int) < 1) := by omega
  have h2' : ((n : Int) > 17) := by omega
  clear hl hlen h1 h2;go_enter func35, ntmps35;go_wp2;go_ret2;exact dX.no aj HN rfl
 have h1' : ¬((n : Int) < 1) := by omega
 have h2' : ¬((n : Int) > 17) := by omega
 have h3' : ¬(17 < (n : Int)) := by omega
 have HL := ae hl;have HLEN := ae hlen;have HMK := ae (show Making cj w (w.alloc (.cells #[.slice none 0 0, .int .i64 0, .bool false, .int .i64 0] 93)) (.slice none 0 0) (fun _ _ => False) [] [] 0 false 0 from
  ⟨heap_alloc_new w _, aY.nil _ _, ⟨rfl, fun i hi => absurd hi (Nat.not_lt_zero i), fun i j hi => absurd hi (Nat.not_lt_zero i)⟩, fun i hi => absurd hi (Nat.not_lt_zero i), (Below.refl _ w).alloc ai _⟩)
 clear hl hlen;go_enter func35, ntmps35;go_wp2_with fail;generalize w.alloc (.cells #[.slice none 0 0, .int .i64 0, .bool false, .int .i64 0] 93) = w0 at *;clear h1' h2' h3'
 go_loopw [5] (fun i wr => ∃ (j : Nat) (v : Value) (Fs : Nat -> Nat -> Prop) (ps : List Nat), j <= n /\ i = .int .i64 j /\ Making cj w wr v Fs ps ((ks.take j).map kJ) 0 false 0 /\ ∀ q, q < j -> 1 <= ks.getD q 0 /\ ks.getD q 0 <= 512) (fun i _ => n - (intOf i).toNat)
 case atStart => exact ⟨0, _, _, _, Nat.zero_le _, rfl, HMK, fun q hq => absurd hq (Nat.not_lt_zero q)⟩
 case round =>
  obtain ⟨j, v, Fs, ps, hj, rfl, hmk, hall⟩ := hrel;have HALL := ae hall;clear hall HMK;by_cases hlt : j < n
  ·have hlj : (j : Int) < (n : Int) := by omega
   obtain ⟨bA, oA, rfl, hbA, hcA⟩ := (HL.out.below hmk.below).int hlt;have HM := ae hmk;obtain ⟨AS, cS, rfl, hs1, hs2⟩ := hmk.row.form;unfold maxLen at hs2;have hpl : ps.length = j := by have := hmk.devs.len; rw [List.length_map, List.length_take] at this; have := HLEN.out; omega
   have HPL := ae hpl;obtain ⟨z, hz⟩ : ∃ z, ks.getD j 0 = z := ⟨_, rfl⟩;rw [hz] at hcA;have HZ := ae hz;clear hmk hz hpl;by_cases hok : 1 <= z /\ z <= 512
   ·obtain ⟨k, rfl⟩ : ∃ k : Nat, z = k := ⟨z.toNat, by omega⟩;have hk1 : 1 <= k := by omega
    have hk2 : k <= 512 := by omega
    clear hok;go_wp2_with fail;refine (yE k wr hk1 hk2).mono ?_;rintro e w1 ⟨p', F', rfl, hd1, hb1, hF1⟩;have hat1 := aC HM.out.at_ hb1;obtain ⟨c0, c1, c2, c3⟩ := m4 hat1;have hrow1 := HM.out.row.below hb1;have hrow2 := hrow1.below ((Below.refl _ w1).alloc ai (.cells (cj.E.cel p').toArray cj.E.t));have HR := ae hrow2;have HNEW := ae (gD (E := cj.E) (l := [p']) w1 (cj.E.cel p').toArray cj.E.t (by rw [dC]; simp [ci]));have HSZ := ae (show w.heap.size <= (w1.alloc (.cells (cj.E.cel p').toArray cj.E.t)).heap.size by rw [World.size_alloc]; have := HM.out.below.size; have := hb1.size; omega);have HD1 := ae hd1;have HB1 := ae hb1;have HF1 := ae hF1;have HAT := ae hat1;have HPS := ae (show ps.length + 1 <= 34359738368 by have := HPL.out; omega);clear hd1 hb1 hF1 hat1 hrow1 hrow2;have hal : w.heap.size < w1.heap.size := aX HAT;go_wp2_with (first | (refine av rfl (eF (E := cj.E) (a := p') rfl rfl rfl (by decide)) ?_) | (at_builtin; refine gF cj.E rfl _ _ rfl w.heap.size _ _ _ _ ps [p'] _ rfl rfl HR HNEW HSZ HPS ?_) | fail);intro v' w3 hm3 hg3 ho3;have hxv : v'.ownBlock ≠ some w.heap.size := fun e => by
     rcases ho3 _ e with e' | e'
     ·exact HM.out.row.c8 HM.out.at_ cj.ne e'
     ·omega
    have HNX := ae (HM.out.next (fun _ _ => rfl) HB1 HF1 (d := kJ k) HD1 hm3 hg3 ho3);have hvx : (Value.slice AS ps.length cS).ownBlock ≠ some w.heap.size := HM.out.row.c8 HM.out.at_ cj.ne;have hat3 : w3.heap[w.heap.size]? = some _ := (hg3.block w.heap.size (by rw [World.size_alloc]; omega) (fun e => hvx e.symm)).trans (bq HAT _);obtain ⟨AV, cV, rfl, _, _⟩ := hm3.form;obtain ⟨d0, d1, d2, d3⟩ := m4 hat3;have f0 := frozen_of_row w3 w.heap.size 0 _ _ hat3;clear hm3 hg3 ho3 hat3 c0 c1 c2 c3;go_wp2_with fail;go_roundw
    case rel =>
     refine ⟨j + 1, .slice AV (ps.length + 1) cV, upF Fs (List.map kJ (List.take j ks)).length F', ps ++ [p'], by omega, by go_num, ?_, fun q hq => ?_⟩
     ·rw [iH (by have := HLEN.out; omega), HZ.out];have h6 := HNX.out;rw [show (ps ++ [p']).length = ps.length + 1 from by simp] at h6;exact h6
     ·by_cases e : q = j
      ·subst e; rw [HZ.out]; omega
      ·exact HALL.out q (by omega)
    case measure => simp [intOf]; omega
   ·have HB := ae HM.out.below;have HN := ae (show ¬ fS ks from fun h => hok (by have := h.2.2 z (by rw [<- HZ.out]; exact ib (by have := HLEN.out; omega)); exact this));go_wp2_with fail;refine (uj z wr hok).mono ?_;rintro e w1 ⟨rfl, rfl⟩;have HB1 := ae HB;clear hok;go_wp2_with fail;go_ret2;exact dX.no HB1 HN rfl
  ·have hjn : j = n := by omega
   subst hjn;have hlj : ¬((j : Int) < (j : Int)) := by omega
   have HM := ae hmk;clear hmk;go_wp2_with fail;go_ret2;have h5 := HM.out;have hLL := HLEN.out;rw [<- hLL, List.take_length] at h5;obtain ⟨g1, g2, g3⟩ := h5.done (by rw [List.length_map]; omega) (by rw [List.length_map]; omega);refine ⟨g3, .inl ⟨⟨by omega, by omega, fun k hk => ?_⟩, _, _, _, _, rfl, g1, g2⟩⟩;obtain ⟨i, hi, rfl⟩ := List.getElem_of_mem hk;have := HALL.out i (by omega);rwa [List.getD_eq_getElem?_getD, List.getElem?_eq_getElem hi] at this
end
def aai : vu where
 read := 57
 write := 10
 flush := 16
 fail := 12
 arm := 14
 devices := 17
 dV := 86
 bH := 56
def RB (w : World) (F : Nat -> Prop) (p : Nat) (M : aJ) : Prop := InB cj w F p M /\ M.Wf
theorem lH {M : aJ} {k : Nat} {d : gI} (h : M.Wf) (hd : d.S.length = (M.ds.getD k bD).S.length) : (M.put k d).Wf := by
 refine ⟨by rw [M.kB]; exact h.one, by rw [M.kB]; exact h.cap, fun i hi => ?_⟩;rw [M.kB] at hi
 show 1 <= ((M.ds.set k d).getD i bD).S.length /\ ((M.ds.set k d).getD i bD).S.length <= 512
 by_cases e : i = k
 ·subst e; rw [gP hi, hd]; exact h.len i hi
 ·rw [gd e]; exact h.len i hi
theorem rj {M : aJ} (h : M.Wf) : M.done.Wf := ⟨h.one, h.cap, h.len⟩
theorem nW {M : aJ} (h : M.Wf) : M.night.Wf := ⟨h.one, h.cap, h.len⟩
theorem aaa {M : aJ} (h : M.Wf) (d n : Int) (b : Blk) : (dz M d n b).Wf := by
 unfold dz
 split
 ·split
  ·exact nW h
  ·exact lH (rj h) rfl
 ·exact h
theorem zL {M : aJ} (h : M.Wf) (d : Int) : (ey M d).Wf := by
 unfold ey
 split
 ·split
  ·exact nW h
  ·exact lH (rj h) (by rw [kz]; rfl)
 ·exact h
theorem zM {M : aJ} (h : M.Wf) (d : Int) : (fZ M d).Wf := by
 unfold fZ
 split
 ·exact lH h rfl
 ·exact h
theorem aae {M : aJ} (h : M.Wf) (n : Int) : (gj M n).Wf := by
 unfold gj
 split
 ·exact ⟨h.one, h.cap, h.len⟩
 ·exact h
theorem zu {ks : List Int} (h : fS ks) : (b9 ks).Wf := by
 refine ⟨by rw [ft, List.length_map]; exact h.1, by rw [ft, List.length_map]; exact h.2.1, fun i hi => ?_⟩;rw [ft, List.length_map] at hi;have : ((b9 ks).ds.getD i bD) = kJ (ks.getD i 0) := by
  rw [ft, List.getD, List.getD, List.getElem?_map, List.getElem?_eq_getElem hi]; rfl
 rw [this];have h2 := h.2.2 _ (ib (x := 0) hi)
 show 1 <= (List.replicate _ _).length /\ (List.replicate _ _).length <= 512
 rw [List.length_replicate];omega
def aaP : Ben aai where
 Bn := RB
 lt := fun h => h.1.lt
 only := fun h ho hn => ⟨h.1.only ho hn, h.2⟩
 wf := fun h => h.2
 read := fun d n ⟨⟨_, _, _, _, h⟩, _⟩ => yn d n h
 write := fun d n b hr ⟨⟨_, _, _, e, h⟩, hw⟩ => by
  subst e;exact (xk d n b h (fun i hi => hr.at_ hi) (by have := hr.1; omega) hr.2.1).mono fun e w' ⟨h1, h2⟩ => ⟨h1, by obtain ⟨F', g1, g2⟩ := h2.out; exact ⟨F', ⟨g1, aaa hw _ _ _⟩, g2⟩⟩
 flush := fun d hr ⟨⟨_, _, _, e, h⟩, hw⟩ => by
  subst e;exact (wJ d h (by have := hr.1; omega) hr.2.1).mono fun e w' ⟨h1, h2⟩ => ⟨h1, by obtain ⟨F', g1, g2⟩ := h2.out; exact ⟨F', ⟨g1, zL hw _⟩, g2⟩⟩
 fail := fun d ⟨⟨_, _, _, e, h⟩, hw⟩ => by
  subst e;exact (zE d h).mono fun e w' ⟨h1, h2⟩ => ⟨h1, by obtain ⟨F', g1, g2⟩ := h2.out; exact ⟨F', ⟨g1, zM hw _⟩, g2⟩⟩
 arm := fun {w F p M} n ⟨⟨_, _, _, e, h⟩, hw⟩ => by
  subst e;exact (z5 n h).mono fun e w' ⟨h1, h2, h3⟩ => ⟨h1, by obtain ⟨F', g1, g2⟩ := (Left.obj h2 h3 (n := M.ds.length) (by unfold gj; split <;> rfl)).out; exact ⟨F', ⟨g1, aae hw _⟩, g2⟩⟩
 devices := fun ⟨⟨_, _, _, _, h⟩, _⟩ => (tz h).mono fun e w' ⟨h1, h2⟩ => ⟨h1, by subst h2; exact aj⟩
 dV := fun d ⟨⟨_, _, _, _, h⟩, _⟩ => (tr d h).mono fun e w' ⟨h1, h2⟩ => ⟨h1, by subst h2; exact aj⟩
 bH := fun ⟨⟨_, _, _, _, h⟩, _⟩ => (yC h).mono fun e w' ⟨h1, h2⟩ => ⟨h1, by subst h2; exact aj⟩
structure aaB extends Ben aai where
 new : ∀ {w A n c ks}, RdE hZ w w.heap.size A n ks -> n <= c -> c <= maxLen -> Calls prog 35 #[.slice A n c] w (zr Bn w ks)
def um : aaB where
 toBen := aaP
 new := fun h1 h2 h3 => (zN h1 h2 h3).mono fun e w' h => by
  obtain ⟨g1, g | g⟩ := h
  ·obtain ⟨g0, p, v, Fs, ps, g2, g3, g4⟩ := g;exact ⟨g1, .inl ⟨g0, p, _, g2, ⟨⟨v, Fs, ps, rfl, g3⟩, zu g0⟩, g4⟩⟩
  ·exact ⟨g1, .inr g⟩
section
variable {ρ : Operand -> Value} {o : Oper} {x y : Operand} {w : World} {t : TypeId} {old cs : Array Value}
theorem i1 (hz : (prog.info? t).map (·.size) = some cs.size) (he : old.size = cs.size) (h1 : cs.toList.all Value.oneCell' = true) (ho : o.op = .store t x y) (hx : ρ x = .pointer (some ⟨w.heap.size, 0, none⟩)) (hy : ρ y = .agg cs) :
  (execOp ρ o).run prog (w.alloc (.cells old t)) = .ok .skip (w.alloc (.cells cs t)) := by
 have h := run_storeAt_new (P := prog) w t old cs hz he (by simpa using h1);unfold execOp;simp only [ho, hx, hy, Sem.run_bind, h, Result.andThen_ok, Sem.run_pure]
end
def arr (l : List UInt8) : Value := .agg (vals l).toArray
section
variable {ρ : Operand -> Value} {o : Oper} {x y : Operand} {w : World} {b off : Nat} {t : TypeId} {cs ds : List Value} {d : TypeDesc}
theorem ec (hu : prog.underlying t = some d) (hd : d.isRow = true) (hz : (prog.info? t).map (·.size) = some cs.length) (ho : o.op = .load t x) (hx : ρ x = .pointer (some ⟨b, off, none⟩)) (hc : w.rangeAt b off cs) :
  (execOp ρ o).run prog w = .ok (.value (.agg cs.toArray)) w := aF ho hx (run_loadAt_mid w b off t cs d hc hu hd hz)
theorem et (ho : o.op = .box t x) (hx : ρ x = .agg cs.toArray) : (execOp ρ o).run prog w = .ok (.value (.pointer (some ⟨w.heap.size, 0, none⟩))) (w.alloc (.cells cs.toArray t)) := by
 unfold execOp;simp [ho, hx, Instr.box, newVar, newRow, Value.cells]
theorem fh {v : Value} (h : (prog.info? t).map (fun i => i.zero) = some (some v)) (w : World) : (zeroValue t).run prog w = .ok v w := by
 cases hq : prog.info? t with
 |none => rw [hq] at h; cases h
 |some i =>
  rw [hq] at h;simp only [Option.map_some, Option.some.injEq] at h;simp [zeroValue, typeInfo, hq, h]
theorem dl (h : (prog.info? t).map (fun i => i.zero) = some (some (.agg cs.toArray))) (ho : o.op = .alloc t) : (execOp ρ o).run prog w = .ok (.value (.pointer (some ⟨w.heap.size, 0, none⟩))) (w.alloc (.cells cs.toArray t)) := by
 have hz := fh h w;unfold execOp;simp [ho, Instr.alloc, hz, newVar, newRow, Value.cells]
theorem el (hz : (prog.info? t).map (·.size) = some cs.length) (h1 : ∀ v ∈ cs, v.oneCell' = true) (ho : o.op = .store t x y) (hx : ρ x = .pointer (some ⟨b, off, none⟩)) (hy : ρ y = .agg cs.toArray) (ht : w.there b off cs.length) :
  (execOp ρ o).run prog w = .ok .skip (w.setCells b off cs) := by
 have h := run_storeAt_mid (P := prog) w b off t cs.toArray (by simpa using ht) (by simpa using hz) (all_oneCell_toArray h1);refine gt ho hx hy ?_
 simpa using h
theorem fP (hz : (prog.info? t).map (·.size) = some cs.length) (he : ds.length = cs.length) (h1 : ∀ v ∈ cs, v.oneCell' = true) (ho : o.op = .store t x y) (hx : ρ x = .pointer (some ⟨w.heap.size, 0, none⟩)) (hy : ρ y = .agg cs.toArray) :
  (execOp ρ o).run prog (w.alloc (.cells ds.toArray t)) = .ok .skip (w.alloc (.cells cs.toArray t)) :=
 i1 (by simpa using hz) (by simpa using he) (by simpa using h1) ho hx hy
theorem fN {v : Value} (ho : o.op = .build t #[]) (h : (Instr.build t #[]).run prog w = .ok v w) : (execOp ρ o).run prog w = .ok (.value v) w := by
 unfold execOp;simp only [ho, List.map_toArray, List.map_nil, Sem.run_bind, h, Result.andThen_ok, Sem.run_pure]
theorem oT {r : TypeId} {xs ys : Array Value} {c : Bool} (hg : prog.eqGuardType prog.depth t = false) (he : (Op.equalIn 10000 t (.agg xs) (.agg ys)).run prog w = .ok c w) (ho : o.op = .binOp .eql t x y r) (hx : ρ x = .agg xs) (hy : ρ y = .agg ys) :
  (execOp ρ o).run prog w = .ok (.value (.bool c)) w := by
 have h := run_eql_struct (P := prog) w t xs ys;rw [he] at h;unfold execOp;simp only [ho, hx, hy, Sem.run_bind, run_eqGuard_agg w .eql t x y xs ys hg, Result.andThen_ok];rw [h];simp
theorem vy {r : TypeId} {xs ys : Array Value} {c : Bool} (hg : prog.eqGuardType prog.depth t = false) (he : (Op.equalIn 10000 t (.agg xs) (.agg ys)).run prog w = .ok c w) (ho : o.op = .binOp .neq t x y r) (hx : ρ x = .agg xs) (hy : ρ y = .agg ys) :
  (execOp ρ o).run prog w = .ok (.value (.bool (!c))) w := by
 have h := run_neq_struct (P := prog) w t xs ys;rw [he] at h;unfold execOp;simp only [ho, hx, hy, Sem.run_bind, run_eqGuard_agg w .neq t x y xs ys hg, Result.andThen_ok];rw [h];simp
end
section
variable {ρ : Operand -> Value} {o : Oper} {x y : Operand} {w : World} {t r : TypeId} {k : IntKind} {a b : Int}
theorem dA (c : Bool) (ho : o.op = .binOp .gtr t x y r) (hx : ρ x = .int k a) (hy : ρ y = .int k b) (h : decide (b < a) = c) : (execOp ρ o).run prog w = .ok (.value (.bool c)) w := by
 unfold execOp;simp [ho, hx, hy, eqGuard, binOp, Op.intCmp, h]
theorem cl (c : Bool) (ho : o.op = .binOp .geq t x y r) (hx : ρ x = .int k a) (hy : ρ y = .int k b) (h : decide (b <= a) = c) : (execOp ρ o).run prog w = .ok (.value (.bool c)) w := by
 unfold execOp;simp [ho, hx, hy, eqGuard, binOp, Op.intCmp, h]
theorem fU (c : Bool) (ho : o.op = .binOp .leq t x y r) (hx : ρ x = .int k a) (hy : ρ y = .int k b) (h : decide (a <= b) = c) : (execOp ρ o).run prog w = .ok (.value (.bool c)) w := by
 unfold execOp;simp [ho, hx, hy, eqGuard, binOp, Op.intCmp, h]
theorem bF (c : Bool) (ho : o.op = .binOp .lss t x y r) (hx : ρ x = .int k a) (hy : ρ y = .int k b) (h : decide (a < b) = c) : (execOp ρ o).run prog w = .ok (.value (.bool c)) w := by
 unfold execOp;simp [ho, hx, hy, eqGuard, binOp, Op.intCmp, h]
theorem oy {ad : Addr} {n : Int} (h : w.cell? ad = some (.int .u8 n)) : (Instr.loadAt 5 (.pointer (some ad))).run prog w = .ok (.int .u8 n) w := by simp [go_sem, h]
end
theorem dw {w : World} {ad : Addr} {k : Int} (h : w.cell? ad = some (.int .i64 k)) : (Instr.loadAt 3 (.pointer (some ad))).run prog w = .ok (.int .i64 k) w := by simp [go_sem, h]
theorem cX {w : World} {ad : Addr} {k : Int} (h : w.cell? ad = some (.int .u64 k)) : (Instr.loadAt 30 (.pointer (some ad))).run prog w = .ok (.int .u64 k) w := by simp [go_sem, h]
theorem mr {t : TypeId} {n : Nat} (hu : prog.underlying t = some (.array n 5)) (w : World) (a b : List UInt8) (ha : a.length = n) (hb : b.length = n) (d : Nat) : (Op.equalIn (d + 2) t (arr a) (arr b)).run prog w = .ok (decide (a = b)) w := by
 have he : ∀ x y : Int, (Op.equalIn (d + 1) 5 (.int .u8 x) (.int .u8 y)).run prog w = .ok (x == y) w := fun x y => run_equalIn_int w d 5 .u8 .u8 x y underlying5
 have hp : ∀ (c : List UInt8) (i : Nat), i < c.length -> (part 5 (vals c).toArray (i * 1)).run prog w = .ok (.int .u8 (bt c i)) w := fun c i hi => by
  have := fE hi;simp [part, this]
 show (Op.equalIn ((d + 1) + 1) t (arr a) (arr b)).run prog w = .ok (decide (a = b)) w
 generalize d + 1 = e at *;have key : ∀ (l : List Nat), (∀ i ∈ l, i < n) ->
   ((forIn l ((none : Option Bool), ()) fun i r => do
    let x <- part 5 (vals a).toArray (i * 1)
    let y <- part 5 (vals b).toArray (i * 1)
    let z <- Op.equalIn e 5 x y
    if (!z) = true then pure (ForInStep.done (some false, ())) else pure (ForInStep.yield (none, ())) : Sem _)).run prog w =
   .ok (if l.all (fun i => bt a i == bt b i) then (none, ()) else (some false, ())) w := by
  intro l
  induction l with
  |nil => intro _; simp
  |cons i l ih =>
   intro hl;have hi := hl i (by simp);simp only [List.forIn_cons, Sem.run_bind, hp a i (by omega), hp b i (by omega), Result.andThen_ok, he];by_cases h : bt a i = bt b i
   ·have hb : (bt a i == bt b i) = true := by simpa using h
    simp only [hb, Bool.not_true, Bool.false_eq_true, if_false, Sem.run_pure, Result.andThen_ok, List.all_cons, Bool.true_and];exact ih fun j hj => hl j (by simp [hj])
   ·have hb : (bt a i == bt b i) = false := by simpa using h
    simp [hb]
 have hall : ((List.range' 0 n).all fun i => bt a i == bt b i) = decide (a = b) := by
  rw [Bool.eq_iff_iff, List.all_eq_true, decide_eq_true_iff]
  constructor
  ·intro h;exact fQ (by omega) fun j hj => by simpa using h j (by simp [List.mem_range']; omega)
  ·rintro rfl i _;simp
 have hk := key (List.range' 0 n) (fun i hi => by simp [List.mem_range'] at hi; omega);rw [hall] at hk;simp only [Op.equalIn, arr, Sem.run_bind, run_underlying hu, Result.andThen_ok, Tryz.sizeOf5, Std.Legacy.Range.forIn_eq_forIn_range'];simp only [Std.Legacy.Range.size, Nat.sub_zero, Nat.add_sub_cancel, Nat.div_one];rw [hk];by_cases h : a = b
 ·simp [h]
 ·simp [h]
theorem bK {w : World} {b : Nat} {t : TypeId} {cs : List Value} (h : w.heap[b]? = some (.cells cs.toArray t (0, 0))) : w.rangeAt b 0 cs := fun j v hj => by
 rw [cell_of_row w b (0 + j) _ t (0, 0) h, Nat.zero_add]
 simpa using hj
theorem dJ {w : World} {b o k : Nat} {cs ds es fs : List Value} (h : w.rangeAt b o cs) (e : cs = ds ++ (es ++ fs)) (hk : ds.length = k) : w.rangeAt b (o + k) es := fun j v hj => by
 subst e hk;have := h (ds.length + j) v (by
  rw [List.getElem?_append_right (by omega), Nat.add_sub_cancel_left, List.getElem?_append_left (List.getElem?_eq_some_iff.1 hj).1];exact hj)
 rwa [<- Nat.add_assoc] at this
theorem a8 {w : World} {b : Nat} {t : TypeId} {cs : List Value} (h : w.heap[b]? = some (.cells cs.toArray t (0, 0))) {o n : Nat} (hn : o + n <= cs.length) : w.there b o n := fun j hj => by
 rw [cell_of_row w b (o + j) _ t (0, 0) h, frozen_of_row w b (o + j) _ t h];exact ⟨by simp; omega, rfl⟩
theorem ex {fn : Func} {p q u : Tmp} {t : TypeId} {cs : List Value} {d : TypeDesc} (h : fn.results = #[.tmp p, .cell q t, .tmp u]) (tmps : Array Value) (w : World) (b : Nat) (hq : tmps.getD q undef = .pointer (some ⟨b, 0, none⟩)) (hr : w.rangeAt b 0 cs) (hu : prog.underlying t = some d) (hd : d.isRow = true) (hz : (prog.info? t).map (·.size) = some cs.length) :
  (results fn tmps).run prog w = .ok (.tuple #[tmps.getD p undef, .agg cs.toArray, tmps.getD u undef]) w := by
 have hl : (loadVar t ⟨b, 0, none⟩).run prog w = .ok (.agg cs.toArray) w := run_loadVar_mid (P := prog) w b 0 t cs d hr hu hd hz;have hq' : tmps[q]?.getD undef = .pointer (some ⟨b, 0, none⟩) := by simpa using hq
 simp [results, h, hq', asAddr, hl]
theorem dF {fn : Func} {p : Tmp} {t : TypeId} {cs : List Value} {d : TypeDesc} (h0 : fn.results = #[.cell p t]) (tmps : Array Value) (w : World) (b : Nat) (hp : tmps.getD p undef = .pointer (some ⟨b, 0, none⟩)) (hr : w.rangeAt b 0 cs) (hu : prog.underlying t = some d) (hd : d.isRow = true) (hz : (prog.info? t).map (·.size) = some cs.length) :
  (results fn tmps).run prog w = .ok (.agg cs.toArray) w := by
 have hl : (loadVar t ⟨b, 0, none⟩).run prog w = .ok (.agg cs.toArray) w := run_loadVar_mid (P := prog) w b 0 t cs d hr hu hd hz;have hp' : tmps[p]?.getD undef = .pointer (some ⟨b, 0, none⟩) := by simpa using hp
 simp [results, h0, hp', asAddr, hl]
theorem size_setCells (w : World) (b o : Nat) (vs : List Value) : (w.setCells b o vs).heap.size = w.heap.size := (eJ b vs o w).1
theorem cell1 {w : World} {b : Nat} {t : TypeId} {x : Value} (h : w.heap[b]? = some (.cells #[x] t (0, 0))) : w.cell? ⟨b, 0, none⟩ = some x /\ w.frozen? ⟨b, 0, none⟩ = false :=
 ⟨by rw [cell_of_row w b 0 _ t (0, 0) h]; rfl, frozen_of_row w b 0 _ t h⟩
theorem set1 {w : World} {b : Nat} {t : TypeId} {x : Value} (h : w.heap[b]? = some (.cells #[x] t (0, 0))) (y : Value) : (w.setCell ⟨b, 0, none⟩ y).heap[b]? = some (.cells #[y] t (0, 0)) := by
 have := heap_setCell_same w b 0 #[x] t y h
 simpa using this
theorem mB (w : World) (b o : Nat) (y : Value) : w.grownBy (w.setCell ⟨b, o, none⟩ y) (some b) :=
 ⟨rfl, rfl, rfl, by simp [World.setCell], fun k hk hne => heap_setCell_other w ⟨b, o, none⟩ k y (fun e => hne (by rw [e]))⟩
theorem bQ {w w' : World} {b k : Nat} {o : Obj} (h : w.heap[b]? = some o) (hg : w.grownBy w' (some k)) (hne : b ≠ k) : w'.heap[b]? = some o := (hg.block b (aX h) (fun e => hne (by injection e))).trans h
def dn (x : Ros) : List Value := [.int .i64 x.m, .int .i64 x.s, .int .i64 x.r]
def aQ (x : Ros) : List Value := .int .i64 x.m :: .int .i64 x.s :: .int .i64 x.r :: (vals x.st.toList ++ [.int .i64 x.cur, .bool x.gone])
def ros (x : Ros) : Value := .agg (aQ x).toArray
def geo (x : Ros) : Value := .agg (dn x).toArray
theorem aU (x : Ros) : (aQ x).length = 21 := by simp [aQ, bf]
theorem fW (x : Ros) : ∀ v ∈ aQ x, v.oneCell' = true := by
 intro v hv;simp only [aQ, List.mem_cons, List.mem_append, List.not_mem_nil, or_false] at hv;rcases hv with rfl | rfl | rfl | hv | rfl | rfl
 ·rfl
 ·rfl
 ·rfl
 ·exact fV _ v hv
 ·rfl
 ·rfl
theorem l7 : (prog.info? 35).map (·.size) = some 21 := by kernel_rfl
theorem z6 : (prog.info? 32).map (·.size) = some 3 := by kernel_rfl
theorem yD : (prog.info? 33).map (·.size) = some 16 := by kernel_rfl
theorem pM : (prog.info? 35).map (fun i => i.zero) = some (some (ros bI)) := by kernel_rfl
theorem nQ : (prog.info? 33).map (fun i => i.zero) = some (some (arr (List.replicate 16 0))) := by kernel_rfl
section
variable {ρ : Operand -> Value} {o : Oper} {x y : Operand} {w : World} {b off : Nat}
theorem bn {c : Ros} (ho : o.op = .load 35 x) (hx : ρ x = .pointer (some ⟨b, off, none⟩)) (hc : w.rangeAt b off (aQ c)) : (execOp ρ o).run prog w = .ok (.value (ros c)) w :=
 ec underlying35 rfl (by rw [aU]; exact l7) ho hx hc
theorem cv {c : Ros} (ho : o.op = .load 32 x) (hx : ρ x = .pointer (some ⟨b, off, none⟩)) (hc : w.rangeAt b off (dn c)) : (execOp ρ o).run prog w = .ok (.value (geo c)) w :=
 ec underlying32 rfl z6 ho hx hc
theorem di {l : List UInt8} (hl : l.length = 16) (ho : o.op = .load 33 x) (hx : ρ x = .pointer (some ⟨b, off, none⟩)) (hc : w.rangeAt b off (vals l)) : (execOp ρ o).run prog w = .ok (.value (arr l)) w :=
 ec underlying33 rfl (by rw [bf, hl]; exact yD) ho hx hc
theorem bc {c : Ros} (ho : o.op = .box 35 x) (hx : ρ x = ros c) : (execOp ρ o).run prog w = .ok (.value (.pointer (some ⟨w.heap.size, 0, none⟩))) (w.alloc (.cells (aQ c).toArray 35)) := et ho hx
theorem cr (ho : o.op = .alloc 35) : (execOp ρ o).run prog w = .ok (.value (.pointer (some ⟨w.heap.size, 0, none⟩))) (w.alloc (.cells (aQ bI).toArray 35)) := dl pM ho
theorem nj (ho : o.op = .alloc 33) : (execOp ρ o).run prog w = .ok (.value (.pointer (some ⟨w.heap.size, 0, none⟩))) (w.alloc (.cells (vals (List.replicate 16 0)).toArray 33)) := dl nQ ho
theorem lL {c d : Ros} (ho : o.op = .store 35 x y) (hx : ρ x = .pointer (some ⟨w.heap.size, 0, none⟩)) (hy : ρ y = ros c) : (execOp ρ o).run prog (w.alloc (.cells (aQ d).toArray 35)) = .ok .skip (w.alloc (.cells (aQ c).toArray 35)) :=
 fP (by rw [aU]; exact l7) (by rw [aU, aU]) (fW c) ho hx hy
end
theorem wQ (w : World) (a b : Ros) (d : Nat) : (Op.equalIn (d + 2) 32 (geo a) (geo b)).run prog w = .ok (decide (a.m = b.m /\ a.s = b.s /\ a.r = b.r)) w := by
 have he : ∀ x y : Int, (Op.equalIn (d + 1) 3 (.int .i64 x) (.int .i64 y)).run prog w = .ok (x == y) w := fun x y => run_equalIn_int w d 3 .i64 .i64 x y underlying3
 unfold geo;rw [show d + 2 = (d + 1) + 1 from rfl, run_equalIn_struct w (d + 1) 32 _ _ (by kernel_rfl) (by kernel_rfl)];simp only [Program.fieldsOf, underlying32, Op.eqFields, dn];simp [part, he];by_cases h1 : a.m = b.m <;> by_cases h2 : a.s = b.s <;> by_cases h3 : a.r = b.r <;> simp [h1, h2, h3]
theorem fC (x : Ros) : aQ x = dn x ++ (vals x.st.toList ++ [.int .i64 x.cur, .bool x.gone]) := rfl
section
variable {ρ : Operand -> Value} {o : Oper} {x y : Operand} {w : World} {t : TypeId}
theorem xr : prog.eqGuardType prog.depth 33 = false := by kernel_rfl
theorem mC {a b : List UInt8} (c : Bool) (ha : a.length = 16) (hb : b.length = 16) (ho : o.op = .binOp .eql 33 x y t) (hx : ρ x = arr a) (hy : ρ y = arr b) (h : decide (a = b) = c) : (execOp ρ o).run prog w = .ok (.value (.bool c)) w := by
 subst h; exact oT xr (mr underlying33 w a b ha hb 9998) ho hx hy
theorem du {l : List UInt8} {j : Nat} (hl : l.length = 16) (hj : j < 16) (ho : o.op = .index 33 x y) (hx : ρ x = arr l) (hy : ρ y = .int .i64 (j : Int)) : (execOp ρ o).run prog w = .ok (.value (.int .u8 (bt l j))) w := by
 have hp : (part 5 (vals l).toArray (j * 1)).run prog w = .ok (.int .u8 (bt l j)) w := by
  have := fE (l := l) (j := j) (by omega);simp [part, this]
 have h : (Instr.index 33 (arr l) (.int .i64 (j : Int))).run prog w = .ok (.int .u8 (bt l j)) w := by
  have e : (0 <= (j : Int) /\ (j : Int) < 16) := by omega
  unfold arr;simp [Instr.index, asIntOf, run_underlying underlying33, Tryz.sizeOf5, hj]
  simpa using hp
 unfold execOp;simp only [ho, hx, hy, Sem.run_bind, h, Result.andThen_ok, Sem.run_pure]
end
def bw (w : World) (b : Nat) (x : Ros) : Prop := w.heap[b]? = some (.cells (aQ x).toArray 35 (0, 0))
section
variable {w w' : World} {b : Nat} {x : Ros}
theorem bw.range (h : bw w b x) : w.rangeAt b 0 (aQ x) := bK h
theorem bw.geo (h : bw w b x) : w.rangeAt b 0 (dn x) := dJ (cs := aQ x) (ds := []) (k := 0) h.range rfl rfl
theorem bw.sts (h : bw w b x) : w.rangeAt b 3 (vals x.st.toList) := by
 have := dJ (k := 3) h.range (fC x) rfl;rwa [Nat.zero_add] at this
theorem bw.cells (h : bw w b x) : w.cell? ⟨b, 0, none⟩ = some (.int .i64 x.m) /\ w.cell? ⟨b, 1, none⟩ = some (.int .i64 x.s) /\ w.cell? ⟨b, 2, none⟩ = some (.int .i64 x.r) /\ w.cell? ⟨b, 19, none⟩ = some (.int .i64 x.cur) /\ w.cell? ⟨b, 20, none⟩ = some (.bool x.gone) := by
 have hr := dJ (k := 19) (ds := dn x ++ vals x.st.toList) (es := [.int .i64 x.cur, .bool x.gone]) (fs := []) h.range (by simp [fC]) (by simp [dn, bf]);exact ⟨h.range 0 _ rfl, h.range 1 _ rfl, h.range 2 _ rfl, hr 0 _ rfl, hr 1 _ rfl⟩
theorem bw.sta (h : bw w b x) {j : Nat} (hj : j < 16) : w.cell? ⟨b, 3 + j, none⟩ = some (.int .u8 (sta x j)) := h.sts j _ (fE (by simpa using hj))
theorem bw.below {B : Nat} (h : bw w b x) (hB : b < B) (hb : Below B w w') : bw w' b x := jN h hB hb
theorem bw.new (w : World) (x : Ros) : bw (w.alloc (.cells (aQ x).toArray 35)) w.heap.size x := heap_alloc_new w _
theorem bw.past (h : bw w b x) (o : Obj) : bw (w.alloc o) b x := bq h o
theorem bw.rd (h : bw w b x) {m : Nat} (hm : m <= 16) : Rd w w.heap.size (some ⟨b, 3, none⟩) m (x.st.toList.take m) :=
 ⟨by simp; omega, fun k hk => ⟨b, 3, rfl, aX h, by
  rw [h.sta (j := k) (by omega)];unfold Proofs.YtehefifamaofkaaGreatDoor.sta bt;simp [List.getD, List.getElem?_take_of_lt hk]⟩⟩
end
theorem cP (w : World) (x : Ros) : bw (w.alloc (.cells (aQ x).toArray 35)) w.heap.size x /\ Below w.heap.size w (w.alloc (.cells (aQ x).toArray 35)) /\ w.heap.size < (w.alloc (.cells (aQ x).toArray 35)).heap.size :=
 ⟨bw.new w x, (Below.refl w.heap.size w).alloc ai _, by simp only [World.size_alloc]; omega⟩
section
variable {w : World} {b off : Nat}
theorem qy : (Instr.fieldAt 35 (.pointer (some ⟨b, 0, none⟩)) 0).run prog w = .ok (.pointer (some ⟨b, 0, none⟩)) w := by kernel_rfl
theorem lX : (Instr.fieldAt 35 (.pointer (some ⟨b, 0, none⟩)) 1).run prog w = .ok (.pointer (some ⟨b, 3, none⟩)) w := by kernel_rfl
theorem sq : (Instr.fieldAt 32 (.pointer (some ⟨b, 0, none⟩)) 0).run prog w = .ok (.pointer (some ⟨b, 0, none⟩)) w := by kernel_rfl
theorem nt {g off j : Nat} (hj : j < 16) : (Instr.indexAt 33 (.pointer (some ⟨g, off, none⟩)) (.int .i64 (j : Int))).run prog w = .ok (.pointer (some ⟨g, off + j, none⟩)) w := by
 have e : (0 <= (j : Int) /\ (j : Int) < 16) := by omega
 simp [Instr.indexAt, Instr.sureAddr, asIntOf, run_underlying underlying33, Tryz.sizeOf5, Addr.add_mid, e, hj]
theorem xD {b : Nat} : (Instr.fieldAt 35 (.pointer (some ⟨b, 0, none⟩)) 2).run prog w = .ok (.pointer (some ⟨b, 19, none⟩)) w := by kernel_rfl
theorem yZ {b : Nat} : (Instr.fieldAt 32 (.pointer (some ⟨b, 0, none⟩)) 1).run prog w = .ok (.pointer (some ⟨b, 1, none⟩)) w := by kernel_rfl
end
theorem oc (l x : List UInt8) (off : Nat) : splice (vals l) off (vals x) = vals (splice l off x) := by
 unfold splice vals;simp [List.map_take, List.map_drop]
def cg (w : World) (g : Nat) (t : TypeId) (l : List UInt8) : Prop := w.heap[g]? = some (.cells (vals l).toArray t (0, 0))
section
variable {w w' : World} {g : Nat} {t : TypeId} {l : List UInt8}
theorem cg.lt (h : cg w g t l) : g < w.heap.size := (Array.getElem?_eq_some_iff.1 h).1
theorem cg.below {B : Nat} (h : cg w g t l) (hB : g < B) (hb : Below B w w') : cg w' g t l := (hb.block g hB).trans h
theorem cg.grown {k : Nat} (h : cg w g t l) (hk : g ≠ k) (hb : w.grownBy w' (some k)) : cg w' g t l := (hb.block g h.lt (fun e => hk (by injection e))).trans h
theorem cg.draw (h : cg w g t l) : cg w.drew g t l := h
theorem cg.past (h : cg w g t l) (o : Obj) : cg (w.alloc o) g t l := bq h o
theorem cg.cell (h : cg w g t l) {j : Nat} (hj : j < l.length) : w.cell? ⟨g, j, none⟩ = some (.int .u8 (bt l j)) := by
 rw [cell_of_row w g j _ t (0, 0) h, List.getElem?_toArray, fE hj]
theorem cg.rd (h : cg w g t l) {p k : Nat} (hp : p + k <= l.length) : Rd w w.heap.size (some ⟨g, p, none⟩) k (piece l p k) :=
 ⟨cy hp, fun j hj => ⟨g, p, rfl, h.lt, by rw [h.cell (by omega), ot hj]⟩⟩
theorem cg.range (h : cg w g t l) (hl : l.length = 64) : w.rangeAt g 0 (cel (ofL l)) := fun j v hj => by
 have hlt : j < 64 := by have := (List.getElem?_eq_some_iff.1 hj).1; rwa [aI] at this
 rw [Nat.zero_add, h.cell (by omega), <- hj, qe _ hlt, mK _ hlt]
theorem cg.new (w : World) (l : List UInt8) (t : TypeId) : cg (w.alloc (.cells (vals l).toArray t)) w.heap.size t l := heap_alloc_new w _
theorem cg.blk (w : World) (b : Blk) (t : TypeId) : cg (w.alloc (.cells (cel b).toArray t)) w.heap.size t b.toList := heap_alloc_new w _
theorem cg.row (h : cg w g t l) : w.rowIs g t l.length (fun j => .int .u8 (bt l j)) :=
 ⟨_, h, by simp [bf], fun j hj => by rw [List.getElem?_toArray, fE hj]⟩
end
theorem dI {w : World} {ops : Array Oper} {rest : List Oper} {o : Oper} {a : Act} {Q : Exit -> Act -> World -> Prop} (hgd : o.guard = none) (d s : Operand)
  (ho : o.op = .call { callee := .builtin .copy, args := #[d, s], argTypes := #[116, 116] }) (g off n c m c' N : Nat) (A : Option Addr) (t : TypeId) (l x : List UInt8)
  (hd : a.eval d = .slice (some ⟨g, off, none⟩) n c) (hs : a.eval s = .slice A m c') (hS : cg w g t l) (hr : Rd w N A m x) (hmn : m <= n) (hfit : off + m <= l.length)
  (h : ∀ w', cg w' g t (splice l off x) -> w.grownBy w' (some g) -> wpList prog ops Q rest (a.put o.dst (goInt m)) w') : wpList prog ops Q (o :: rest) a w := by
 have hx := hr.1;rcases A with _ | ad
 ·have h0 : m = 0 := by
   rcases Nat.eq_zero_or_pos m with h | h
   ·exact h
   ·obtain ⟨b, off, e, _⟩ := hr.2 0 h;cases e
  subst h0;obtain rfl : x = [] := List.eq_nil_of_length_eq_zero hx;refine wpList_copy_nothing hgd d s _ _ ho 5 underlying116 (by kernel_rfl) _ _ _ _ _ _ hd hs (Nat.zero_min _) ?_;exact h w (by simpa [splice] using hS) (World.grownBy.refl w _)
 ·have hcl : (vals x).length = m := by rw [bf, hx]
  refine wpList_copy_own hgd d s _ _ ho 5 underlying116 (by kernel_rfl) g off n c ad m c' hd hs _ t hS (vals x) (by rw [hcl]; exact (Nat.min_eq_left hmn).symm) (fun j v hj => ?_) (by simp [hcl, bf]; omega) (fV x) ?_
  ·have hlt : j < m := by have := (List.getElem?_eq_some_iff.1 hj).1; omega
   obtain ⟨b, o2, e, _, hc⟩ := hr.2 j hlt;injection e with e;subst e;rw [Addr.add_mid, hc, <- hj, fE (by omega)]
  ·have hrow := setRow_heap w g (vals l).toArray ((vals l).toArray.toList.take off ++ (vals x ++ (vals l).toArray.toList.drop (off + (vals x).length))).toArray t (0, 0) hS;have e : (vals l).toArray.toList.take off ++ (vals x ++ (vals l).toArray.toList.drop (off + (vals x).length)) = vals (splice l off x) := by
    rw [<- oc]
    rfl
   rw [hcl];rw [hcl] at hrow e;refine h _ ?_ ⟨rfl, rfl, rfl, by simp [World.setRow], fun k hk hne => setRow_other w g k _ (fun e => hne (by rw [e]))⟩;unfold cg;rw [e] at hrow ⊢;exact hrow
theorem max_u32 : IntKind.u32.max = 4294967295 := by decide
theorem nB (r : Nat) (h : r < 4294967296) : bits .xor .u32 IntKind.u32.max (r : Int) = ((neg r : Nat) : Int) := by
 rw [max_u32];exact u32_xor_nat 4294967295 r (by omega) h
theorem uY (r : Nat) (l : List UInt8) {k : Nat} (h : k < l.length) : tak (run r (l.take k)) l[k].toNat = run r (l.take (k + 1)) := by
 rw [List.take_succ_eq_append_getElem h, qd]
 rfl
theorem uk (s : Nat) (A : Option Addr) (n c N : Nat) (b : List UInt8) (w : World) (T : Tab w) (hs : s < 4294967296) (hb : Rd w N A n b) (hn : n <= maxLen) :
  Calls prog 148 #[.int .u32 s, .slice A n c] w fun e w' => e = .returned (.int .u32 (more s b)) /\ w = w' := by
 have hnb := nB s hs;have hnl := p9 hs;have hlen := hb.1;unfold maxLen at hn;have HL := ae hlen;clear hlen;go_enter func148, ntmps148;go_wp2;clear hnb;have HM : Hid (more s b = neg (run (neg s) b)) := ae rfl;generalize neg s = r0 at *
 go_loop [5, 12] (fun x i => ∃ j : Nat, j <= n /\ i = .int .i64 j /\ x = .int .u32 (run r0 (b.take j))) (fun _ i => n - (intOf i).toNat)
 case atStart => exact ⟨0, by omega, rfl, rfl⟩
 case round =>
  obtain ⟨j, hj, rfl, rfl⟩ := hrel;by_cases hlt : j < n
  ·obtain ⟨bA, oA, rfl, hA, cA⟩ := hb.2 j hlt;have hjl : j < b.length := by have := HL.out; omega
   rw [dE hjl] at cA;have HS := ae (uY r0 b hjl);have hu := UInt8.toNat_lt b[j];generalize b[j].toNat = u at *;have hrl := pt hnl (b.take j);go_wp2_with fail;refine (vC (run r0 (b.take j)) u _ T hrl hu).mono ?_;rintro e w' ⟨rfl, rfl⟩;go_wp2
   go_round
   case rel => exact ⟨j + 1, by omega, by go_num, by rw [HS.out]⟩
   case measure => simp [intOf]; omega
  ·have h : j = n := by omega
   subst h;have ht : b.take j = b := List.take_of_length_le (Nat.le_of_eq HL);rw [ht];have hrl := pt hnl b;have hnb := nB (run r0 b) hrl;clear ht;go_wp2;go_ret;exact ⟨bz (by first | rw [HM.out] | rw [HM.out, hnb]), rfl⟩
theorem t8 (A : Option Addr) (n c N : Nat) (b : List UInt8) (w : World) (T : Tab w) (hb : Rd w N A n b) (hn : n <= maxLen) :
  Calls prog 133 #[.slice A n c] w fun e w' => e = .returned (.int .u32 (more 0 b)) /\ w = w' := by
 go_enter func133, ntmps133;go_wp2_with fail;refine (uk 0 A n c N b _ T (by omega) hb hn).mono ?_;rintro e w' ⟨rfl, rfl⟩;go_wp2;go_ret;exact ⟨rfl, rfl⟩
section
variable {ρ : Operand -> Value} {o : Oper} {x y z u : Operand} {w : World} {t : TypeId} {p q a b c : Value}
theorem fg (ho : o.op = .slice t x (some y) (some z) (some u)) (hx : ρ x = p) (hy : ρ y = a) (hz : ρ z = b) (hu : ρ u = c) (h : (Instr.sliceAt t p (some a) (some b) (some c)).run prog w = .ok q w) : (execOp ρ o).run prog w = .ok (.value q) w := by
 unfold execOp;simp only [ho, hx, hy, hz, hu, Option.map_some, Sem.run_bind, h, Result.andThen_ok, Sem.run_pure]
end
section
variable (g : Nat) (w : World)
theorem i9 {i j k : Nat} (h1 : i <= j) (h2 : j <= k) (h3 : k <= 64) (h4 : i < k) : (Instr.sliceAt 29 (.pointer (some ⟨g, 0, none⟩)) (some (.int .i64 (i : Int))) (some (.int .i64 (j : Int))) (some (.int .i64 (k : Int)))).run prog w = .ok (.slice (some ⟨g, i, none⟩) (j - i) (k - i)) w := by
 have e1 : (0 <= (k : Int) /\ (k : Int) <= 64) := by omega
 have e2 : (0 <= (j : Int) /\ (j : Int) <= (k : Int)) := by omega
 have e3 : (0 <= (i : Int) /\ (i : Int) <= (j : Int)) := by omega
 have e4 : k ≠ i := by omega
 simp [Instr.sliceAt, Instr.sliceBounds, Instr.sliceBound, Instr.sureAddr, asIntOf, run_underlying ug, Tryz.sizeOf5, Addr.add_mid, e1, e2, e3, e4, h1, h2, h3]
theorem zT : (Instr.sliceAt 29 (.pointer (some ⟨g, 0, none⟩)) (some (.int .i64 0)) (some (.int .i64 8)) (some (.int .i64 8))).run prog w = .ok (.slice (some ⟨g, 0, none⟩) 8 8) w := i9 g w (i := 0) (j := 8) (k := 8) (by omega) (by omega) (by omega) (by omega)
theorem zO : (Instr.sliceAt 29 (.pointer (some ⟨g, 0, none⟩)) (some (.int .i64 8)) (some (.int .i64 52)) (some (.int .i64 52))).run prog w = .ok (.slice (some ⟨g, 8, none⟩) 44 44) w := i9 g w (i := 8) (j := 52) (k := 52) (by omega) (by omega) (by omega) (by omega)
theorem aad : (Instr.sliceAt 29 (.pointer (some ⟨g, 0, none⟩)) (some (.int .i64 52)) (some (.int .i64 56)) (some (.int .i64 56))).run prog w = .ok (.slice (some ⟨g, 52, none⟩) 4 4) w := i9 g w (i := 52) (j := 56) (k := 56) (by omega) (by omega) (by omega) (by omega)
theorem zU : (Instr.sliceAt 29 (.pointer (some ⟨g, 0, none⟩)) (some (.int .i64 56)) (some (.int .i64 64)) (some (.int .i64 64))).run prog w = .ok (.slice (some ⟨g, 56, none⟩) 8 8) w := i9 g w (i := 56) (j := 64) (k := 64) (by omega) (by omega) (by omega) (by omega)
theorem aaq : (Instr.sliceAt 29 (.pointer (some ⟨g, 0, none⟩)) (some (.int .i64 0)) (some (.int .i64 52)) (some (.int .i64 52))).run prog w = .ok (.slice (some ⟨g, 0, none⟩) 52 52) w := i9 g w (i := 0) (j := 52) (k := 52) (by omega) (by omega) (by omega) (by omega)
end
section
variable {ρ : Operand -> Value} {o : Oper} {x y : Operand} {w : World} {t : TypeId} {old cs : Array Value}
theorem qu (hz : (prog.info? t).map (·.size) = some cs.size) (he : old.size = cs.size) (h1 : cs.toList.all Value.oneCell' = true) (ho : o.op = .store t x y) (hx : ρ x = .pointer (some ⟨w.heap.size, 0, none⟩)) (hy : ρ y = .agg cs) :
  (execOp ρ o).run prog (w.alloc (.cells old t)).drew = .ok .skip (w.alloc (.cells cs t)).drew := i1 (w := w.drew) hz he h1 ho hx hy
end
theorem sE {ρ : Operand -> Value} {o : Oper} {w : World} {t : TypeId} {v : Value} {x0 x1 x2 x3 x4 : Operand} {y0 y1 y2 y3 y4 : Value} (ho : o.op = .build t #[(0, x0), (1, x1), (2, x2), (3, x3), (4, x4)]) (h0 : ρ x0 = y0) (h1 : ρ x1 = y1) (h2 : ρ x2 = y2) (h3 : ρ x3 = y3) (h4 : ρ x4 = y4)
  (h : (Instr.build t #[(0, y0), (1, y1), (2, y2), (3, y3), (4, y4)]).run prog w = .ok v w) : (execOp ρ o).run prog w = .ok (.value v) w := by
 subst h0 h1 h2 h3 h4;unfold execOp;simp only [ho, List.map_toArray, List.map_cons, List.map_nil, Sem.run_bind, h, Result.andThen_ok, Sem.run_pure]
theorem wm {fn : Func} {p : Tmp} {t : TypeId} {cs : Array Value} {d : TypeDesc} (h0 : fn.results = #[.cell p t]) (tmps : Array Value) (w : World) (b : Nat) (hp : tmps.getD p undef = .pointer (some ⟨b, 0, none⟩)) (h : w.heap[b]? = some (.cells cs t (0, 0))) (hu : prog.underlying t = some d) (hd : d.isRow = true) (hz : (prog.info? t).map (·.size) = some cs.size) :
  (results fn tmps).run prog w = .ok (.agg cs) w := by
 have hr : w.rangeAt b 0 cs.toList := fun j v hj => by
  rw [cell_of_row w b (0 + j) cs t (0, 0) h, Nat.zero_add]
  simpa using hj
 have hl : (loadVar t ⟨b, 0, none⟩).run prog w = .ok (.agg cs) w := by
  have := run_loadVar_mid (P := prog) w b 0 t cs.toList d hr hu hd (by simpa using hz)
  simpa using this
 have hp' : tmps[p]?.getD undef = .pointer (some ⟨b, 0, none⟩) := by simpa using hp
 simp [results, h0, hp', asAddr, hl]
theorem lv {w w' : World} {row : Option Nat} (hb : Below w.heap.size w w') : w.grownBy w' row := ⟨hb.os, hb.tape, hb.output, hb.size, fun k hk _ => hb.block k hk⟩
def eE (g : Nat) : Array Value := #[.slice (some ⟨g, 0, none⟩) 8 8, .slice (some ⟨g, 8, none⟩) 44 44, .slice (some ⟨g, 52, none⟩) 4 4, .slice (some ⟨g, 56, none⟩) 8 8, .slice (some ⟨g, 0, none⟩) 52 52]
theorem zt (g : Nat) (w : World) : (Instr.build 171 #[(0, .slice (some ⟨g, 0, none⟩) 8 8), (1, .slice (some ⟨g, 8, none⟩) 44 44), (2, .slice (some ⟨g, 52, none⟩) 4 4), (3, .slice (some ⟨g, 56, none⟩) 8 8), (4, .slice (some ⟨g, 0, none⟩) 52 52)]).run prog w = .ok (.agg (eE g)) w := by kernel_rfl
theorem i8 (g : Nat) (w : World) : Calls prog 131 #[.pointer (some ⟨g, 0, none⟩)] w fun e w' => e = .returned (.agg #[.slice (some ⟨g, 0, none⟩) 8 8, .slice (some ⟨g, 8, none⟩) 44 44, .slice (some ⟨g, 52, none⟩) 4 4, .slice (some ⟨g, 56, none⟩) 8 8, .slice (some ⟨g, 0, none⟩) 52 52]) /\ Below w.heap.size w w' := by
 go_enter func131, ntmps131;go_wp2_with fail;refine wp_region_still_tail 15 (by kernel_rfl) (by kernel_rfl) ?_;simp only [ac];refine aM rfl (aO rfl abd) ?_;simp only [aa];refine aM rfl (cf rfl abd) ?_;simp only [aa];refine aM rfl (fg rfl abd evk evk evk (zT g _)) ?_;simp only [aa];refine aM rfl (aO rfl abd) ?_;simp only [aa];refine aM rfl (cf rfl abd) ?_;simp only [aa];refine aM rfl (fg rfl abd evk evk evk (zO g _)) ?_;simp only [aa];refine aM rfl (aO rfl abd) ?_;simp only [aa];refine aM rfl (cf rfl abd) ?_;simp only [aa];refine aM rfl (fg rfl abd evk evk evk (aad g _)) ?_;simp only [aa];refine aM rfl (aO rfl abd) ?_;simp only [aa];refine aM rfl (cf rfl abd) ?_;simp only [aa];refine aM rfl (fg rfl abd evk evk evk (zU g _)) ?_;simp only [aa];refine aM rfl (aO rfl abd) ?_;simp only [aa];refine aM rfl (cf rfl abd) ?_;simp only [aa];refine aM rfl (fg rfl abd evk evk evk (aaq g _)) ?_;simp only [aa];refine wpStill_nil ?_;change wpList _ _ _ _ _ (World.drew _);refine aa4 rfl (sE (v := .agg (eE g)) rfl abd abd abd abd abd (zt g _)) ?_;refine a9 rfl (qu (w := w) (cs := eE g) ?s1 ?s2 ?s3 rfl (ev rfl) (ev rfl)) ?_
 case s1 => kernel_rfl
 case s2 => rfl
 case s3 => rfl
 refine ag ?_;go_wp2_with fail;refine bodyPost_ret (wm (cs := eE g) (t := 171) rfl _ _ w.heap.size rfl ?h1 underlying171 rfl ?h2) rfl ⟨rfl, ?h3⟩
 case h1 => exact heap_alloc_new w.drew _
 case h2 => kernel_rfl
 case h3 => exact bd ((Below.refl _ w).alloc ai _)
theorem jp {b : List UInt8} {n : Nat} (h : b.length = n) : piece b 0 n = b := by
 subst h;simp [piece]
theorem eP (A : Option Addr) (n c N : Nat) (b : List UInt8) (w : World) (hb : Rd w N A n b) (h1 : 1 <= n) (h2 : n <= 8) :
  Calls prog 135 #[.slice A n c] w fun e w' => e = .returned (.int .u64 (val 8 b)) /\ w = w' := by
 have hp := jp hb.1;have HP := ae hp;clear hp;go_enter func135, ntmps135;go_wp2_with fail;refine (uq A n c N b 0 n _ hb (by unfold maxLen; omega) h1 h2 (by omega)).mono ?_;rintro e w' ⟨rfl, rfl⟩;rw [HP.out];go_wp2;go_ret;exact ⟨rfl, rfl⟩
theorem mZ (g off k n : Nat) (t : TypeId) (l : List UInt8) (w : World) (hs : cg w g t l) (h1 : 1 <= k) (h2 : k <= 8) (ho : off + k <= l.length) (hn : n < 256 ^ k) :
  Calls prog 132 #[.slice (some ⟨g, off, none⟩) k k, .int .u64 n] w fun e w' => e = .returned (.tuple #[]) /\ cg w' g t (splice l off (aZ 8 k n)) /\ w.grownBy w' (some g) := by
 have HS := ae hs;have HL := ae (aD 8 k n);clear hs;go_enter func132, ntmps132;go_wp2_with fail;refine (t7 n k w h1 h2 hn).mono ?_;rintro e w1 ⟨v, rfl, hv, hb⟩;obtain ⟨A, c, rfl, hrd, _, _⟩ := hv.made.open_ HL;have HR := ae hrd;have HS1 := ae (HS.out.below HS.out.lt hb);have HB := ae hb;clear hv hrd hb;go_wp2_with (with_reducible refine dI rfl _ _ rfl g off k k k c _ A t l (aZ 8 k n) rfl rfl HS1.out HR.out (Nat.le_refl _) ho ?_);intro w2 hr2 hg2;have HR2 := ae hr2;have HG2 := ae hg2;clear hr2 hg2;go_wp2
 go_end0
 exact ⟨rfl, HR2, (lv HB).trans HG2⟩
end Go.Proofs.YtehefifamaofkaaGreatDoor
