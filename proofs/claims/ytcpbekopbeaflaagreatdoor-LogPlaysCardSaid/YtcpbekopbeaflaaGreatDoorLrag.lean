import Derived.Test.YtcpbekopbeaflaaGreatDoorLraf
namespace Go.Proofs.YtcpbekopbeaflaaGreatDoor
set_option maxHeartbeats 8000000
open Go.Proofs.Tryz
open Go.RowKit
set_option linter.unusedVariables false
set_option maxRecDepth 100000
structure abL where
 read : FuncId
 write : FuncId
 flush : FuncId
 fail : FuncId
 insert : FuncId
 arm : FuncId
 kL : FuncId
 sure : FuncId
 rot : FuncId
 fI : FuncId
 dx : FuncId
 steps : FuncId
structure aK.Wf (M : aK) : Prop where
 one : 1 <= M.ds.length
 cap : M.ds.length <= 17
 len : ∀ i, i < M.ds.length -> 1 <= (M.ds.getD i ch).S.length /\ (M.ds.getD i ch).S.length <= 512
structure Ben (I : abL) where
 Bn : World -> (Nat -> Prop) -> Nat -> aK -> Prop
 lt : ∀ {w F p M}, Bn w F p M -> ∀ b, F b -> b < w.heap.size
 only : ∀ {w w' F G p M}, Bn w F p M -> Only G w w' -> (∀ b, F b -> ¬ G b) -> Bn w' F p M
 wf : ∀ {w F p M}, Bn w F p M -> M.Wf
 read : ∀ {w F p M} (d n : Int), Bn w F p M -> Calls prog I.read #[.pointer (some ⟨p, 0, none⟩), .int .i64 d, .int .i64 n] w fun e w' => e = .returned (.tuple #[blk (df M d n), .int .i64 (cM M d n)]) /\ Below w.heap.size w w'
 sure : ∀ {w F p M} (d n : Int), Bn w F p M -> Calls prog I.sure #[.pointer (some ⟨p, 0, none⟩), .int .i64 d, .int .i64 n] w fun e w' => e = .returned (.tuple #[blk (oy M d n), .int .i64 (ov M d n)]) /\ Below w.heap.size w w'
 write : ∀ {w F p M} (d n : Int) (b : Blk), Room M 1 -> Bn w F p M -> Calls prog I.write #[.pointer (some ⟨p, 0, none⟩), .int .i64 d, .int .i64 n, blk b] w fun e w' => e = .returned (.int .i64 (f9 M d n)) /\ ∃ F', Bn w' F' p (eS M d n b) /\ Only F w w' /\ Grow w F F'
 flush : ∀ {w F p M} (d : Int), Room M 1 -> Bn w F p M -> Calls prog I.flush #[.pointer (some ⟨p, 0, none⟩), .int .i64 d] w fun e w' => e = .returned (.int .i64 (fM M d)) /\ ∃ F', Bn w' F' p (eJ M d) /\ Only F w w' /\ Grow w F F'
 fail : ∀ {w F p M} (d : Int), Bn w F p M -> Calls prog I.fail #[.pointer (some ⟨p, 0, none⟩), .int .i64 d] w fun e w' => e = .returned (.int .i64 (d8 M d)) /\ ∃ F', Bn w' F' p (kw M d) /\ Only F w w' /\ Grow w F F'
 insert : ∀ {w F p M} (d : Int), Bn w F p M -> Calls prog I.insert #[.pointer (some ⟨p, 0, none⟩), .int .i64 d] w fun e w' => e = .returned (.int .i64 (lB M d)) /\ ∃ F', Bn w' F' p (i9 M d) /\ Only F w w' /\ Grow w F F'
 arm : ∀ {w F p M} (n : Int), Bn w F p M -> Calls prog I.arm #[.pointer (some ⟨p, 0, none⟩), .int .i64 n] w fun e w' => e = .returned (.int .i64 (lD M n)) /\ ∃ F', Bn w' F' p (iv M n) /\ Only F w w' /\ Grow w F F'
 kL : ∀ {w F p M A n c P}, Pk w F A n c P -> Bn w F p M -> Calls prog I.kL #[.pointer (some ⟨p, 0, none⟩), .slice A n c] w fun e w' => e = .returned (.int .i64 0) /\ ∃ F', Bn w' F' p (vH M P) /\ Only F w w' /\ Grow w F F'
 rot : ∀ {w F p M} (d n i : Int) (u : UInt8), Bn w F p M -> Calls prog I.rot #[.pointer (some ⟨p, 0, none⟩), .int .i64 d, .int .i64 n, .int .i64 i, .int .u8 (u.toNat : Int)] w fun e w' => e = .returned (.int .i64 (qm M d n i)) /\ ∃ F', Bn w' F' p (kz M d n i u) /\ Only F w w' /\ Grow w F F'
 fI : ∀ {w F p M} (d : Int), Bn w F p M -> Calls prog I.fI #[.pointer (some ⟨p, 0, none⟩), .int .i64 d] w fun e w' => e = .returned (.int .i64 (cw M d)) /\ Below w.heap.size w w'
 dx : ∀ {w F p M}, Bn w F p M -> Calls prog I.dx #[.pointer (some ⟨p, 0, none⟩)] w fun e w' => e = .returned (.bool M.dx) /\ Below w.heap.size w w'
 steps : ∀ {w F p M}, Bn w F p M -> Calls prog I.steps #[.pointer (some ⟨p, 0, none⟩)] w fun e w' => e = .returned (.int .i64 (M.steps : Int)) /\ Below w.heap.size w w'
theorem Ben.below {I : abL} (R : Ben I) {w w' : World} {F : Nat -> Prop} {p : Nat} {M : aK} (h : R.Bn w F p M) (k : Below w.heap.size w w') : R.Bn w' F p M := R.only h (Only.of_below (fun _ => False) k) fun _ _ e => e
section
variable {k : gY} {w w' : World} {F G : Nat -> Prop} {p : Nat} {M M' : aK}
def ahf (Bn : World -> (Nat -> Prop) -> Nat -> aK -> Prop) (w : World) (ks : List Int) (e : Ending) (w' : World) : Prop :=
 Below w.heap.size w w' /\ ((jK ks /\ ∃ p F, e = .returned (.tuple #[.pointer (some ⟨p, 0, none⟩), .int .i64 0]) /\ Bn w' F p (jB ks) /\ ∀ b, F b -> w.heap.size <= b) \/ (¬ jK ks /\ e = .returned (.tuple #[.pointer none, .int .i64 2])))
def At {I : abL} (R : Ben I) (w0 : World) (B : Nat) (w : World) (p : Nat) (M : aK) : Prop := ∃ F, R.Bn w F p M /\ (∀ b, F b -> B <= b) /\ Below B w0 w /\ B <= w0.heap.size
def InB (k : gY) (w : World) (F : Nat -> Prop) (p : Nat) (M : aK) : Prop := ∃ v Fs ps, F = fc p v Fs M.ds.length /\ bz k w p v Fs ps M
theorem InB.lt (h : InB k w F p M) : ∀ b, F b -> b < w.heap.size := by
 obtain ⟨v, Fs, ps, rfl, h⟩ := h;exact h.lt
theorem InB.only (h : InB k w F p M) (ho : Only G w w') (hn : ∀ b, F b -> ¬ G b) : InB k w' F p M := by
 obtain ⟨v, Fs, ps, rfl, h⟩ := h;exact ⟨v, Fs, ps, rfl, h.only ho hn⟩
theorem Left.out {v : Value} {Fs : Nat -> Nat -> Prop} {ps : List Nat} (h : Left k w p v Fs ps M.ds.length M' w') : ∃ F', InB k w' F' p M' /\ Only (fc p v Fs M.ds.length) w w' /\ Grow w (fc p v Fs M.ds.length) F' := by
 obtain ⟨Fs', ps', h1, h2, h3⟩ := h;exact ⟨_, ⟨v, Fs', ps', rfl, h1⟩, h2, h3⟩
end
def gO : Elt (Int × Blk) := um 121 155 underlying121 (by kernel_rfl)
structure dM (w : World) (p : Nat) (vS vL : Value) (S : List Blk) (L : List (Int × Blk)) (g : Bool) : Prop where
 at_ : w.heap[p]? = some (.cells #[vS, vL, .bool g] 123)
 S_ : aO kV w 0 vS S
 L_ : aO gO w 0 vL L
section
variable {w w' : World} {p : Nat} {vS vL : Value} {S : List Blk} {L : List (Int × Blk)} {g : Bool} {F : Nat -> Prop}
theorem dM.lt (h : dM w p vS vL S L g) : ∀ k, foot p vS vL k -> k < w.heap.size := by
 intro k hk;rcases hk with rfl | hk | hk
 ·exact (Array.getElem?_eq_some_iff.1 h.at_).1
 ·exact h.S_.ie k hk
 ·exact h.L_.ie k hk
theorem dM.only (h : dM w p vS vL S L g) (k : Only F w w') (hn : ∀ b, foot p vS vL b -> ¬ F b) : dM w' p vS vL S L g :=
 ⟨k.keep h.at_ (hn p (.inl rfl)), h.S_.only k fun b hb => hn b (.inr (.inl hb)), h.L_.only k fun b hb => hn b (.inr (.inr hb))⟩
theorem dM.below (h : dM w p vS vL S L g) (k : Below w.heap.size w w') : dM w' p vS vL S L g := h.only (Only.of_below (fun _ => False) k) fun _ _ e => e
end
theorem jw (p : Nat) (vS vL : Value) (S : List Blk) (L : List (Int × Blk)) (g : Bool) (n : Int) (w : World) (h : dM w p vS vL S L g) :
  Calls prog 123 #[.pointer (some ⟨p, 0, none⟩), .int .i64 n] w fun e w' => e = .returned (.int .i64 (dm S g n)) /\ w = w' := by
 obtain ⟨c0, c1, c2⟩ := cells3 h.at_;obtain ⟨A, c, rfl, hc1, hc2⟩ := h.S_.form;by_cases h0 : n < 0
 ·have HE := af (qF (S := S) (n := n) g (by omega));go_enter func123, ntmps123;go_wp2;go_ret;exact ⟨br HE.out.symm, rfl⟩
 ·by_cases h1 : n < S.length
  ·cases g
   ·have HE := af (lz (S := S) (n := n) (by omega));go_enter func123, ntmps123;go_wp2;go_ret;exact ⟨br HE.out.symm, rfl⟩
   ·have HE := af (rU (S := S) (n := n) (by omega));go_enter func123, ntmps123;go_wp2;go_ret;exact ⟨br HE.out.symm, rfl⟩
  ·have HE := af (qF (S := S) (n := n) g (by omega));go_enter func123, ntmps123;go_wp2;go_ret;exact ⟨br HE.out.symm, rfl⟩
theorem ahh (p : Nat) (vS vL : Value) (S : List Blk) (L : List (Int × Blk)) (g : Bool) (n : Int) (w : World) (h : dM w p vS vL S L g) :
  Calls prog 87 #[.pointer (some ⟨p, 0, none⟩), .int .i64 n] w fun e w' => e = .returned (.tuple #[blk (gp S g n), .int .i64 (dm S g n)]) /\ Below w.heap.size w w' := by
 have hA := (Below.refl w.heap.size w).alloc aj (.cells (cel aE).toArray 64);have h1 := h.below hA;have HT := af (dj w aE 64);have HA := af hA;clear hA;rcases ft (S := S) (g := g) (n := n) with he | he | ⟨he, rfl, k, rfl, hk⟩
 ·have HS := af (mA (S := S) (g := g) (n := n) (by omega));have HE := af he;clear he;go_enter func87, ntmps87;go_wp2_with (first | (refine ax rfl (aV rfl) ?_) | fail);refine (jw p vS vL S L g n _ h1).mono ?_;rintro e w1 ⟨rfl, rfl⟩;rw [HE.out];go_wp2_with (first | (refine ax rfl (ca (c := aE) (parts := []) rfl rfl) ?_) | (refine aW rfl (aX rfl rfl rfl HT.out) ?_));refine bodyPost_ret (b9 rfl _ _ _ rfl (World.rangeAt_setCells_same _ _ _ _ (by rw [aG]; exact HT))) rfl ⟨by rw [HS.out, HE.out]; rfl, below_setCells HA aj _⟩
 ·have HS := af (mA (S := S) (g := g) (n := n) (by omega));have HE := af he;clear he;go_enter func87, ntmps87;go_wp2_with (first | (refine ax rfl (aV rfl) ?_) | fail);refine (jw p vS vL S L g n _ h1).mono ?_;rintro e w1 ⟨rfl, rfl⟩;rw [HE.out];go_wp2_with (first | (refine ax rfl (ca (c := aE) (parts := []) rfl rfl) ?_) | (refine aW rfl (aX rfl rfl rfl HT.out) ?_));refine bodyPost_ret (b9 rfl _ _ _ rfl (World.rangeAt_setCells_same _ _ _ _ (by rw [aG]; exact HT))) rfl ⟨by rw [HS.out, HE.out]; rfl, below_setCells HA aj _⟩
 ·have HS := af (vi he);have HE := af he;clear he;obtain ⟨A, c, rfl, hrd, hc1, hc2⟩ := h1.S_.open_ rfl;obtain ⟨b, off, rfl, hb, hr⟩ := hrd.blk hk;obtain ⟨c0, c1, c2⟩ := cells3 h1.at_;generalize S.getD k aE = x at *;have HR := af hr;clear hr hrd;go_enter func87, ntmps87;go_wp2_with (first | (refine ax rfl (aV rfl) ?_) | fail);refine (jw p _ vL S L false k _ h1).mono ?_;rintro e w1 ⟨rfl, rfl⟩;rw [HE.out];go_wp2_with (first | (refine ax rfl (aU rfl rfl HR.out) ?_) | (refine aW rfl (aX rfl rfl rfl HT.out) ?_));refine bodyPost_ret (b9 rfl _ _ _ rfl (World.rangeAt_setCells_same _ _ _ _ (by rw [aG]; exact HT))) rfl ⟨by rw [HS.out, HE.out]; rfl, below_setCells HA aj _⟩
theorem zV (p : Nat) (vS vL : Value) (S : List Blk) (L : List (Int × Blk)) (g : Bool) (n : Int) (w : World) (h : dM w p vS vL S L g) (he0 : dm S g n ≠ 0) :
  Calls prog 109 #[.pointer (some ⟨p, 0, none⟩), .int .i64 n] w fun e w' => e = .returned (.tuple #[blk (gl S L g n), .int .i64 (dm S g n)]) /\ Below w.heap.size w w' := by
 have hA := (Below.refl w.heap.size w).alloc aj (.cells (cel aE).toArray 64);have h1 := h.below hA;have HT := af (dj w aE 64);have HA := af hA;have HS := af (uU (L := L) he0);clear hA;rcases ft (S := S) (g := g) (n := n) with he | he | ⟨he, _⟩
 ·have HE := af he;clear he he0;go_enter func109, ntmps109;go_wp2_with (first | (refine ax rfl (aV rfl) ?_) | fail);refine (jw p vS vL S L g n _ h1).mono ?_;rintro e w1 ⟨rfl, rfl⟩;rw [HE.out];go_wp2_with (first | (refine ax rfl (ca (c := aE) (parts := []) rfl rfl) ?_) | (refine aW rfl (aX rfl rfl rfl HT.out) ?_));refine bodyPost_ret (b9 rfl _ _ _ rfl (World.rangeAt_setCells_same _ _ _ _ (by rw [aG]; exact HT))) rfl ⟨by rw [HS.out, HE.out]; rfl, below_setCells HA aj _⟩
 ·have HE := af he;clear he he0;go_enter func109, ntmps109;go_wp2_with (first | (refine ax rfl (aV rfl) ?_) | fail);refine (jw p vS vL S L g n _ h1).mono ?_;rintro e w1 ⟨rfl, rfl⟩;rw [HE.out];go_wp2_with (first | (refine ax rfl (ca (c := aE) (parts := []) rfl rfl) ?_) | (refine aW rfl (aX rfl rfl rfl HT.out) ?_));refine bodyPost_ret (b9 rfl _ _ _ rfl (World.rangeAt_setCells_same _ _ _ _ (by rw [aG]; exact HT))) rfl ⟨by rw [HS.out, HE.out]; rfl, below_setCells HA aj _⟩
 ·exact absurd he he0
theorem z3 (p k : Nat) (vS vL : Value) (S : List Blk) (L : List (Int × Blk)) (w : World) (h : dM w p vS vL S L false) (hk : k < S.length) :
  Calls prog 109 #[.pointer (some ⟨p, 0, none⟩), .int .i64 k] w fun e w' => e = .returned (.tuple #[blk (gl S L false k), .int .i64 0]) /\ Below w.heap.size w w' := by
 have hA := (Below.refl w.heap.size w).alloc aj (.cells (cel aE).toArray 64);have h1 := h.below hA;have he : dm S false k = 0 := lz (by omega);have HE := af he;have HS := af (p8 (L := L) he);have HN1 := ox w (cel aE).toArray 64;clear he;obtain ⟨A, c, rfl, hrd, hc1, hc2⟩ := h1.S_.open_ rfl;obtain ⟨b, off, rfl, hb, hr⟩ := hrd.blk hk;obtain ⟨c0, c1, c2⟩ := cells3 h1.at_;generalize S.getD k aE = x at *;have HR := af hr;have HH := af h1;have HA := af hA;have HN := af HN1;have HSZ := af (World.size_alloc w (.cells (cel aE).toArray 64));clear hr hrd h1 hA h HN1;go_enter func109, ntmps109;go_wp2_with (first | (refine ax rfl (aV rfl) ?_) | fail);generalize w.alloc (.cells (cel aE).toArray 64) = w1 at *;refine (jw p _ vL S L false k _ HH).mono ?_;rintro e w2 ⟨rfl, rfl⟩;rw [HE.out];go_wp2_with (first | (refine ax rfl (aU rfl rfl HR.out) ?_) | (refine ax rfl (aV rfl) ?_) | (refine aW rfl (jL rfl rfl rfl) ?_) | fail);have HY := af (ox w1 (cel x).toArray 64);have HH2 := af (HH.out.below (ak.alloc aj (.cells (cel x).toArray 64)));have HK2 := af (cE HN (.cells (cel x).toArray 64));have HA2 := af (HA.out.alloc HA.out.size (.cells (cel x).toArray 64));have HF := af HH.out.lt;have hyw : w.heap.size < w1.heap.size := by rw [HSZ.out]; omega
 have HSZ2 := af (World.size_alloc w1 (.cells (cel x).toArray 64));clear HH HN HA c0 c1 c2 HR;generalize hy : w1.heap.size = y at *;generalize w1.alloc (.cells (cel x).toArray 64) = w2 at *;clear hy;go_wp2_with fail
 go_loopw [8] (fun i wr => ∃ j : Nat, j <= L.length /\ i = .int .i64 j /\ Only (fun b => b = y) w2 wr /\ wr.heap[y]? = some (.cells (cel (kP (L.take j) k x)).toArray 64)) (fun i _ => L.length - (intOf i).toNat)
 case atStart => exact ⟨0, Nat.zero_le _, rfl, Only.refl _ _, HY⟩
 case round =>
  obtain ⟨j, hj, rfl, hon, hY⟩ := hrel;have hH := HH2.out.only hon (fun b hb e => by have := HF.out b hb; omega);obtain ⟨c0, c1, c2⟩ := cells3 hH.at_;obtain ⟨AL, cL, rfl, hrd, hl1, hl2⟩ := hH.L_.open_ rfl;unfold maxLen at hl2;have HON := af hon;have HYW := af hY;clear hon hY hH;by_cases hlt : j < L.length
  ·have HNX := af (lO (L := L) (k : Int) x hlt);obtain ⟨bA, oA, rfl, hA, cA, rA⟩ := hrd.pair hlt;generalize L.getD j (0, aE) = q at *;obtain ⟨qn, qb⟩ := q;have HRA := af rA;have HTY := af (jy HYW);clear rA hrd;have hAw : bA ≠ y := by have := HF.out bA (.inr (.inr rfl)); omega
   have hLL : (j : Int) < (L.length : Int) := by omega
   by_cases e : qn = (k : Int)
   ·simp only [e, if_true] at HNX;subst e;go_wp2_with (first | (refine ax rfl (aU rfl rfl HRA.out) ?_) | (refine aW rfl (aX rfl rfl rfl HTY.out) ?_));go_roundw
    case rel => exact ⟨j + 1, by omega, by go_num, HON.out.setCells (.inl rfl) _ _, by rw [HNX.out]; exact acJ HYW⟩
    case measure => simp [intOf]; omega
   ·rw [if_neg e] at HNX;go_wp2_with (first | (refine ax rfl (aU rfl rfl HRA.out) ?_) | (refine aW rfl (aX rfl rfl rfl HTY.out) ?_));go_roundw
    case rel => exact ⟨j + 1, by omega, by go_num, HON, by rw [HNX.out]; exact HYW⟩
    case measure => simp [intOf]; omega
  ·have hjn : j = L.length := by omega
   subst hjn;have HR := af (HON.out.keep HK2 (by omega));have HTR := af (jy HR);have HRY := af (jT HYW);rw [List.take_length] at HRY;generalize kP L (k : Int) x = z at *;have hLL : ¬((L.length : Int) < (L.length : Int)) := by omega
   go_wp2_with (first | (refine ax rfl (aU rfl rfl HRY.out) ?_) | (refine aW rfl (aX rfl rfl rfl HTR.out) ?_));refine bodyPost_ret (b9 rfl _ _ _ rfl (World.rangeAt_setCells_same _ _ _ _ (by rw [aG]; exact HTR))) rfl ⟨by rw [HS.out]; rfl, ?_⟩;exact below_setCells (HA2.out.trans (HON.out.below (fun b hb => by omega) (by rw [HSZ2.out]; omega))) aj _
theorem ail (p : Nat) (vS vL : Value) (S : List Blk) (L : List (Int × Blk)) (g : Bool) (n : Int) (w : World) (h : dM w p vS vL S L g) :
  Calls prog 109 #[.pointer (some ⟨p, 0, none⟩), .int .i64 n] w fun e w' => e = .returned (.tuple #[blk (gl S L g n), .int .i64 (dm S g n)]) /\ Below w.heap.size w w' := by
 by_cases he : dm S g n = 0
 ·rcases ft (S := S) (g := g) (n := n) with h1 | h1 | ⟨_, rfl, k, rfl, hk⟩
  ·omega
  ·omega
  ·rw [he]; exact z3 p k vS vL S L w h hk
 ·exact zV p vS vL S L g n w h he
section
variable {w w' : World} {p : Nat} {vS vL : Value} {S : List Blk} {L : List (Int × Blk)} {g : Bool}
theorem dM.akV (h : dM w p vS vL S L g) (g' : Bool) : dM (w.setCell ⟨p, 2, none⟩ (.bool g')) p vS vL S L g' := by
 have hO := dt w p 2 (.bool g');refine ⟨?_, h.S_.only hO fun b hb e => h.S_.dl h.at_ (by decide) (by rw [hb, e]), h.L_.only hO fun b hb e => h.L_.dl h.at_ (by decide) (by rw [hb, e])⟩;have := heap_setCell_same w p 2 _ _ (.bool g') h.at_
 simpa using this
theorem dM.sO (h : dM w p vS vL S L g) {vL' : Value} {L' : List (Int × Blk)} (h' : aO gO w 0 vL' L') : dM (w.setCell ⟨p, 1, none⟩ vL') p vS vL' S L' g := by
 have hO := dt w p 1 vL';refine ⟨?_, h.S_.only hO fun b hb e => h.S_.dl h.at_ (by decide) (by rw [hb, e]), h'.only hO fun b hb e => h'.dl h.at_ (by decide) (by rw [hb, e])⟩;have := heap_setCell_same w p 1 _ _ vL' h.at_
 simpa using this
theorem akb (hp : w.heap[p]? = some (.cells #[vS, vL, .bool g] 123)) (hS : aO kV w 0 vS S) {vL' : Value} {L' : List (Int × Blk)} (h' : aO gO w 0 vL' L') : dM (w.setCell ⟨p, 1, none⟩ vL') p vS vL' S L' g := by
 have hO := dt w p 1 vL';refine ⟨?_, hS.only hO fun b hb e => hS.dl hp (by decide) (by rw [hb, e]), h'.only hO fun b hb e => h'.dl hp (by decide) (by rw [hb, e])⟩;have := heap_setCell_same w p 1 _ _ vL' hp
 simpa using this
theorem xQ {b : Nat} : (Instr.fieldAt 123 (.pointer (some ⟨b, 0, none⟩)) 0).run prog w = .ok (.pointer (some ⟨b, 0, none⟩)) w := by kernel_rfl
theorem qK {b : Nat} : (Instr.fieldAt 123 (.pointer (some ⟨b, 0, none⟩)) 1).run prog w = .ok (.pointer (some ⟨b, 1, none⟩)) w := by kernel_rfl
theorem sl {a : Addr} {A : Option Addr} {n c : Nat} (h : w.cell? a = some (.slice A n c)) : (Instr.loadAt 121 (.pointer (some a))).run prog w = .ok (.slice A n c) w := by simp [go_sem, h]
theorem stS {a : Addr} {v : Value} {A : Option Addr} {n c : Nat} (h : w.cell? a = some v) (hf : w.frozen? a = false) : (Instr.storeAt 121 (.pointer (some a)) (.slice A n c)).run prog w = .ok () (w.setCell a (.slice A n c)) := by simp [go_sem, h, hf]
theorem wI (k : Int) (b : Blk) : (Instr.build 155 #[(0, .int .i64 k), (1, blk b)]).run prog w = .ok (jo k b) w := by
 have hz := jH gO w;have h1 := iS (place := fun i => (#[(0, 1), (1, 64)] : Array (Nat × Nat))[i]?) (i := 0) (off := 0) (size := 1) (v := .int .i64 k) (pre := []) (mid := [.int .i64 0]) (post := cel aE) (vs := [.int .i64 k]) (rest := [(1, blk b)]) rfl rfl rfl rfl rfl;have h2 := iS (place := fun i => (#[(0, 1), (1, 64)] : Array (Nat × Nat))[i]?) (i := 1) (off := 1) (size := 64) (v := blk b) (pre := [.int .i64 k]) (mid := cel aE) (post := []) (vs := cel b) (rest := []) rfl rfl (aG b) rfl (aG aE);simp only [List.nil_append, List.append_nil, List.singleton_append] at h1 h2;have h3 := h1.trans h2;have hz' : (zeroValue 155).run prog w = .ok (jo 0 aE) w := hz;have hc : (jo 0 aE).cells = (.int .i64 0 :: cel aE).toArray := rfl;simp only [Instr.build, Sem.run_bind, hz', run_underlying underlying155, Result.andThen_ok, hc];refine Eq.trans (congrArg (fun r => Result.andThen r _) (?h : _ = Result.ok #[(0, 1), (1, 64)] w)) ?_
 case h => kernel_rfl
 simp only [Result.andThen_ok];have h4 : Instr.fill (fun i => (#[(0, 1), (1, 64)] : Array (Nat × Nat))[i]?) (.int .i64 k :: cel b).toArray [] = some (.int .i64 k :: cel b).toArray := by rw [Instr.fill]
 rw [h3.trans h4]
 rfl
theorem tQ {ρ : Operand -> Value} {o : Oper} {x y : Operand} {k : Int} {b : Blk} (ho : o.op = .build 155 #[(0, x), (1, y)]) (hx : ρ x = .int .i64 k) (hy : ρ y = blk b) : (execOp ρ o).run prog w = .ok (.value (jo k b)) w := by
 have h := wI (w := w) k b;unfold execOp;simp only [ho, List.map_toArray, List.map_cons, List.map_nil, hx, hy, Sem.run_bind, h, Result.andThen_ok, Sem.run_pure]
theorem pair_cells (k : Int) (b : Blk) : (jo k b).cells = (gO.cel (k, b)).toArray := rfl
end
theorem aii (p : Nat) (vS vL : Value) (S : List Blk) (L : List (Int × Blk)) (g : Bool) (w : World) (h : dM w p vS vL S L g) :
  Calls prog 77 #[.pointer (some ⟨p, 0, none⟩)] w fun e w' => (∃ v, e = .returned v) /\ dM w' p vS (.slice none 0 0) S [] true /\ Only (foot p vS vL) w w' := by
 obtain ⟨c0, c1, c2⟩ := cells3 h.at_;have f1 := frozen_of_row w p 1 _ _ h.at_;have f2 := frozen_of_row w p 2 _ _ h.at_;have H := af h;clear h;go_enter func77, ntmps77;go_wp2;refine bodyPost_end (results_none rfl _ _ _) rfl ⟨⟨_, rfl⟩, (H.out.akV true).sO (aO.nil _ _), ?_⟩;exact ((dt w p 2 _).trans (dt _ p 1 _) fun b hb => .inl hb).widen fun b hb => .inl hb
theorem wD (p : Nat) (vS vL : Value) (S : List Blk) (L : List (Int × Blk)) (g : Bool) (n : Int) (b : Blk) (w : World) (h : dM w p vS vL S L g) (he0 : dm S g n ≠ 0) :
  Calls prog 125 #[.pointer (some ⟨p, 0, none⟩), .int .i64 n, blk b] w fun e w' => e = .returned (.int .i64 (dm S g n)) /\ Below w.heap.size w w' := by
 have hA := (Below.refl w.heap.size w).alloc aj (.cells (cel b).toArray 64);have h1 := h.below hA;have HA := af hA;clear hA;have H0 := af he0;rcases ft (S := S) (g := g) (n := n) with he | he | ⟨he, _⟩
 ·have HE := af he;clear he he0;go_enter func125, ntmps125;go_wp2_with (first | (refine ax rfl (bW rfl rfl) ?_) | fail);refine (jw p vS vL S L g n _ h1).mono ?_;rintro e w1 ⟨rfl, rfl⟩;rw [HE.out];go_wp2_with fail;go_ret;exact ⟨br HE.out.symm, HA⟩
 ·have HE := af he;clear he he0;go_enter func125, ntmps125;go_wp2_with (first | (refine ax rfl (bW rfl rfl) ?_) | fail);refine (jw p vS vL S L g n _ h1).mono ?_;rintro e w1 ⟨rfl, rfl⟩;rw [HE.out];go_wp2_with fail;go_ret;exact ⟨br HE.out.symm, HA⟩
 ·exact absurd he he0
theorem xg (p k : Nat) (vS vL : Value) (S : List Blk) (L : List (Int × Blk)) (b : Blk) (w : World) (h : dM w p vS vL S L false) (hk : k < S.length) (hL : L.length < 1000000) :
  Calls prog 125 #[.pointer (some ⟨p, 0, none⟩), .int .i64 k, blk b] w fun e w' => e = .returned (.int .i64 0) /\ ∃ vL', dM w' p vS vL' S (L ++ [((k : Int), b)]) false /\ Only (foot p vS vL) w w' /\ (∀ x, vL'.ownBlock = some x -> vL.ownBlock = some x \/ w.heap.size <= x) := by
 have hA := (Below.refl w.heap.size w).alloc aj (.cells (cel b).toArray 64);have h1 := h.below hA;have HA := af hA;have HE := af (lz (S := S) (n := (k : Int)) (by omega));have HB := af (ox w (cel b).toArray 64);clear hA;obtain ⟨AL, cL, rfl, hl1, hl2⟩ := h1.L_.form;go_enter func125, ntmps125;go_wp2_with (first | (refine ax rfl (bW rfl rfl) ?_) | fail);refine (jw p vS _ S L false k _ h1).mono ?_;rintro e w1 ⟨rfl, rfl⟩;rw [HE.out];go_wp2_with fail;generalize hy : w.heap.size = y at *;generalize w.alloc (.cells (cel b).toArray 64) = w1 at *;refine bk (fun w' => w'.heap[p]? = some (.cells #[vS, .slice AL L.length cL, .bool false] 123) /\ w'.heap[y]? = some (.cells (cel b).toArray 64)) 12 (by kernel_rfl) ?_;change cu _ _ _ _ _ _ 13 _ _ w1.drew;have hS : w1.drew.heap[p]? = some (.cells #[vS, .slice AL L.length cL, .bool false] 123) /\ w1.drew.heap[y]? = some (.cells (cel b).toArray 64) := ⟨h1.at_, HB⟩;refine ak5 0 rfl (fun _ hw => aB rfl alb) hS ?_;refine ak5 1 rfl (fun _ hw => aB rfl alb) hS ?_;refine ak5 2 rfl (fun _ hw => aM rfl alb) hS ?_;refine ak5 3 rfl (fun _ hw => av rfl alb qK) hS ?_;refine ak5 4 rfl (fun _ hw => aA rfl alb (sl (cells3 hw.1).2.1)) hS ?_;refine ak5 5 rfl (fun _ hw => aB rfl alb) hS ?_;refine ak5 6 rfl (fun _ hw => aU rfl alb (jT hw.2)) hS ?_;refine ak5 7 rfl (fun _ hw => tQ rfl alb alb) hS ?_;have hr : dM w1.drew p vS (.slice AL L.length cL) S L false := ⟨h1.at_, h1.S_, h1.L_⟩;have hS2 : dM (w1.drew.alloc (.cells (gO.cel ((k : Int), b)).toArray gO.t)) p vS (.slice AL L.length cL) S L false := hr.below (ak.alloc aj _);have hb2 := cE hS.2 (.cells (gO.cel ((k : Int), b)).toArray gO.t);have hnew : RdE gO _ _ _ 1 _ := fp (E := gO) (l := [((k : Int), b)]) w1.drew (gO.cel ((k : Int), b)).toArray gO.t (by rw [eH]; simp [bY]);obtain ⟨v3, w3, hrun, hm3, hg3, ho3⟩ := fq gO _ 121 0 _ 1 1 _ _ _ _ hS2.L_ hnew (Nat.zero_le _) (by omega);have hO2 : Only (foot p vS (.slice AL L.length cL)) w (w1.drew.alloc (.cells (gO.cel ((k : Int), b)).toArray gO.t)) := (Only.of_below _ (hy ▸ HA.out)).drew.alloc _;have hO3 := hO2.grown hg3 (fun x hx => .inl (.inr (.inr hx)));have hp3 : w3.heap[p]? = some (.cells #[vS, .slice AL L.length cL, .bool false] 123) := (hg3.block p (aR hS2.at_) (fun e => hS2.L_.dl hS2.at_ (by decide) e.symm)).trans hS2.at_;have hy3 : w3.heap[y]? = some (.cells (cel b).toArray 64) := (hg3.block y (aR hb2) (fun e => hS2.L_.dl hb2 (by decide) e.symm)).trans hb2;have hSS3 := hS2.S_.kept hg3 (hS2.S_.other hS2.L_ (by decide));refine bh 8 rfl (by kernel_rfl) rfl (dZ (E := gO) (a := ((k : Int), b)) rfl alb (pair_cells _ _) (by decide)) (fun _ => ⟨hS2.at_, hb2⟩) ?_;simp only [aa];refine bh 9 rfl (by kernel_rfl) rfl (gC (E := gO) rfl alb alb hrun) (fun _ => ⟨hp3, hy3⟩) ?_;simp only [aa];refine bh 10 rfl (by kernel_rfl) rfl (aM rfl alb) (fun _ => ⟨hp3, hy3⟩) ?_;simp only [aa];refine bh 11 rfl (by kernel_rfl) rfl (av rfl alb qK) (fun _ => ⟨hp3, hy3⟩) ?_;simp only [aa];obtain ⟨A3, c3, rfl, _, _⟩ := hm3.form;refine fd 12 rfl (by kernel_rfl) rfl (dU rfl (ev rfl) (ev rfl) (stS (cells3 hp3).2.1 (frozen_of_row _ _ _ _ _ hp3))) (fun e => absurd rfl e) ?_;simp only [Act.put];refine bK (by kernel_rfl) ?_ _;go_wp2_with fail;go_ret;refine ⟨rfl, _, akb hp3 hSS3 hm3, hO3.setCell (.inl (.inl rfl)) _, fun x hx => ?_⟩;rcases ho3 x hx with e | e
 ·exact .inl e
 ·refine .inr (ap ?_ e);have := hO2.size;omega
theorem aeT (p : Nat) (vS vL : Value) (S : List Blk) (L : List (Int × Blk)) (g : Bool) (n : Int) (b : Blk) (w : World) (h : dM w p vS vL S L g) (hL : L.length < 1000000) :
  Calls prog 125 #[.pointer (some ⟨p, 0, none⟩), .int .i64 n, blk b] w fun e w' => e = .returned (.int .i64 (dm S g n)) /\ ∃ vL', dM w' p vS vL' S (wrL S L g n b) g /\ Only (foot p vS vL) w w' /\ (∀ x, vL'.ownBlock = some x -> vL.ownBlock = some x \/ w.heap.size <= x) := by
 by_cases he : dm S g n = 0
 ·rcases ft (S := S) (g := g) (n := n) with h1 | h1 | ⟨_, rfl, k, rfl, hk⟩
  ·omega
  ·omega
  ·have e : wrL S L false k b = L ++ [((k : Int), b)] := by unfold wrL; rw [if_pos he]
   rw [e, he];exact xg p k vS vL S L b w h hk hL
 ·have e : wrL S L g n b = L := by unfold wrL; rw [if_neg he]
  rw [e];exact (wD p vS vL S L g n b w h he).mono fun e w' ⟨h1, h2⟩ => ⟨h1, vL, h.below h2, Only.of_below _ h2, fun x hx => .inl hx⟩
section
variable {w : World} {p b off gg n c k : Nat} {vL : Value} {S : List Blk} {L : List (Int × Blk)} {g : Bool}
theorem acE : (Instr.fieldAt 155 (.pointer (some ⟨b, off, none⟩)) 0).run prog w = .ok (.pointer (some ⟨b, off, none⟩)) w := by kernel_rfl
theorem ahW : (Instr.fieldAt 155 (.pointer (some ⟨b, off, none⟩)) 1).run prog w = .ok (.pointer (some ⟨b, off + 1, none⟩)) w := by kernel_rfl
theorem dM.ab4 (h : dM w p (.slice (some ⟨gg, 0, none⟩) n c) vL S L g) (hk : k < n) (x : Blk) : dM (w.setCells gg (k * 64) (cel x)) p (.slice (some ⟨gg, 0, none⟩) n c) vL (S.set k x) L g := by
 have hO : Only (fun b => b = gg) w (w.setCells gg (k * 64) (cel x)) := (Only.refl (fun b => b = gg) w).setCells (.inl rfl) _ _;refine ⟨hO.keep h.at_ (fun e => h.S_.dl h.at_ (by decide) (by rw [e]; rfl)), h.S_.store hk x, h.L_.only hO fun b hb e => ?_⟩;rcases h.L_.other h.S_ (by decide) with e' | e'
 ·rw [e'] at hb; cases hb
 ·exact e' (by rw [hb, e]; rfl)
end
theorem sK (p : Nat) (vS vL : Value) (S : List Blk) (L : List (Int × Blk)) (w : World) (h : dM w p vS vL S L true) :
  Calls prog 126 #[.pointer (some ⟨p, 0, none⟩)] w fun e w' => e = .returned (.int .i64 9) /\ w = w' := by
 obtain ⟨c0, c1, c2⟩ := cells3 h.at_;go_enter func126, ntmps126;go_wp2;go_ret;exact ⟨rfl, rfl⟩
theorem xf (p : Nat) (vS vL : Value) (S : List Blk) (L : List (Int × Blk)) (w : World) (h : dM w p vS vL S L false) (hF : Fit S L) :
  Calls prog 126 #[.pointer (some ⟨p, 0, none⟩)] w fun e w' => e = .returned (.int .i64 0) /\ dM w' p vS (.slice none 0 0) (flS S L) [] false /\ Only (foot p vS vL) w w' := by
 obtain ⟨c0, c1, c2⟩ := cells3 h.at_;obtain ⟨AL, cL, rfl, hl1, hl2⟩ := h.L_.form;unfold maxLen at hl2;have HH := af h;have HF := af hF;clear h hF;go_enter func126, ntmps126;go_wp2;clear c0 c1 c2
 go_loopw [3] (fun i wr => ∃ j : Nat, j <= L.length /\ i = .int .i64 j /\ dM wr p vS (.slice AL L.length cL) (flS S (L.take j)) L false /\ Only (foot p vS (.slice AL L.length cL)) w wr) (fun i _ => L.length - (intOf i).toNat)
 case atStart => exact ⟨0, Nat.zero_le _, rfl, HH, Only.refl _ _⟩
 case round =>
  obtain ⟨j, hj, rfl, hr, hon⟩ := hrel;obtain ⟨c0, c1, c2⟩ := cells3 hr.at_;by_cases hlt : j < L.length
  ·obtain ⟨k, hqk, hk⟩ := HF.out.at_ hlt;have hlenS := mJ S (L.take j);obtain ⟨gS, cS, rfl⟩ := hr.S_.slice hlenS (by omega);obtain ⟨bA, oA, hAe, hAl, cA, rA⟩ := hr.L_.rd.pair hlt;have HS := af (tv (S := S) hlt);rw [hqk] at cA HS;generalize (L.getD j (0, aE)).2 = x at *;have HRA := af rA;have HA := af (⟨c0, c1⟩ : _ /\ _);have HRr := af hr;have HON := af hon;subst hAe;have HKT := af (show wr.there gS (k * 64) 64 from by
    have := HRr.out.S_.there hk (j := 0) (m := 64) aj;rw [Nat.add_zero] at this;exact this)
   clear hr hon rA hqk hlenS;have hLL : (j : Int) < (L.length : Int) := by omega
   go_wp2_with fail;refine wp_region_still_tail 21 (by kernel_rfl) (by kernel_rfl) ?_;simp only [ae];refine aJ rfl (aB rfl alb) ?_;simp only [aa];refine aJ rfl (aM rfl alb) ?_;simp only [aa];refine aJ rfl (av rfl alb xQ) ?_;simp only [aa];refine aJ rfl (aA rfl alb (ldB HA.out.1)) ?_;simp only [aa];refine aJ rfl (aB rfl alb) ?_;simp only [aa];refine aJ rfl (aM rfl alb) ?_;simp only [aa];refine aJ rfl (av rfl alb qK) ?_;simp only [aa];refine aJ rfl (aA rfl alb (sl HA.out.2)) ?_;simp only [aa];refine aJ rfl (aB rfl alb) ?_;simp only [aa];refine aJ rfl (bH (E := gO) rfl alb alb hlt) ?_;simp only [aa];refine aJ rfl (av rfl alb acE) ?_;simp only [aa];refine aJ rfl (aA rfl alb (ldI cA)) ?_;simp only [aa];refine aJ rfl (aB rfl alb) ?_;simp only [aa];refine aJ rfl (aM rfl alb) ?_;simp only [aa];refine aJ rfl (av rfl alb qK) ?_;simp only [aa];refine aJ rfl (aA rfl alb (sl HA.out.2)) ?_;simp only [aa];refine aJ rfl (aB rfl alb) ?_;simp only [aa];refine aJ rfl (bH (E := gO) rfl alb alb hlt) ?_;simp only [aa];refine aJ rfl (av rfl alb ahW) ?_;simp only [aa];refine aJ rfl (aU rfl alb HRA) ?_;simp only [aa];refine aJ rfl (eY (E := kV) rfl alb alb hk) ?_;simp only [aa];refine wpStill_nil ?_;change wpList _ _ _ _ _ wr.drew;go_wp2_with (first | (refine aW rfl (aX rfl rfl rfl HKT.out) ?_));go_roundw
   case rel =>
    have hd : dM wr.drew p (.slice (some ⟨gS, 0, none⟩) S.length cS) (.slice (some ⟨bA, oA, none⟩) L.length cL) (flS S (L.take j)) L false := ⟨HRr.out.at_, HRr.out.S_, HRr.out.L_⟩;exact ⟨j + 1, by omega, by go_num, by rw [HS.out]; exact hd.ab4 hk x, HON.out.drew.setCells (.inl (.inr (.inl rfl))) _ _⟩
   case measure => simp [intOf]; omega
  ·have hjn : j = L.length := by omega
   subst hjn;have f1 := frozen_of_row wr p 1 _ _ hr.at_;have HRr := af hr;have HON := af hon;clear hr hon;have hLL : ¬((L.length : Int) < (L.length : Int)) := by omega
   go_wp2;go_ret;have hd := HRr.out.sO (aO.nil _ _);rw [List.take_length] at hd;exact ⟨rfl, hd, HON.out.setCell (.inl (.inl rfl)) _⟩
theorem nW (a b : Blk) (n : Int) (w : World) : Calls prog 130 #[blk a, blk b, .int .i64 n] w fun e w' => e = .returned (blk (qN a b n)) /\ Below w.heap.size w w' := by
 obtain ⟨hA, hB, hR, hO, hb⟩ := ajK w a b aE a;obtain ⟨w4, hw4⟩ : ∃ w4, od w a b aE a = w4 := ⟨_, rfl⟩;rw [hw4] at hA hB hR hO hb;have hA0 := World.rangeAt_alloc (World.rangeAt_alloc (b8 w (cel a) 64) (.cells (cel b).toArray 64)) (.cells (cel aE).toArray 64);have HA0 := af hA0;have HW := af hw4;have HB := af hB;have HR := af hR;clear hw4 hA hB hR hA0;go_enter func130, ntmps130;go_wp2_with (first | (refine ax rfl (bW rfl rfl) ?_) | (refine ax rfl (aV rfl) ?_) | (refine ax rfl (aU rfl rfl HA0.out) ?_) | (refine aW rfl (jL rfl rfl rfl) ?_));have hs := HW.out;unfold od at hs;rw [hs];clear hs HW;generalize hsz : w.heap.size = s at *
 go_loopw [8] (fun i wr => ∃ (j : Nat) (f : Nat -> Int), j <= 64 /\ ((j : Int) <= n \/ j = 0) /\ i = .int .i64 j /\ wr.rowIs (s + 1 + 1 + 1) 64 64 (fun j => .int .u8 (f j)) /\ (∀ m, m < 64 -> f m = if m < j then byt b m else byt a m) /\ Below (s + 1 + 1 + 1) w4 wr) (fun i _ => 64 - (intOf i).toNat)
 case atStart => exact ⟨0, byt a, by omega, .inr rfl, rfl, hO, fun m hm => rfl, ak⟩
 case round =>
  obtain ⟨j, f, hj, hjn, rfl, hrow, hf, hbl⟩ := hrel;have HF := af hf;clear hf hO;by_cases hlt : j < 64 /\ (j : Int) < n
  ·obtain ⟨h64, hn⟩ := hlt
   first
    |(exfalso; omega)
    |skip
     have hc1 := hrow.cell (i := j) (by omega);have hfr := hrow.frozen j;have hb' := cY HB (by omega) hbl j _ (fx b h64);rw [Nat.zero_add] at hb';go_wp2_with fail;go_roundw
     case rel =>
      refine ⟨j + 1, upd f j (byt b j), by omega, .inl (by omega), by go_num, yl hrow _, ?_, hbl.setCell (by simp) _⟩;intro m hm;by_cases e : m = j
      ·subst e; rw [xp, if_pos (by omega)]
      ·rw [s9 _ _ e, HF.out m hm];by_cases e2 : m < j
       ·rw [if_pos e2, if_pos (by omega)]
       ·rw [if_neg e2, if_neg (by omega)]
     case measure => simp [intOf]; omega
  ·have hr := rF (c := qN a b n) (o := 0) hrow (by omega) (fun m hm => by
    rw [Nat.zero_add, HF.out m hm, uF _ _ _ hm];by_cases e : m < j
    ·rw [if_pos e, if_pos (by omega)]
    ·rw [if_neg e, if_neg (by omega)])
   have ht := aS HR (by omega) hbl;have hex : 64 <= j \/ (j < 64 /\ n <= (j : Int)) := by omega
   have HR2 := af hr;have HT2 := af ht;clear hr ht hlt;rcases hex with h1 | ⟨h1, h2⟩
   all_goals
    go_wp2_with (first | (refine ax rfl (aU rfl rfl HR2.out) ?_) | (refine aW rfl (aX rfl rfl rfl HT2.out) ?_));refine bodyPost_ret (af6 rfl _ _ _ rfl (World.rangeAt_setCells_same _ _ _ _ (by rw [aG]; exact HT2))) rfl ⟨rfl, ?_⟩
    try rw [hsz]
    exact hb.trans (below_setCells (hbl.mono (by omega)) (by omega) _)
set_option maxRecDepth 100000 in
theorem afF (p : Nat) (vS vL : Value) (S : List Blk) (L : List (Int × Blk)) (g : Bool) (A : Option Addr) (n c : Nat) (P : List Int) (w : World) (h : dM w p vS vL S L g) (hF : Fit S L) (hP : RdE dw w w.heap.size A n P) (hN : ∀ x, A = some x -> 0 < n -> ¬ foot p vS vL x.block) :
  Calls prog 72 #[.pointer (some ⟨p, 0, none⟩), .slice A n c] w fun e w' => e = .returned (.int .i64 ((min L.length n : Nat) : Int)) /\ dM w' p vS (.slice none 0 0) (crI S L P L.length) [] g /\ Only (foot p vS vL) w w' := by
 obtain ⟨AL, cL, rfl, hl1, hl2⟩ := h.L_.form;unfold maxLen at hl2;have HH := af h;have HF := af hF;have HP := af hP;have HN := af hN;have HPL := af hP.1;clear h hF hP hN;go_enter func72, ntmps72;go_wp2_with fail
 go_loopw [5, 6, 7] (fun t i v7 wr => ∃ j : Nat, j <= L.length /\ i = .int .i64 j /\ t = .int .i64 ((min j n : Nat) : Int) /\ dM wr p vS (.slice AL L.length cL) (crI S L P j) L g /\ Only (foot p vS (.slice AL L.length cL)) w wr) (fun _ i _ _ => L.length - (intOf i).toNat)
 case atStart => exact ⟨0, Nat.zero_le _, rfl, by rw [Nat.zero_min]; rfl, HH, Only.refl _ _⟩
 case round =>
  obtain ⟨j, hj, rfl, rfl, hr, hon⟩ := hrel;obtain ⟨c0, c1, c2⟩ := cells3 hr.at_;have HB := af (HP.out.only hon aj HN);by_cases hlt : j < L.length
  ·obtain ⟨k, hqk, hk⟩ := HF.out.at_ hlt;have hlenS := m8 S L P j;have hstep : crI S L P (j + 1) = (crI S L P j).set k (qN ((crI S L P j).getD k aE) (L.getD j (0, aE)).2 (P.getD j 0)) := by rw [crI, hqk]; rfl
   obtain ⟨gS, cS, rfl⟩ := hr.S_.slice hlenS (by omega);obtain ⟨bA, oA, hAe, hAl, cA, rA⟩ := hr.L_.rd.pair hlt;obtain ⟨bS, oS, hSe, hSl, rS⟩ := hr.S_.rd.blk hk;rw [hqk] at cA;injection hSe with hSe;injection hSe with e1 e2;subst e1 e2;rw [Nat.zero_add] at rS;generalize (L.getD j (0, aE)).2 = x at *;generalize (crI S L P j).getD k aE = y at *;have HST := af hstep;have HRr := af hr;have HON := af hon;have HKT := af (show wr.there gS (k * 64) 64 from by
    have := HRr.out.S_.there hk (j := 0) (m := 64) aj;rw [Nat.add_zero] at this;exact this)
   have HFACT := af (⟨hr.at_, cA, rA, rS⟩ : _ /\ _ /\ _ /\ _);subst hAe;clear hr hon rA hqk hlenS hstep cA rS;have hLL : (j : Int) < (L.length : Int) := by omega
   have hcell : j < n -> ∃ bP oP, A = some ⟨bP, oP, none⟩ /\ wr.cell? ⟨bP, oP + j, none⟩ = some (.int .i64 (P.getD j 0)) := fun h => by
    obtain ⟨bP, oP, e, _, hc⟩ := HB.out.int h;exact ⟨bP, oP, e, hc⟩
   have hzero : ¬ j < n -> P.getD j 0 = 0 := fun h => by
    rw [List.getD, List.getElem?_eq_none (by have := HPL.out; omega)]; rfl
   generalize P.getD j 0 = z at *;have HZ := af hzero;have HCL := af hcell;clear hzero hcell;by_cases hjn : j < n
   ·obtain ⟨bP, oP, hAe, cP⟩ := HCL.out hjn;have hmin : ((min (j + 1) n : Nat) : Int) = ((min j n : Nat) : Int) + 1 := by omega
    have HMIN := af hmin;have hmn : min j n <= 9223372036854775000 \/ True := .inr trivial;have hjb : ((min j n : Nat) : Int) = (j : Int) := by omega
    rw [hjb] at HMIN;rw [hjb];have hjn' : (j : Int) < (n : Int) := by omega
    subst hAe;clear hmin hmn hjb;go_wp2_with fail;refine bk (fun w' => w'.heap[p]? = some (.cells #[.slice (some ⟨gS, 0, none⟩) S.length cS, .slice (some ⟨bA, oA, none⟩) L.length cL, .bool g] 123) /\ w'.cell? ⟨bA, oA + j * 65, none⟩ = some (.int .i64 (k : Int)) /\ w'.rangeAt bA (oA + j * 65 + 1) (cel x) /\ w'.rangeAt gS (k * 64) (cel y)) 37 (by kernel_rfl) ?_;change cu _ _ _ _ _ _ 38 _ _ wr.drew;have hS : wr.drew.heap[p]? = some (.cells #[.slice (some ⟨gS, 0, none⟩) S.length cS, .slice (some ⟨bA, oA, none⟩) L.length cL, .bool g] 123) /\ wr.drew.cell? ⟨bA, oA + j * 65, none⟩ = some (.int .i64 (k : Int)) /\ wr.drew.rangeAt bA (oA + j * 65 + 1) (cel x) /\ wr.drew.rangeAt gS (k * 64) (cel y) := HFACT.out;refine ak5 0 rfl (fun _ hw => aB rfl alb) hS ?_;refine ak5 1 rfl (fun _ hw => aM rfl alb) hS ?_;refine ak5 2 rfl (fun _ hw => av rfl alb xQ) hS ?_;refine ak5 3 rfl (fun _ hw => aA rfl alb (ldB (cells3 hw.1).1)) hS ?_;refine ak5 4 rfl (fun _ hw => aB rfl alb) hS ?_;refine ak5 5 rfl (fun _ hw => aM rfl alb) hS ?_;refine ak5 6 rfl (fun _ hw => av rfl alb qK) hS ?_;refine ak5 7 rfl (fun _ hw => aA rfl alb (sl (cells3 hw.1).2.1)) hS ?_;refine ak5 8 rfl (fun _ hw => aB rfl alb) hS ?_;refine ak5 9 rfl (fun _ hw => bH (E := gO) rfl alb alb hlt) hS ?_;refine ak5 10 rfl (fun _ hw => av rfl alb acE) hS ?_;refine ak5 11 rfl (fun _ hw => aA rfl alb (ldI hw.2.1)) hS ?_;refine ak5 12 rfl (fun _ hw => aB rfl alb) hS ?_;refine ak5 13 rfl (fun _ hw => aM rfl alb) hS ?_;refine ak5 14 rfl (fun _ hw => av rfl alb xQ) hS ?_;refine ak5 15 rfl (fun _ hw => aA rfl alb (ldB (cells3 hw.1).1)) hS ?_;refine ak5 16 rfl (fun _ hw => aB rfl alb) hS ?_;refine ak5 17 rfl (fun _ hw => aM rfl alb) hS ?_;refine ak5 18 rfl (fun _ hw => av rfl alb qK) hS ?_;refine ak5 19 rfl (fun _ hw => aA rfl alb (sl (cells3 hw.1).2.1)) hS ?_;refine ak5 20 rfl (fun _ hw => aB rfl alb) hS ?_;refine ak5 21 rfl (fun _ hw => bH (E := gO) rfl alb alb hlt) hS ?_;refine ak5 22 rfl (fun _ hw => av rfl alb acE) hS ?_;refine ak5 23 rfl (fun _ hw => aA rfl alb (ldI hw.2.1)) hS ?_;refine ak5 24 rfl (fun _ hw => eY (E := kV) rfl alb alb hk) hS ?_;refine ak5 25 rfl (fun _ hw => aU rfl alb hw.2.2.2) hS ?_;refine ak5 26 rfl (fun _ hw => aB rfl alb) hS ?_;refine ak5 27 rfl (fun _ hw => aM rfl alb) hS ?_;refine ak5 28 rfl (fun _ hw => av rfl alb qK) hS ?_;refine ak5 29 rfl (fun _ hw => aA rfl alb (sl (cells3 hw.1).2.1)) hS ?_;refine ak5 30 rfl (fun _ hw => aB rfl alb) hS ?_;refine ak5 31 rfl (fun _ hw => bH (E := gO) rfl alb alb hlt) hS ?_;refine ak5 32 rfl (fun _ hw => av rfl alb ahW) hS ?_;refine ak5 33 rfl (fun _ hw => aU rfl alb hw.2.2.1) hS ?_;refine ak5 34 rfl (fun _ hw => aB rfl alb) hS ?_;refine bT 35 rfl (by kernel_rfl) rfl (aC call130 rfl (evc alb (evc alb (evc alb evn)))) ((nW y x z wr.drew).mono ?_);rintro e w5 ⟨rfl, hb5⟩;have hS5 : w5.heap[p]? = some (.cells #[.slice (some ⟨gS, 0, none⟩) S.length cS, .slice (some ⟨bA, oA, none⟩) L.length cL, .bool g] 123) /\ w5.cell? ⟨bA, oA + j * 65, none⟩ = some (.int .i64 (k : Int)) /\ w5.rangeAt bA (oA + j * 65 + 1) (cel x) /\ w5.rangeAt gS (k * 64) (cel y) :=
     ⟨cC hS.1 hb5, (hb5.cell (p := ⟨bA, oA + j * 65, none⟩) hAl).trans hS.2.1, cY hS.2.2.1 hAl hb5, cY hS.2.2.2 hSl hb5⟩
    have hd : dM wr.drew p (.slice (some ⟨gS, 0, none⟩) S.length cS) (.slice (some ⟨bA, oA, none⟩) L.length cL) (crI S L P j) L g := ⟨HRr.out.at_, HRr.out.S_, HRr.out.L_⟩;have HD5 := af (hd.below hb5);have HO5 := af (HON.out.drew.dF hb5);have HKT5 := af (aS (w := wr.drew) HKT hSl hb5);clear hd hb5;refine ⟨_, rfl, fun _ => hS5, ?_⟩;simp only [aa];refine bh 36 rfl (by kernel_rfl) rfl (eY (E := kV) rfl alb alb hk) (fun _ => hS5) ?_;simp only [aa];refine fd 37 rfl (by kernel_rfl) rfl (aX rfl (ev rfl) (ev rfl) HKT5.out) (fun e => absurd rfl e) ?_;simp only [Act.put];refine bK (by kernel_rfl) ?_ _;go_wp2_with fail;go_roundw
    case rel => exact ⟨j + 1, by omega, by go_num, by rw [HMIN.out], by rw [HST.out]; exact HD5.out.ab4 hk _, HO5.out.setCells (.inl (.inr (.inl rfl))) _ _⟩
    case measure => simp [intOf]; omega
   ·have HMIN := af (show ((min (j + 1) n : Nat) : Int) = ((min j n : Nat) : Int) by omega);have hz0 := HZ.out hjn;subst hz0;have hjn' : ¬ (j : Int) < (n : Int) := by omega
    generalize ((min j n : Nat) : Int) = mn at *;go_wp2_with fail;refine bk (fun w' => w'.heap[p]? = some (.cells #[.slice (some ⟨gS, 0, none⟩) S.length cS, .slice (some ⟨bA, oA, none⟩) L.length cL, .bool g] 123) /\ w'.cell? ⟨bA, oA + j * 65, none⟩ = some (.int .i64 (k : Int)) /\ w'.rangeAt bA (oA + j * 65 + 1) (cel x) /\ w'.rangeAt gS (k * 64) (cel y)) 37 (by kernel_rfl) ?_;change cu _ _ _ _ _ _ 38 _ _ wr.drew;have hS : wr.drew.heap[p]? = some (.cells #[.slice (some ⟨gS, 0, none⟩) S.length cS, .slice (some ⟨bA, oA, none⟩) L.length cL, .bool g] 123) /\ wr.drew.cell? ⟨bA, oA + j * 65, none⟩ = some (.int .i64 (k : Int)) /\ wr.drew.rangeAt bA (oA + j * 65 + 1) (cel x) /\ wr.drew.rangeAt gS (k * 64) (cel y) := HFACT.out;refine ak5 0 rfl (fun _ hw => aB rfl alb) hS ?_;refine ak5 1 rfl (fun _ hw => aM rfl alb) hS ?_;refine ak5 2 rfl (fun _ hw => av rfl alb xQ) hS ?_;refine ak5 3 rfl (fun _ hw => aA rfl alb (ldB (cells3 hw.1).1)) hS ?_;refine ak5 4 rfl (fun _ hw => aB rfl alb) hS ?_;refine ak5 5 rfl (fun _ hw => aM rfl alb) hS ?_;refine ak5 6 rfl (fun _ hw => av rfl alb qK) hS ?_;refine ak5 7 rfl (fun _ hw => aA rfl alb (sl (cells3 hw.1).2.1)) hS ?_;refine ak5 8 rfl (fun _ hw => aB rfl alb) hS ?_;refine ak5 9 rfl (fun _ hw => bH (E := gO) rfl alb alb hlt) hS ?_;refine ak5 10 rfl (fun _ hw => av rfl alb acE) hS ?_;refine ak5 11 rfl (fun _ hw => aA rfl alb (ldI hw.2.1)) hS ?_;refine ak5 12 rfl (fun _ hw => aB rfl alb) hS ?_;refine ak5 13 rfl (fun _ hw => aM rfl alb) hS ?_;refine ak5 14 rfl (fun _ hw => av rfl alb xQ) hS ?_;refine ak5 15 rfl (fun _ hw => aA rfl alb (ldB (cells3 hw.1).1)) hS ?_;refine ak5 16 rfl (fun _ hw => aB rfl alb) hS ?_;refine ak5 17 rfl (fun _ hw => aM rfl alb) hS ?_;refine ak5 18 rfl (fun _ hw => av rfl alb qK) hS ?_;refine ak5 19 rfl (fun _ hw => aA rfl alb (sl (cells3 hw.1).2.1)) hS ?_;refine ak5 20 rfl (fun _ hw => aB rfl alb) hS ?_;refine ak5 21 rfl (fun _ hw => bH (E := gO) rfl alb alb hlt) hS ?_;refine ak5 22 rfl (fun _ hw => av rfl alb acE) hS ?_;refine ak5 23 rfl (fun _ hw => aA rfl alb (ldI hw.2.1)) hS ?_;refine ak5 24 rfl (fun _ hw => eY (E := kV) rfl alb alb hk) hS ?_;refine ak5 25 rfl (fun _ hw => aU rfl alb hw.2.2.2) hS ?_;refine ak5 26 rfl (fun _ hw => aB rfl alb) hS ?_;refine ak5 27 rfl (fun _ hw => aM rfl alb) hS ?_;refine ak5 28 rfl (fun _ hw => av rfl alb qK) hS ?_;refine ak5 29 rfl (fun _ hw => aA rfl alb (sl (cells3 hw.1).2.1)) hS ?_;refine ak5 30 rfl (fun _ hw => aB rfl alb) hS ?_;refine ak5 31 rfl (fun _ hw => bH (E := gO) rfl alb alb hlt) hS ?_;refine ak5 32 rfl (fun _ hw => av rfl alb ahW) hS ?_;refine ak5 33 rfl (fun _ hw => aU rfl alb hw.2.2.1) hS ?_;refine ak5 34 rfl (fun _ hw => aB rfl alb) hS ?_;refine bT 35 rfl (by kernel_rfl) rfl (aC call130 rfl (evc alb (evc alb (evc alb evn)))) ((nW y x 0 wr.drew).mono ?_);rintro e w5 ⟨rfl, hb5⟩;have hS5 : w5.heap[p]? = some (.cells #[.slice (some ⟨gS, 0, none⟩) S.length cS, .slice (some ⟨bA, oA, none⟩) L.length cL, .bool g] 123) /\ w5.cell? ⟨bA, oA + j * 65, none⟩ = some (.int .i64 (k : Int)) /\ w5.rangeAt bA (oA + j * 65 + 1) (cel x) /\ w5.rangeAt gS (k * 64) (cel y) :=
     ⟨cC hS.1 hb5, (hb5.cell (p := ⟨bA, oA + j * 65, none⟩) hAl).trans hS.2.1, cY hS.2.2.1 hAl hb5, cY hS.2.2.2 hSl hb5⟩
    have hd : dM wr.drew p (.slice (some ⟨gS, 0, none⟩) S.length cS) (.slice (some ⟨bA, oA, none⟩) L.length cL) (crI S L P j) L g := ⟨HRr.out.at_, HRr.out.S_, HRr.out.L_⟩;have HD5 := af (hd.below hb5);have HO5 := af (HON.out.drew.dF hb5);have HKT5 := af (aS (w := wr.drew) HKT hSl hb5);clear hd hb5;refine ⟨_, rfl, fun _ => hS5, ?_⟩;simp only [aa];refine bh 36 rfl (by kernel_rfl) rfl (eY (E := kV) rfl alb alb hk) (fun _ => hS5) ?_;simp only [aa];refine fd 37 rfl (by kernel_rfl) rfl (aX rfl (ev rfl) (ev rfl) HKT5.out) (fun e => absurd rfl e) ?_;simp only [Act.put];refine bK (by kernel_rfl) ?_ _;go_wp2_with fail;go_roundw
    case rel => exact ⟨j + 1, by omega, by go_num, by rw [HMIN.out], by rw [HST.out]; exact HD5.out.ab4 hk _, HO5.out.setCells (.inl (.inr (.inl rfl))) _ _⟩
    case measure => simp [intOf]; omega
  ·have hjn : j = L.length := by omega
   subst hjn;have f1 := frozen_of_row wr p 1 _ _ hr.at_;have HRr := af hr;have HON := af hon;clear hr hon;have hLL : ¬((L.length : Int) < (L.length : Int)) := by omega
   generalize hmn : ((min L.length n : Nat) : Int) = mn at *;have HMN := af hmn;clear hmn;go_wp2;go_ret;exact ⟨by rw [HMN.out]; rfl, HRr.out.sO (aO.nil _ _), HON.out.setCell (.inl (.inl rfl)) _⟩
section
variable {w : World} {p b off gg n c k i : Nat} {vL : Value} {S : List Blk} {L : List (Int × Blk)} {g : Bool}
theorem dM.r7 (h : dM w p (.slice (some ⟨gg, 0, none⟩) n c) vL S L g) (hk : k < n) (hi : i < 64) (v : UInt8) : dM (w.setCell ⟨gg, k * 64 + i, none⟩ (.int .u8 (v.toNat : Int))) p (.slice (some ⟨gg, 0, none⟩) n c) vL (S.set k ((S.getD k aE).set i v)) L g := by
 have hO : Only (fun b => b = gg) w (w.setCell ⟨gg, k * 64 + i, none⟩ (.int .u8 (v.toNat : Int))) := dt w gg _ _;refine ⟨hO.keep h.at_ (fun e => h.S_.dl h.at_ (by decide) (by rw [e]; rfl)), ?_, h.L_.only hO fun b hb e => ?_⟩
 ·refine h.S_.put hk (j := i) (vs := [.int .u8 (v.toNat : Int)]) ((S.getD k aE).set i v) ?_ (by show i + 1 <= 64; omega)
  show cel ((S.getD k aE).set i v) = (cel (S.getD k aE)).take i ++ [_] ++ (cel (S.getD k aE)).drop (i + 1)
  rw [<- yg _ hi, List.set_eq_take_append_cons_drop, if_pos (by rw [aG]; exact hi)];simp
 ·rcases h.L_.other h.S_ (by decide) with e' | e'
  ·rw [e'] at hb; cases hb
  ·exact e' (by rw [hb, e]; rfl)
end
theorem acc (p k i : Nat) (u : UInt8) (vS vL : Value) (S : List Blk) (L : List (Int × Blk)) (w : World) (h : dM w p vS vL S L false) (hk : k < S.length) (hi : i < 64) :
  Calls prog 75 #[.pointer (some ⟨p, 0, none⟩), .int .i64 k, .int .i64 i, .int .u8 (u.toNat : Int)] w fun e w' => e = .returned (.int .i64 0) /\ dM w' p vS vL (S.set k (tc (S.getD k aE) i u)) L false /\ Only (foot p vS vL) w w' := by
 obtain ⟨c0, c1, c2⟩ := cells3 h.at_;obtain ⟨gS, cS, rfl⟩ := h.S_.slice rfl (by omega);obtain ⟨bS, oS, hSe, hSl, rS⟩ := h.S_.rd.blk hk;injection hSe with hSe;injection hSe with e1 e2;subst e1 e2;obtain ⟨y, hy⟩ : ∃ y, S.getD k aE = y := ⟨_, rfl⟩;have HY := af hy;rw [hy] at rS;have hc := rS i _ (fx _ hi);rw [Nat.zero_add, gK _ hi] at hc;have hkl : (k : Int) < (S.length : Int) := by omega
 have hil : (i : Int) < 64 := by omega
 have HT := af (show w.there gS (k * 64 + i) 1 from h.S_.there hk (j := i) (m := 1) (by show i + 1 <= 64; omega));have hf : w.frozen? ⟨gS, k * 64 + i, none⟩ = false := by have := (HT.out 0 (by omega)).2; simpa using this
 have HH := af h;have HA := af c0;have HR : tc (S.getD k aE) i u = y.set i (y[i] ^^^ u) := by rw [hy]; unfold tc; rw [dif_pos hi]
 have HRR := af HR;have HC := af hc;clear h rS HR hy;go_enter func75, ntmps75;go_wp2_with fail;refine wp_region_still_tail 19 (by kernel_rfl) (by kernel_rfl) ?_;simp only [ae];refine aJ rfl (aB rfl alb) ?_;simp only [aa];refine aJ rfl (aM rfl alb) ?_;simp only [aa];refine aJ rfl (av rfl alb xQ) ?_;simp only [aa];refine aJ rfl (aA rfl alb (ldB HA)) ?_;simp only [aa]
 iterate 3 (refine aJ rfl (aB rfl alb) ?_;simp only [aa])
 refine aJ rfl (aM rfl alb) ?_;simp only [aa];refine aJ rfl (av rfl alb xQ) ?_;simp only [aa];refine aJ rfl (aA rfl alb (ldB HA)) ?_;simp only [aa];refine aJ rfl (aB rfl alb) ?_;simp only [aa];refine aJ rfl (aB rfl alb) ?_;simp only [aa];refine aJ rfl (iC rfl alb alb hk) ?_;simp only [aa];refine aJ rfl (dH rfl alb alb (oX hi)) ?_;simp only [aa];refine aJ rfl (aA rfl alb (ldU HC)) ?_;simp only [aa];refine aJ rfl (aB rfl alb) ?_;simp only [aa];refine aJ rfl (ro rfl alb alb) ?_;simp only [aa];refine aJ rfl (iC rfl alb alb hk) ?_;simp only [aa];refine aJ rfl (dH rfl alb alb (oX hi)) ?_;simp only [aa];refine wpStill_nil ?_;change wpList _ _ _ _ _ w.drew;have hcd : w.drew.cell? ⟨gS, k * 64 + i, none⟩ = some (.int .u8 (y[i].toNat : Int)) := HC.out;have hfd : w.drew.frozen? ⟨gS, k * 64 + i, none⟩ = false := hf;go_wp2_with fail;go_ret;refine ⟨rfl, ?_, (Only.refl _ w).drew.setCell (.inl (.inr (.inl rfl))) _⟩;rw [HRR.out];have hset := HH.out.r7 hk hi (y[i] ^^^ u);rw [HY.out] at hset;simp only [UInt8.toNat_xor] at hset;exact ⟨hset.at_, hset.S_, hset.L_⟩
theorem abd (p : Nat) (n i : Int) (u : UInt8) (vS vL : Value) (S : List Blk) (L : List (Int × Blk)) (g : Bool) (w : World) (h : dM w p vS vL S L g) (he : fG S g n i ≠ 0) :
  Calls prog 75 #[.pointer (some ⟨p, 0, none⟩), .int .i64 n, .int .i64 i, .int .u8 (u.toNat : Int)] w fun e w' => e = .returned (.int .i64 (fG S g n i)) /\ w = w' := by
 obtain ⟨c0, c1, c2⟩ := cells3 h.at_;obtain ⟨A, c, rfl, hc1, hc2⟩ := h.S_.form;have hor : n < 0 \/ (0 <= n /\ (S.length : Int) <= n) \/ (0 <= n /\ n < S.length /\ i < 0) \/ (0 <= n /\ n < S.length /\ 0 <= i /\ 64 <= i) \/ (0 <= n /\ n < S.length /\ 0 <= i /\ i < 64) := by omega
 rcases hor with h1 | ⟨h1, h2⟩ | ⟨h1, h2, h3⟩ | ⟨h1, h2, h3, h4⟩ | ⟨h1, h2, h3, h4⟩
 rotate_right 1
 ·cases g
  ·exact absurd (show fG S false n i = 0 by unfold fG; rw [if_pos ⟨h1, h2, h3, h4⟩]; rfl) he
  ·have HE := af (show fG S true n i = 9 by unfold fG; rw [if_pos ⟨h1, h2, h3, h4⟩]; rfl);clear he;go_enter func75, ntmps75;go_wp2;go_ret;exact ⟨br HE.out.symm, rfl⟩
 all_goals
  have HE := af (show fG S g n i = 2 by unfold fG; rw [if_neg (by omega)]);clear he;go_enter func75, ntmps75;go_wp2;go_ret;exact ⟨br HE.out.symm, rfl⟩
theorem aiZ (p : Nat) (n i : Int) (u : UInt8) (vS vL : Value) (S : List Blk) (L : List (Int × Blk)) (g : Bool) (w : World) (h : dM w p vS vL S L g) :
  Calls prog 75 #[.pointer (some ⟨p, 0, none⟩), .int .i64 n, .int .i64 i, .int .u8 (u.toNat : Int)] w fun e w' => e = .returned (.int .i64 (fG S g n i)) /\ dM w' p vS vL (j6 S g n i u) L g /\ Only (foot p vS vL) w w' := by
 by_cases he : fG S g n i = 0
 ·have hin : 0 <= n /\ n < S.length /\ 0 <= i /\ i < 64 := by
   by_cases h0 : 0 <= n /\ n < S.length /\ 0 <= i /\ i < 64
   ·exact h0
   ·unfold fG at he; rw [if_neg h0] at he; omega
  have hg : g = false := by
   cases g
   ·rfl
   ·unfold fG at he; rw [if_pos hin] at he; simp at he
  subst hg;obtain ⟨k, rfl⟩ := Int.eq_ofNat_of_zero_le hin.1;obtain ⟨j, rfl⟩ := Int.eq_ofNat_of_zero_le hin.2.2.1;have e : j6 S false k j u = S.set k (tc (S.getD k aE) j u) := by unfold j6; rw [if_pos he]; rfl
  rw [e, he];exact acc p k j u vS vL S L w h (by omega) (by omega)
 ·have e : j6 S g n i u = S := by unfold j6; rw [if_neg he]
  rw [e];exact (abd p n i u vS vL S L g w h he).mono fun e w' ⟨h1, h2⟩ => by subst h2; exact ⟨h1, h, Only.refl _ _⟩
theorem acr (k : Nat) (w : World) (h1 : 1 <= k) (h2 : k <= 512) :
  Calls prog 44 #[.int .i64 k] w fun e w' => ∃ p vS, e = .returned (.tuple #[.pointer (some ⟨p, 0, none⟩), .int .i64 0]) /\ dM w' p vS (.slice none 0 0) (List.replicate k aE) [] false /\ Below w.heap.size w w' /\ ∀ b, foot p vS (.slice none 0 0) b -> w.heap.size <= b := by
 go_enter func44, ntmps44;have HM := af (heap_alloc_new w (.cells (madeCells (cel aE).toArray (k * 64)) 64));have HB := af ((Below.refl w.heap.size w).alloc aj (.cells (madeCells (cel aE).toArray (k * 64)) 64));have HSZ := af (World.size_alloc w (.cells (madeCells (cel aE).toArray (k * 64)) 64));go_wp2_with (first | (refine ax rfl (nI (n := k) rfl rfl rfl (by omega)) ?_));generalize w.alloc (.cells (madeCells (cel aE).toArray (k * 64)) 64) = w1 at *;go_ret2;have hS : aO kV w1 0 (.slice (some ⟨w.heap.size, 0, none⟩) k k) (List.replicate k aE) := aO.of_block (E := kV) HM (by rw [<- ma]; rfl) (Nat.zero_le _) (by simp) (by unfold maxLen; omega);have hnw := heap_alloc_new w1 (.cells #[.slice (some ⟨w.heap.size, 0, none⟩) k k, .slice none 0 0, .bool false] 123);rw [HSZ.out] at hnw;refine ⟨w.heap.size + 1, _, rfl, ⟨hnw, hS.below (ak.alloc aj _), aO.nil _ _⟩, HB.out.alloc HB.out.size _, fun b hb => ?_⟩;rcases hb with rfl | hb | hb
 ·omega
 ·simp [Value.ownBlock] at hb; omega
 ·simp [Value.ownBlock] at hb
theorem adY (n : Int) (w : World) (h : ¬(1 <= n /\ n <= 512)) :
  Calls prog 44 #[.int .i64 n] w fun e w' => e = .returned (.tuple #[.pointer none, .int .i64 2]) /\ w = w' := by
 have hor : n < 1 \/ (1 <= n /\ 512 < n) := by omega
 clear h;rcases hor with h | ⟨h, h'⟩
 all_goals
  go_enter func44, ntmps44;go_wp2;go_ret2;exact ⟨rfl, rfl⟩
def Rv (w : World) (F : Nat -> Prop) (p : Nat) (S : List Blk) (L : List (Int × Blk)) (g : Bool) : Prop := ∃ vS vL, F = foot p vS vL /\ dM w p vS vL S L g /\ Fit S L
section
variable {w w' : World} {F G : Nat -> Prop} {p : Nat} {S : List Blk} {L : List (Int × Blk)} {g : Bool}
theorem Rv.lt (h : Rv w F p S L g) : ∀ b, F b -> b < w.heap.size := by
 obtain ⟨vS, vL, rfl, h, _⟩ := h;exact h.lt
theorem Rv.only (h : Rv w F p S L g) (k : Only G w w') (hn : ∀ b, F b -> ¬ G b) : Rv w' F p S L g := by
 obtain ⟨vS, vL, rfl, h, hF⟩ := h;exact ⟨vS, vL, rfl, h.only k hn, hF⟩
end
section
variable {w : World} {F : Nat -> Prop} {p : Nat} {S : List Blk} {L : List (Int × Blk)} {g : Bool}
theorem af3 (n : Int) (h : Rv w F p S L g) : Calls prog 109 #[.pointer (some ⟨p, 0, none⟩), .int .i64 n] w fun e w' => e = .returned (.tuple #[blk (gl S L g n), .int .i64 (dm S g n)]) /\ Below w.heap.size w w' := by
 obtain ⟨vS, vL, rfl, h, _⟩ := h;exact ail p vS vL S L g n w h
theorem af4 (n : Int) (h : Rv w F p S L g) : Calls prog 87 #[.pointer (some ⟨p, 0, none⟩), .int .i64 n] w fun e w' => e = .returned (.tuple #[blk (gp S g n), .int .i64 (dm S g n)]) /\ Below w.heap.size w w' := by
 obtain ⟨vS, vL, rfl, h, _⟩ := h;exact ahh p vS vL S L g n w h
theorem ad2 (n : Int) (b : Blk) (hL : L.length < 1000000) (h : Rv w F p S L g) : Calls prog 125 #[.pointer (some ⟨p, 0, none⟩), .int .i64 n, blk b] w fun e w' => e = .returned (.int .i64 (dm S g n)) /\ ∃ F', Rv w' F' p S (wrL S L g n b) g /\ Only F w w' /\ Grow w F F' := by
 obtain ⟨vS, vL, rfl, h, hF⟩ := h;refine (aeT p vS vL S L g n b w h hL).mono ?_;rintro e w' ⟨he, vL', h1, h2, h3⟩;refine ⟨he, _, ⟨vS, vL', rfl, h1, hF.wr g n b⟩, h2, fun k hk => ?_⟩;rcases hk with e | e | e
 ·exact .inl (.inl e)
 ·exact .inl (.inr (.inl e))
 ·rcases h3 k e with e | e
  ·exact .inl (.inr (.inr e))
  ·exact .inr e
theorem adx (h : Rv w F p S L g) : Calls prog 126 #[.pointer (some ⟨p, 0, none⟩)] w fun e w' => e = .returned (.int .i64 (if g = true then 9 else 0)) /\ ∃ F', Rv w' F' p (if g = true then S else flS S L) (if g = true then L else []) g /\ Only F w w' /\ Grow w F F' := by
 obtain ⟨vS, vL, rfl, h, hF⟩ := h;cases g
 ·refine (xf p vS vL S L w h hF).mono ?_;rintro e w' ⟨he, h1, h2⟩;refine ⟨he, _, ⟨vS, _, rfl, h1, Fit.nil _⟩, h2, fun k hk => ?_⟩;rcases hk with e | e | e
  ·exact .inl (.inl e)
  ·exact .inl (.inr (.inl e))
  ·simp [Value.ownBlock] at e
 ·refine (sK p vS vL S L w h).mono ?_;rintro e w' ⟨he, rfl⟩;exact ⟨he, _, ⟨vS, vL, rfl, h, hF⟩, Only.refl _ _, Grow.same _ _⟩
theorem aeW (h : Rv w F p S L g) : Calls prog 77 #[.pointer (some ⟨p, 0, none⟩)] w fun e w' => (∃ v, e = .returned v) /\ ∃ F', Rv w' F' p S [] true /\ Only F w w' /\ Grow w F F' := by
 obtain ⟨vS, vL, rfl, h, hF⟩ := h;refine (aii p vS vL S L g w h).mono ?_;rintro e w' ⟨he, h1, h2⟩;refine ⟨he, _, ⟨vS, _, rfl, h1, Fit.nil _⟩, h2, fun k hk => ?_⟩;rcases hk with e | e | e
 ·exact .inl (.inl e)
 ·exact .inl (.inr (.inl e))
 ·simp [Value.ownBlock] at e
theorem ag9 (n i : Int) (u : UInt8) (h : Rv w F p S L g) : Calls prog 75 #[.pointer (some ⟨p, 0, none⟩), .int .i64 n, .int .i64 i, .int .u8 (u.toNat : Int)] w fun e w' => e = .returned (.int .i64 (fG S g n i)) /\ ∃ F', Rv w' F' p (j6 S g n i u) L g /\ Only F w w' /\ Grow w F F' := by
 obtain ⟨vS, vL, rfl, h, hF⟩ := h;refine (aiZ p n i u vS vL S L g w h).mono ?_;rintro e w' ⟨he, h1, h2⟩;exact ⟨he, _, ⟨vS, vL, rfl, h1, hF.len (kZ _ _ _ _ _)⟩, h2, Grow.same _ _⟩
theorem ab2 {A : Option Addr} {n c : Nat} {P : List Int} (hP : RdE dw w w.heap.size A n P) (hN : ∀ x, A = some x -> 0 < n -> ¬ F x.block) (h : Rv w F p S L g) : Calls prog 72 #[.pointer (some ⟨p, 0, none⟩), .slice A n c] w fun e w' => e = .returned (.int .i64 ((min L.length n : Nat) : Int)) /\ ∃ F', Rv w' F' p (crI S L P L.length) [] g /\ Only F w w' /\ Grow w F F' := by
 obtain ⟨vS, vL, rfl, h, hF⟩ := h;refine (afF p vS vL S L g A n c P w h hF hP hN).mono ?_;rintro e w' ⟨he, h1, h2⟩;refine ⟨he, _, ⟨vS, _, rfl, h1, Fit.nil _⟩, h2, fun k hk => ?_⟩;rcases hk with e | e | e
 ·exact .inl (.inl e)
 ·exact .inl (.inr (.inl e))
 ·simp [Value.ownBlock] at e
theorem ad8 (k : Nat) (w : World) (h1 : 1 <= k) (h2 : k <= 512) : Calls prog 44 #[.int .i64 k] w fun e w' => ∃ p F, e = .returned (.tuple #[.pointer (some ⟨p, 0, none⟩), .int .i64 0]) /\ Rv w' F p (List.replicate k aE) [] false /\ Below w.heap.size w w' /\ ∀ b, F b -> w.heap.size <= b := by
 refine (acr k w h1 h2).mono ?_;rintro e w' ⟨p, vS, he, hr, hb, hf⟩;exact ⟨p, _, he, ⟨vS, _, rfl, hr, Fit.nil _⟩, hb, hf⟩
end
end Go.Proofs.YtcpbekopbeaflaaGreatDoor
