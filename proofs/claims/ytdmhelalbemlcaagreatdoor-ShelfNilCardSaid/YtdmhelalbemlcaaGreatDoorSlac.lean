import Derived.Test.YtdmhelalbemlcaaGreatDoorSlab
import Derived.Laws.CopyRow
import Derived.RangeFuncNested
import Derived.RangeFuncBound
import Derived.RangeFuncCalls
import Derived.RangeFuncLeaves
import Derived.Shelf.Abstract
import Derived.Shelf.RegionOpen
import Derived.OwnWalkIn
import Derived.TacticsInMore
import Derived.LoopNIn
import Derived.LoopIn
namespace Go.Proofs.YtdmhelalbemlcaaGreatDoor
set_option maxHeartbeats 8000000
open Go.Proofs.Tryz
open Go.RowKit
set_option linter.unusedVariables false
set_option maxRecDepth 100000
def LwE : Elt (Int × Blk) := uD 157 215 underlying157 (by kernel_rfl)
theorem ez {w : World} {b : Nat} {t : TypeId} {x y z u : Value} (h : w.heap[b]? = some (.cells #[x, y, z, u] t (0, 0))) : w.cell? ⟨b, 0, none⟩ = some x /\ w.cell? ⟨b, 1, none⟩ = some y /\ w.cell? ⟨b, 2, none⟩ = some z /\ w.cell? ⟨b, 3, none⟩ = some u := by
 refine ⟨?_, ?_, ?_, ?_⟩
 ·rw [cell_of_row w b 0 _ t (0, 0) h]; rfl
 ·rw [cell_of_row w b 1 _ t (0, 0) h]; rfl
 ·rw [cell_of_row w b 2 _ t (0, 0) h]; rfl
 ·rw [cell_of_row w b 3 _ t (0, 0) h]; rfl
structure PD (w : World) (p : Nat) (vS vL : Value) (S : List Blk) (L : List (Int × Blk)) (g : Bool) : Prop where
 at_ : w.heap[p]? = some (.cells #[.int .i64 (S.length : Int), vS, vL, .bool g] 159)
 one : 1 <= S.length
 S_ : aP gv w 0 vS (if g = true then [] else S)
 L_ : aP LwE w 0 vL L
 dead : g = true -> L = []
section
variable {w w' : World} {p : Nat} {vS vL : Value} {S : List Blk} {L : List (Int × Blk)} {g : Bool} {F : Nat -> Prop}
theorem PD.lt (h : PD w p vS vL S L g) : ∀ k, foot p vS vL k -> k < w.heap.size := by
 intro k hk;rcases hk with rfl | hk | hk
 ·exact (Array.getElem?_eq_some_iff.1 h.at_).1
 ·exact h.S_.kb k hk
 ·exact h.L_.kb k hk
theorem PD.only (h : PD w p vS vL S L g) (k : Only F w w') (hn : ∀ b, foot p vS vL b -> ¬ F b) : PD w' p vS vL S L g :=
 ⟨k.keep h.at_ (hn p (.inl rfl)), h.one, h.S_.only k fun b hb => hn b (.inr (.inl hb)), h.L_.only k fun b hb => hn b (.inr (.inr hb)), h.dead⟩
theorem PD.below (h : PD w p vS vL S L g) (k : Below w.heap.size w w') : PD w' p vS vL S L g := h.only (Only.of_below (fun _ => False) k) fun _ _ e => e
theorem PD.alive (h : PD w p vS vL S L false) : aP gv w 0 vS S := h.S_
end
theorem kH (p : Nat) (vS vL : Value) (S : List Blk) (L : List (Int × Blk)) (g : Bool) (w : World) (h : PD w p vS vL S L g) :
  Calls prog 109 #[.pointer (some ⟨p, 0, none⟩)] w fun e w' => e = .returned (.bool true) /\ w = w' := by
 obtain ⟨c0, c1, c2, c3⟩ := ez h.at_;have h1 : 0 < S.length := h.one;go_enter func109, ntmps109;go_wp2;go_ret;exact ⟨rfl, rfl⟩
theorem abR (p : Nat) (vS vL : Value) (S : List Blk) (L : List (Int × Blk)) (g : Bool) (n : Int) (w : World) (h : PD w p vS vL S L g) :
  Calls prog 200 #[.pointer (some ⟨p, 0, none⟩), .int .i64 n] w fun e w' => e = .returned (.bool (decide (0 <= n /\ n < S.length))) /\ w = w' := by
 obtain ⟨c0, c1, c2, c3⟩ := ez h.at_;by_cases h0 : 0 <= n
 ·by_cases h1 : n < S.length
  ·have HD := ae (ao (p := 0 <= n /\ n < S.length) ⟨h0, h1⟩);go_enter func200, ntmps200;go_wp2;go_ret;exact ⟨br HD.out.symm, rfl⟩
  ·have HD := ae (am (p := 0 <= n /\ n < S.length) (fun e => h1 e.2));go_enter func200, ntmps200;go_wp2;go_ret;exact ⟨br (am (by omega)).symm, rfl⟩
 ·have HD := ae (am (p := 0 <= n /\ n < S.length) (fun e => h0 e.1));go_enter func200, ntmps200;go_wp2;go_ret;exact ⟨br (by have e : decide (0 <= n) = false := am (by omega); rw [e]; rfl), rfl⟩
theorem fY (p : Nat) (vS vL : Value) (S : List Blk) (L : List (Int × Blk)) (g : Bool) (n : Int) (w : World) (h : PD w p vS vL S L g) :
  Calls prog 185 #[.pointer (some ⟨p, 0, none⟩), .int .i64 n] w fun e w' => e = .returned (.int .i64 (dk S g n)) /\ w = w' := by
 obtain ⟨c0, c1, c2, c3⟩ := ez h.at_;by_cases h1 : 0 <= n /\ n < S.length
 ·have HD := ae (ao h1);cases g
  ·have HE := ae (ld h1);clear h1;go_enter func185, ntmps185;go_wp2_with fail;refine (kH p vS vL S L false w h).mono ?_;rintro e w1 ⟨rfl, rfl⟩;go_wp2_with fail;refine (abR p vS vL S L false n w h).mono ?_;rintro e w1 ⟨rfl, rfl⟩;rw [HD.out];go_wp2_with fail;go_ret;exact ⟨cg HE.out.symm, rfl⟩
  ·have HE := ae (qF h1);clear h1;go_enter func185, ntmps185;go_wp2_with fail;refine (kH p vS vL S L true w h).mono ?_;rintro e w1 ⟨rfl, rfl⟩;go_wp2_with fail;refine (abR p vS vL S L true n w h).mono ?_;rintro e w1 ⟨rfl, rfl⟩;rw [HD.out];go_wp2_with fail;go_ret;exact ⟨cg HE.out.symm, rfl⟩
 ·have HD := ae (am h1);have HE := ae (oR g h1);clear h1;go_enter func185, ntmps185;go_wp2_with fail;refine (kH p vS vL S L g w h).mono ?_;rintro e w1 ⟨rfl, rfl⟩;go_wp2_with fail;refine (abR p vS vL S L g n w h).mono ?_;rintro e w1 ⟨rfl, rfl⟩;rw [HD.out];go_wp2_with fail;go_ret;exact ⟨cg HE.out.symm, rfl⟩
theorem aaI (p : Nat) (vS vL : Value) (S : List Blk) (L : List (Int × Blk)) (g : Bool) (w : World) (h : PD w p vS vL S L g) :
  Calls prog 180 #[.pointer (some ⟨p, 0, none⟩)] w fun e w' => e = .returned (.int .i64 (S.length : Int)) /\ w = w' := by
 obtain ⟨c0, c1, c2, c3⟩ := ez h.at_;go_enter func180, ntmps180;go_wp2_with fail;refine (kH p vS vL S L g w h).mono ?_;rintro e w1 ⟨rfl, rfl⟩;go_wp2_with fail;go_ret;exact ⟨rfl, rfl⟩
theorem ahW (p : Nat) (vS vL : Value) (S : List Blk) (L : List (Int × Blk)) (g : Bool) (w : World) (h : PD w p vS vL S L g) :
  Calls prog 225 #[.pointer (some ⟨p, 0, none⟩)] w fun e w' => e = .returned (.bool g) /\ w = w' := by
 obtain ⟨c0, c1, c2, c3⟩ := ez h.at_;go_enter func225, ntmps225;go_wp2_with fail;refine (kH p vS vL S L g w h).mono ?_;rintro e w1 ⟨rfl, rfl⟩;go_wp2_with fail;go_ret;exact ⟨rfl, rfl⟩
theorem ag5 (p : Nat) (vS vL : Value) (S : List Blk) (L : List (Int × Blk)) (g : Bool) (n : Int) (w : World) (h : PD w p vS vL S L g) :
  Calls prog 142 #[.pointer (some ⟨p, 0, none⟩), .int .i64 n] w fun e w' => e = .returned (.tuple #[blk (kq S g n), .int .i64 (dk S g n)]) /\ Below w.heap.size w w' := by
 have hA := (Below.refl w.heap.size w).alloc aj (.cells (cel aD).toArray 45);have h1 := h.below hA;have HT := ae (dS w aD 45);have HA := ae hA;clear hA;rcases eY (S := S) (g := g) (n := n) with he | he | ⟨he, rfl, k, rfl, hk⟩
 ·have HS := ae (tM (S := S) (g := g) (n := n) (by omega));have HE := ae he;clear he;go_enter func142, ntmps142;go_wp2_with (first | (refine ay rfl (aU rfl) ?_) | fail);refine (fY p vS vL S L g n _ h1).mono ?_;rintro e w1 ⟨rfl, rfl⟩;rw [HE.out];go_wp2_with (first | (refine ay rfl (cC (c := aD) (parts := []) rfl rfl) ?_) | (refine bi rfl (aS rfl rfl rfl HT.out) ?_));refine bodyPost_ret (bZ rfl _ _ _ rfl (World.rangeAt_setCells_same _ _ _ _ (by rw [aJ]; exact HT))) rfl ⟨by rw [HS.out, HE.out]; rfl, below_setCells HA aj _⟩
 ·have HS := ae (tM (S := S) (g := g) (n := n) (by omega));have HE := ae he;clear he;go_enter func142, ntmps142;go_wp2_with (first | (refine ay rfl (aU rfl) ?_) | fail);refine (fY p vS vL S L g n _ h1).mono ?_;rintro e w1 ⟨rfl, rfl⟩;rw [HE.out];go_wp2_with (first | (refine ay rfl (cC (c := aD) (parts := []) rfl rfl) ?_) | (refine bi rfl (aS rfl rfl rfl HT.out) ?_));refine bodyPost_ret (bZ rfl _ _ _ rfl (World.rangeAt_setCells_same _ _ _ _ (by rw [aJ]; exact HT))) rfl ⟨by rw [HS.out, HE.out]; rfl, below_setCells HA aj _⟩
 ·have HS := ae (abY he);have HE := ae he;clear he;obtain ⟨A, c, rfl, hrd, hc1, hc2⟩ := h1.alive.open_ rfl;obtain ⟨b, off, rfl, hb, hr⟩ := hrd.blk hk;obtain ⟨c0, c1, c2, c3⟩ := ez h1.at_;generalize S.getD k aD = x at *;have HR := ae hr;clear hr hrd;go_enter func142, ntmps142;go_wp2_with (first | (refine ay rfl (aU rfl) ?_) | fail);refine (fY p _ vL S L false k _ h1).mono ?_;rintro e w1 ⟨rfl, rfl⟩;rw [HE.out];go_wp2_with (first | (refine ay rfl (aW rfl rfl HR.out) ?_) | (refine bi rfl (aS rfl rfl rfl HT.out) ?_));refine bodyPost_ret (bZ rfl _ _ _ rfl (World.rangeAt_setCells_same _ _ _ _ (by rw [aJ]; exact HT))) rfl ⟨by rw [HS.out, HE.out]; rfl, below_setCells HA aj _⟩
section
variable {w w' : World} {p : Nat} {vS vL : Value} {S : List Blk} {L : List (Int × Blk)} {g : Bool}
theorem yd (hp : w.heap[p]? = some (.cells #[.int .i64 (S.length : Int), vS, vL, .bool g] 159)) (h1 : 1 <= S.length) (hS : aP gv w 0 vS (if g = true then [] else S)) {vL' : Value} {L' : List (Int × Blk)} (h' : aP LwE w 0 vL' L') (hd : g = true -> L' = []) : PD (w.setCell ⟨p, 2, none⟩ vL') p vS vL' S L' g := by
 have hO := eh w p 2 vL';refine ⟨?_, h1, hS.only hO fun b hb e => hS.dN hp (by decide) (by rw [hb, e]), h'.only hO fun b hb e => h'.dN hp (by decide) (by rw [hb, e]), hd⟩;have := heap_setCell_same w p 2 _ _ vL' hp
 simpa using this
theorem PD.dn (h : PD w p vS vL S L g) {vL' : Value} {L' : List (Int × Blk)} (h' : aP LwE w 0 vL' L') (hd : g = true -> L' = []) : PD (w.setCell ⟨p, 2, none⟩ vL') p vS vL' S L' g := yd h.at_ h.one h.S_ h' hd
theorem aiL {b : Nat} : (Instr.fieldAt 159 (.pointer (some ⟨b, 0, none⟩)) 1).run prog w = .ok (.pointer (some ⟨b, 1, none⟩)) w := by kernel_rfl
theorem agD {b : Nat} : (Instr.fieldAt 159 (.pointer (some ⟨b, 0, none⟩)) 2).run prog w = .ok (.pointer (some ⟨b, 2, none⟩)) w := by kernel_rfl
theorem ahc {b off : Nat} : (Instr.fieldAt 215 (.pointer (some ⟨b, off, none⟩)) 0).run prog w = .ok (.pointer (some ⟨b, off, none⟩)) w := by kernel_rfl
theorem aiu {b off : Nat} : (Instr.fieldAt 215 (.pointer (some ⟨b, off, none⟩)) 1).run prog w = .ok (.pointer (some ⟨b, off + 1, none⟩)) w := by kernel_rfl
theorem ldP {a : Addr} {A : Option Addr} {n c : Nat} (h : w.cell? a = some (.slice A n c)) : (Instr.loadAt 157 (.pointer (some a))).run prog w = .ok (.slice A n c) w := by simp [go_sem, h]
theorem stP {a : Addr} {v : Value} {A : Option Addr} {n c : Nat} (h : w.cell? a = some v) (hf : w.frozen? a = false) : (Instr.storeAt 157 (.pointer (some a)) (.slice A n c)).run prog w = .ok () (w.setCell a (.slice A n c)) := by simp [go_sem, h, hf]
theorem xB (k : Int) (b : Blk) : (Instr.build 215 #[(0, .int .i64 k), (1, blk b)]).run prog w = .ok (iO k b) w := by
 have hz := la LwE w;have h1 := da (place := fun i => (#[(0, 1), (1, 64)] : Array (Nat × Nat))[i]?) (i := 0) (off := 0) (size := 1) (v := .int .i64 k) (pre := []) (mid := [.int .i64 0]) (post := cel aD) (vs := [.int .i64 k]) (rest := [(1, blk b)]) rfl rfl rfl rfl rfl;have h2 := da (place := fun i => (#[(0, 1), (1, 64)] : Array (Nat × Nat))[i]?) (i := 1) (off := 1) (size := 64) (v := blk b) (pre := [.int .i64 k]) (mid := cel aD) (post := []) (vs := cel b) (rest := []) rfl rfl (aJ b) rfl (aJ aD);simp only [List.nil_append, List.append_nil, List.singleton_append] at h1 h2;have h3 := h1.trans h2;have hz' : (zeroValue 215).run prog w = .ok (iO 0 aD) w := hz;have hc : (iO 0 aD).cells = (.int .i64 0 :: cel aD).toArray := rfl;simp only [Instr.build, Sem.run_bind, hz', run_underlying underlying215, Result.andThen_ok, hc];refine Eq.trans (congrArg (fun r => Result.andThen r _) (?h : _ = Result.ok #[(0, 1), (1, 64)] w)) ?_
 case h => kernel_rfl
 simp only [Result.andThen_ok];have h4 : Instr.fill (fun i => (#[(0, 1), (1, 64)] : Array (Nat × Nat))[i]?) (.int .i64 k :: cel b).toArray [] = some (.int .i64 k :: cel b).toArray := by rw [Instr.fill]
 rw [h3.trans h4]
 rfl
theorem ti {ρ : Operand -> Value} {o : Oper} {x y : Operand} {k : Int} {b : Blk} (ho : o.op = .build 215 #[(0, x), (1, y)]) (hx : ρ x = .int .i64 k) (hy : ρ y = blk b) : (execOp ρ o).run prog w = .ok (.value (iO k b)) w := by
 have h := xB (w := w) k b;unfold execOp;simp only [ho, List.map_toArray, List.map_cons, List.map_nil, hx, hy, Sem.run_bind, h, Result.andThen_ok, Sem.run_pure]
theorem uS (k : Int) (b : Blk) : (iO k b).cells = (LwE.cel (k, b)).toArray := rfl
end
theorem ahq (p : Nat) (vS vL : Value) (S : List Blk) (L : List (Int × Blk)) (g : Bool) (w : World) (h : PD w p vS vL S L g) :
  Calls prog 54 #[.pointer (some ⟨p, 0, none⟩)] w fun e w' => e = .returned (.int .i64 0) /\ PD w' p (.slice none 0 0) (.slice none 0 0) S [] true /\ Only (foot p vS vL) w w' := by
 obtain ⟨c0, c1, c2, c3⟩ := ez h.at_;have f0 := frozen_of_row w p 0 _ _ h.at_;have f1 := frozen_of_row w p 1 _ _ h.at_;have f2 := frozen_of_row w p 2 _ _ h.at_;have f3 := frozen_of_row w p 3 _ _ h.at_;have H := ae h;clear h;go_enter func54, ntmps54;go_wp2_with fail;refine (kH p vS vL S L g w H).mono ?_;rintro e w1 ⟨rfl, rfl⟩;go_wp2_with fail;go_ret;refine ⟨rfl, ⟨?_, H.out.one, aP.nil _ _, aP.nil _ _, fun _ => rfl⟩, ?_⟩
 ·have h0 := H.out.at_;have h1 := heap_setCell_same w p 0 _ _ (.int .i64 (S.length : Int)) h0;have h2 := heap_setCell_same _ p 1 _ _ (.slice none 0 0) h1;have h3 := heap_setCell_same _ p 2 _ _ (.slice none 0 0) h2;have h4 := heap_setCell_same _ p 3 _ _ (.bool true) h3
  simpa using h4
 ·have hO : Only (fun b => b = p) w w := Only.refl _ _;exact ((((hO.setCell (p := ⟨p, 0, none⟩) (.inl rfl) _).setCell (p := ⟨p, 1, none⟩) (.inl rfl) _).setCell (p := ⟨p, 2, none⟩) (.inl rfl) _).setCell (p := ⟨p, 3, none⟩) (.inl rfl) _).widen fun b hb => .inl hb
theorem xz (p : Nat) (vS vL : Value) (S : List Blk) (L : List (Int × Blk)) (g : Bool) (n : Int) (b : Blk) (w : World) (h : PD w p vS vL S L g) (he0 : dk S g n ≠ 0) :
  Calls prog 145 #[.pointer (some ⟨p, 0, none⟩), .int .i64 n, blk b] w fun e w' => e = .returned (.int .i64 (dk S g n)) /\ Below w.heap.size w w' := by
 have hA := (Below.refl w.heap.size w).alloc aj (.cells (cel b).toArray 45);have h1 := h.below hA;have HA := ae hA;clear hA;have H0 := ae he0;rcases eY (S := S) (g := g) (n := n) with he | he | ⟨he, _⟩
 rotate_right 1
 ·exact absurd he he0
 all_goals
  have HE := ae he;clear he he0;go_enter func145, ntmps145;go_wp2_with (first | (refine ay rfl (cd rfl rfl) ?_) | fail);refine (fY p vS vL S L g n _ h1).mono ?_;rintro e w1 ⟨rfl, rfl⟩;rw [HE.out];go_wp2_with fail;go_ret;exact ⟨cg HE.out.symm, HA⟩
theorem vY (p k : Nat) (vS vL : Value) (S : List Blk) (L : List (Int × Blk)) (b : Blk) (w : World) (h : PD w p vS vL S L false) (hk : k < S.length) (hL : L.length < 1000000) :
  Calls prog 145 #[.pointer (some ⟨p, 0, none⟩), .int .i64 k, blk b] w fun e w' => e = .returned (.int .i64 0) /\ ∃ vL', PD w' p vS vL' S (L ++ [((k : Int), b)]) false /\ Only (foot p vS vL) w w' /\ (∀ x, vL'.ownBlock = some x -> vL.ownBlock = some x \/ w.heap.size <= x) := by
 have hA := (Below.refl w.heap.size w).alloc aj (.cells (cel b).toArray 45);have h1 := h.below hA;have HA := ae hA;have HE := ae (ld (S := S) (n := (k : Int)) (by omega));have HB := ae (jX w (cel b).toArray 45);clear hA;obtain ⟨AL, cL, rfl, hl1, hl2⟩ := h1.L_.form;go_enter func145, ntmps145;go_wp2_with (first | (refine ay rfl (cd rfl rfl) ?_) | fail);refine (fY p vS _ S L false k _ h1).mono ?_;rintro e w1 ⟨rfl, rfl⟩;rw [HE.out];go_wp2_with fail;generalize hy : w.heap.size = y at *;generalize w.alloc (.cells (cel b).toArray 45) = w1 at *;refine ko (fun w' => w'.heap[p]? = some (.cells #[.int .i64 (S.length : Int), vS, .slice AL L.length cL, .bool false] 159) /\ w'.heap[y]? = some (.cells (cel b).toArray 45)) 12 (by kernel_rfl) ?_;change fk _ _ _ _ _ _ 13 _ _ w1.drew;have hS : w1.drew.heap[p]? = some (.cells #[.int .i64 (S.length : Int), vS, .slice AL L.length cL, .bool false] 159) /\ w1.drew.heap[y]? = some (.cells (cel b).toArray 45) := ⟨h1.at_, HB⟩;refine aky 0 rfl (fun _ hw => aM rfl akE) hS ?_;refine aky 1 rfl (fun _ hw => aM rfl akE) hS ?_;refine aky 2 rfl (fun _ hw => bf rfl akE) hS ?_;refine aky 3 rfl (fun _ hw => ax rfl akE agD) hS ?_;refine aky 4 rfl (fun _ hw => aC rfl akE (ldP (ez hw.1).2.2.1)) hS ?_;refine aky 5 rfl (fun _ hw => aM rfl akE) hS ?_;refine aky 6 rfl (fun _ hw => aW rfl akE (jm hw.2)) hS ?_;refine aky 7 rfl (fun _ hw => ti rfl akE akE) hS ?_;have hr : PD w1.drew p vS (.slice AL L.length cL) S L false := ⟨h1.at_, h1.one, h1.S_, h1.L_, h1.dead⟩;have hS2 : PD (w1.drew.alloc (.cells (LwE.cel ((k : Int), b)).toArray LwE.t)) p vS (.slice AL L.length cL) S L false := hr.below (ak.alloc aj _);have hb2 := bz hS.2 (.cells (LwE.cel ((k : Int), b)).toArray LwE.t);have hnew : RdE LwE _ _ _ 1 _ := fg (E := LwE) (l := [((k : Int), b)]) w1.drew (LwE.cel ((k : Int), b)).toArray LwE.t (by rw [eB]; simp [cv]);obtain ⟨v3, w3, hrun, hm3, hg3, ho3⟩ := gR LwE _ 157 0 _ 1 1 _ _ _ _ hS2.L_ hnew (Nat.zero_le _) (by omega);have hO2 : Only (foot p vS (.slice AL L.length cL)) w (w1.drew.alloc (.cells (LwE.cel ((k : Int), b)).toArray LwE.t)) := (Only.of_below _ (hy ▸ HA.out)).drew.alloc _;have hO3 := hO2.grown hg3 (fun x hx => .inl (.inr (.inr hx)));have hp3 : w3.heap[p]? = some (.cells #[.int .i64 (S.length : Int), vS, .slice AL L.length cL, .bool false] 159) := (hg3.block p (aV hS2.at_) (fun e => hS2.L_.dN hS2.at_ (by decide) e.symm)).trans hS2.at_;have hy3 : w3.heap[y]? = some (.cells (cel b).toArray 45) := (hg3.block y (aV hb2) (fun e => hS2.L_.dN hb2 (by decide) e.symm)).trans hb2;have hSS3 := hS2.S_.kept hg3 (hS2.S_.other hS2.L_ (by decide));refine fM 8 rfl (by kernel_rfl) rfl (du (E := LwE) (a := ((k : Int), b)) rfl akE (uS _ _) (by decide)) (fun _ => ⟨hS2.at_, hb2⟩) ?_;simp only [aa];refine fM 9 rfl (by kernel_rfl) rfl (fN (E := LwE) rfl akE akE hrun) (fun _ => ⟨hp3, hy3⟩) ?_;simp only [aa];refine fM 10 rfl (by kernel_rfl) rfl (bf rfl akE) (fun _ => ⟨hp3, hy3⟩) ?_;simp only [aa];refine fM 11 rfl (by kernel_rfl) rfl (ax rfl akE agD) (fun _ => ⟨hp3, hy3⟩) ?_;simp only [aa];obtain ⟨A3, c3, rfl, _, _⟩ := hm3.form;refine tL 12 rfl (by kernel_rfl) rfl (cZ rfl (ev rfl) (ev rfl) (stP (ez hp3).2.2.1 (frozen_of_row _ _ _ _ _ hp3))) (fun e => absurd rfl e) ?_;simp only [Act.put];refine nu (by kernel_rfl) ?_ _;go_wp2_with fail;go_ret;refine ⟨rfl, _, yd hp3 h1.one hSS3 hm3 (fun e => absurd e (by decide)), hO3.setCell (.inl (.inl rfl)) _, fun x hx => ?_⟩;rcases ho3 x hx with e | e
 ·exact .inl e
 ·refine .inr (aq ?_ e);have := hO2.size;omega
theorem ad5 (p : Nat) (vS vL : Value) (S : List Blk) (L : List (Int × Blk)) (g : Bool) (n : Int) (b : Blk) (w : World) (h : PD w p vS vL S L g) (hL : L.length < 1000000) :
  Calls prog 145 #[.pointer (some ⟨p, 0, none⟩), .int .i64 n, blk b] w fun e w' => e = .returned (.int .i64 (dk S g n)) /\ ∃ vL', PD w' p vS vL' S (wrL S L g n b) g /\ Only (foot p vS vL) w w' /\ (∀ x, vL'.ownBlock = some x -> vL.ownBlock = some x \/ w.heap.size <= x) := by
 by_cases he : dk S g n = 0
 ·rcases eY (S := S) (g := g) (n := n) with h1 | h1 | ⟨_, rfl, k, rfl, hk⟩
  ·omega
  ·omega
  ·have e : wrL S L false k b = L ++ [((k : Int), b)] := by unfold wrL; rw [if_pos he]
   rw [e, he];exact vY p k vS vL S L b w h hk hL
 ·have e : wrL S L g n b = L := by unfold wrL; rw [if_neg he]
  rw [e];exact (xz p vS vL S L g n b w h he).mono fun e w' ⟨h1, h2⟩ => ⟨h1, vL, h.below h2, Only.of_below _ h2, fun x hx => .inl hx⟩
theorem akg : ∃ d, prog.underlying LwE.t = some d /\ d.isRow = true := ⟨_, underlying215, rfl⟩
section
variable {ρ : Operand -> Value} {o : Oper} {x y : Operand} {w : World} {b off : Nat} {a : Int × Blk}
theorem oM (ho : o.op = .load LwE.t x) (hx : ρ x = .pointer (some ⟨b, off, none⟩)) (hc : w.rangeAt b off (fh a)) : (execOp ρ o).run prog w = .ok (.value (.agg (fh a).toArray)) w := by
 obtain ⟨d, h1, h2⟩ := akg;exact wO (E := LwE) h1 h2 ho hx hc
theorem nr (ho : o.op = .alloc LwE.t) : (execOp ρ o).run prog w = .ok (.value (.pointer (some ⟨w.heap.size, 0, none⟩))) (w.alloc (.cells LwE.z.cells LwE.t)) := sY (E := LwE) ho
theorem qk (ho : o.op = .store LwE.t x y) (hx : ρ x = .pointer (some ⟨w.heap.size, 0, none⟩)) (hy : ρ y = .agg (fh a).toArray) : (execOp ρ o).run prog (w.alloc (.cells LwE.z.cells LwE.t)) = .ok .skip (w.alloc (.cells (fh a).toArray LwE.t)) := wX (E := LwE) ho hx hy
end
section
variable {w w' : World} {p gg n c k : Nat} {vL : Value} {S : List Blk} {L : List (Int × Blk)}
theorem PD.gG (h : PD w p (.slice (some ⟨gg, 0, none⟩) n c) vL S L false) (hk : k < n) (x : Blk) : PD (w.setCells gg (k * 64) (cel x)) p (.slice (some ⟨gg, 0, none⟩) n c) vL (S.set k x) L false := by
 have hO : Only (fun b => b = gg) w (w.setCells gg (k * 64) (cel x)) := (Only.refl (fun b => b = gg) w).setCells (.inl rfl) _ _;refine ⟨?_, by rw [List.length_set]; exact h.one, h.alive.store hk x, h.L_.only hO fun b hb e => ?_, fun e => absurd e (by decide)⟩
 ·rw [List.length_set];exact hO.keep h.at_ (fun e => h.S_.dN h.at_ (by decide) (by rw [e]; rfl))
 ·rcases h.L_.other h.S_ (by decide) with e' | e'
  ·rw [e'] at hb; cases hb
  ·exact e' (by rw [hb, e]; rfl)
end
theorem sa (p : Nat) (vS vL : Value) (S : List Blk) (L : List (Int × Blk)) (w : World) (h : PD w p vS vL S L true) :
  Calls prog 226 #[.pointer (some ⟨p, 0, none⟩)] w fun e w' => e = .returned (.int .i64 9) /\ w = w' := by
 obtain ⟨c0, c1, c2, c3⟩ := ez h.at_;go_enter func226, ntmps226;go_wp2_with fail;refine (kH p vS vL S L true w h).mono ?_;rintro e w1 ⟨rfl, rfl⟩;go_wp2_with fail;go_ret;exact ⟨rfl, rfl⟩
theorem vH (p : Nat) (vS vL : Value) (S : List Blk) (L : List (Int × Blk)) (w : World) (h : PD w p vS vL S L false) (hF : Fit S L) :
  Calls prog 226 #[.pointer (some ⟨p, 0, none⟩)] w fun e w' => e = .returned (.int .i64 0) /\ PD w' p vS (.slice none 0 0) (flS S L) [] false /\ Only (foot p vS vL) w w' := by
 obtain ⟨c0, c1, c2, c3⟩ := ez h.at_;obtain ⟨AL, cL, rfl, hl1, hl2⟩ := h.L_.form;unfold maxLen at hl2;have HH := ae h;have HF := ae hF;clear h hF;go_enter func226, ntmps226;go_wp2_with fail;refine (kH p vS _ S L false w HH).mono ?_;rintro e w1 ⟨rfl, rfl⟩;go_wp2_with fail;clear c0 c1 c2 c3
 go_loopw [4, 17] (fun v4 i wr => ∃ j : Nat, j <= L.length /\ i = .int .i64 j /\ PD wr p vS (.slice AL L.length cL) (flS S (L.take j)) L false /\ Only (foot p vS (.slice AL L.length cL)) w wr) (fun _ i _ => L.length - (intOf i).toNat)
 case atStart => exact ⟨0, Nat.zero_le _, rfl, HH, Only.refl _ _⟩
 case round =>
  obtain ⟨j, hj, rfl, hr, hon⟩ := hrel;by_cases hlt : j < L.length
  ·obtain ⟨k, hqk, hk⟩ := HF.out.at_ hlt;have hlenS := nU S (L.take j);obtain ⟨gS, cS, rfl⟩ := hr.alive.slice hlenS (by omega);obtain ⟨bA, oA, hAe, hAl, rA⟩ := hr.L_.rd.pairs hlt;have HS := ae (vk (S := S) hlt);rw [hqk] at HS;generalize hq : L.getD j (0, aD) = q at *;obtain ⟨q1, x⟩ := q;obtain rfl : q1 = (k : Int) := hqk;clear hq;have h1 := hr.below (ak.alloc aj (.cells (fh ((k : Int), x)).toArray LwE.t));have HON := ae (hon.alloc (.cells (fh ((k : Int), x)).toArray LwE.t));have hnw := adg wr ((k : Int), x) LwE.t;have HRA := ae rA;subst hAe;clear rA hr hon;have hLL : (j : Int) < (L.length : Int) := by omega
   go_wp2_with (first | (refine ay rfl (cu (E := LwE) rfl rfl rfl hlt) ?_) | (refine ay rfl (oM rfl rfl HRA.out) ?_) | (refine ay rfl (nr rfl) ?_) | (refine bi rfl (qk rfl rfl rfl) ?_) | fail);generalize hy : wr.heap.size = y at *;generalize wr.alloc (.cells (fh ((k : Int), x)).toArray LwE.t) = w1 at *;obtain ⟨c0, c1, c2, c3⟩ := ez h1.at_;have HA := ae c1;have HN := ae hnw;have H1 := ae h1;have HKT := ae (show w1.there gS (k * 64) 64 from by
    have := H1.out.alive.there hk (j := 0) (m := 64) aj;rw [Nat.add_zero] at this;exact this)
   clear c0 c1 c2 c3 hnw h1 hlenS;refine wp_region_still_tail 9 (by kernel_rfl) (by kernel_rfl) ?_;simp only [ac];refine aK rfl (aM rfl akE) ?_;simp only [aa];refine aK rfl (bf rfl akE) ?_;simp only [aa];refine aK rfl (ax rfl akE aiL) ?_;simp only [aa];refine aK rfl (aC rfl akE (ldB HA)) ?_;simp only [aa];refine aK rfl (ax rfl akE ahc) ?_;simp only [aa];refine aK rfl (aC rfl akE (ldI HN.out.1)) ?_;simp only [aa];refine aK rfl (ax rfl akE aiu) ?_;simp only [aa];refine aK rfl (aW rfl akE HN.out.2) ?_;simp only [aa];refine aK rfl (kD (E := gv) rfl akE akE hk) ?_;simp only [aa];refine wpStill_nil ?_;change wpList _ _ _ _ _ w1.drew;go_wp2_with (first | (refine bi rfl (aS rfl rfl rfl HKT.out) ?_) | fail);go_roundw
   case rel =>
    have hd : PD w1.drew p (.slice (some ⟨gS, 0, none⟩) S.length cS) (.slice (some ⟨bA, oA, none⟩) L.length cL) (flS S (L.take j)) L false := ⟨H1.out.at_, H1.out.one, H1.out.S_, H1.out.L_, H1.out.dead⟩;exact ⟨j + 1, by omega, by go_num, by rw [HS.out]; exact hd.gG hk x, HON.out.drew.setCells (.inl (.inr (.inl rfl))) _ _⟩
   case measure => simp [intOf]; omega
  ·have hjn : j = L.length := by omega
   subst hjn;obtain ⟨c0, c1, c2, c3⟩ := ez hr.at_;have f2 := frozen_of_row wr p 2 _ _ hr.at_;have HRr := ae hr;have HON := ae hon;clear hr hon;have hLL : ¬((L.length : Int) < (L.length : Int)) := by omega
   go_wp2_with fail;go_ret;have hd := HRr.out.dn (aP.nil _ _) (fun _ => rfl);rw [List.take_length] at hd;exact ⟨rfl, hd, HON.out.setCell (.inl (.inl rfl)) _⟩
theorem acS (k : Nat) (w : World) (h1 : 1 <= k) (h2 : k <= 512) :
  Calls prog 72 #[.int .i64 k] w fun e w' => ∃ p vS, e = .returned (.tuple #[.pointer (some ⟨p, 0, none⟩), .int .i64 0]) /\ PD w' p vS (.slice none 0 0) (List.replicate k aD) [] false /\ Below w.heap.size w w' /\ ∀ b, foot p vS (.slice none 0 0) b -> w.heap.size <= b := by
 go_enter func72, ntmps72;have HM := ae (heap_alloc_new w (.cells (madeCells (cel aD).toArray (k * 64)) 45));have HB := ae ((Below.refl w.heap.size w).alloc aj (.cells (madeCells (cel aD).toArray (k * 64)) 45));have HSZ := ae (World.size_alloc w (.cells (madeCells (cel aD).toArray (k * 64)) 45));go_wp2_with (first | (refine ay rfl (qC (n := k) rfl rfl rfl (by omega)) ?_) | fail);generalize w.alloc (.cells (madeCells (cel aD).toArray (k * 64)) 45) = w1 at *;go_ret2;have hS : aP gv w1 0 (.slice (some ⟨w.heap.size, 0, none⟩) k k) (List.replicate k aD) := aP.of_block (E := gv) HM (by rw [<- pY]; rfl) (Nat.zero_le _) (by simp) (by unfold maxLen; omega);have hnw := heap_alloc_new w1 (.cells #[.int .i64 (k : Int), .slice (some ⟨w.heap.size, 0, none⟩) k k, .slice none 0 0, .bool false] 159);rw [HSZ.out] at hnw;refine ⟨w.heap.size + 1, _, rfl, ⟨by rw [List.length_replicate]; exact hnw, by simpa using h1, hS.below (ak.alloc aj _), aP.nil _ _, fun e => absurd e (by decide)⟩, HB.out.alloc HB.out.size _, fun b hb => ?_⟩;rcases hb with rfl | hb | hb
 ·omega
 ·simp [Value.ownBlock] at hb; omega
 ·simp [Value.ownBlock] at hb
theorem ac3 (n : Int) (w : World) (h : ¬(1 <= n /\ n <= 512)) :
  Calls prog 72 #[.int .i64 n] w fun e w' => e = .returned (.tuple #[.pointer none, .int .i64 2]) /\ w = w' := by
 have hor : n < 1 \/ (1 <= n /\ 512 < n) := by omega
 clear h;rcases hor with h | ⟨h, h'⟩
 all_goals
  go_enter func72, ntmps72;go_wp2;go_ret2;exact ⟨rfl, rfl⟩
def kp (z : Int) : Nat := (min (max z 0) 64).toNat
def n8 (o : Oper) : Bool := match o.op with
 |.defer _ => false
 |_ => true
theorem mt {o : Oper} (h : n8 o = true) : ∀ c, o.op ≠ .defer c := by
 intro c e;unfold n8 at h;rw [e] at h;cases h
section
variable {F : Fence} {n : Nat} {P : Program} {ops : Array Oper} {rest : List Oper} {o : Oper} {a : Act} {w w' : World} {Q : Exit -> Act -> World -> Prop} {v : Value}
theorem dY (hg : o.guard = none) (hd : n8 o = true) (ha : o.about P w a.eval = none) (h : (execOp a.eval o).run P w = .ok (.value v) w') (hr : wpListIn F n P ops Q rest (a.put o.dst v) w') : wpListIn F n P ops Q (o :: rest) a w := by
 refine wpListIn_plain hg fun K hK => ?_
 unfold Oper.wpIn;refine ⟨fun f hf => (by rw [ha] at hf; cases hf), ?_⟩;rw [Oper.semAt_plain F _ _ (mt hd), h];exact hK _ _ hr
theorem l8 (hg : o.guard = none) (hd : n8 o = true) (ha : o.about P w a.eval = none) (h : (execOp a.eval o).run P w = .ok .skip w') (hr : wpListIn F n P ops Q rest (a.put o.dst undef) w') : wpListIn F n P ops Q (o :: rest) a w := by
 refine wpListIn_plain hg fun K hK => ?_
 unfold Oper.wpIn;refine ⟨fun f hf => (by rw [ha] at hf; cases hf), ?_⟩;rw [Oper.semAt_plain F _ _ (mt hd), h];exact hK _ _ hr
end
open Go.RowKit Go.Shelf
attribute [local go_sem] Oper.semAt_some
def cmd (L : List (Int × Blk)) : Nat -> List (Nat × (Int × Blk))
 |0 => []
 |d + 1 => cmd L d ++ [(L.length - 1 - d, L.getD (L.length - 1 - d) (0, aD))]
theorem afx (L : List (Int × Blk)) (d : Nat) : (cmd L d).length = d := by
 induction d with
 |zero => rfl
 |succ d ih => rw [cmd, List.length_append, ih]; rfl
theorem yB (L : List (Int × Blk)) (d i : Nat) (h1 : L.length - d <= i) (h2 : i < L.length) : (i, L.getD i (0, aD)) ∈ cmd L d := by
 induction d with
 |zero => omega
 |succ d ih =>
  rw [cmd];by_cases e : L.length - d <= i
  ·exact List.mem_append.2 (.inl (ih e))
  ·have : i = L.length - 1 - d := by omega
   subst this;exact List.mem_append.2 (.inr (by simp))
def aej (x : Nat × (Int × Blk)) : Array Value := #[.int .i64 (x.1 : Int), .agg (fh x.2).toArray]
theorem sN (F : Fence) (n : Nat) (h : F.fn 202) (hro : F.round = none) (a : Option Addr) (len cap : Nat) (w : World) :
  CallsIn F n prog 202 #[.slice a len cap] w fun e w' => e = .returned (.func (.func 210) #[] #[.pointer (some ⟨w.heap.size, 0, none⟩)]) /\ w' = w.alloc (.cells #[.slice a len cap] 157) := by
 refine callsIn_of_wp func202 rfl h ?_ hro;simp only [ntmps202, List.size_toArray, List.length_cons, List.length_nil, Nat.reduceAdd, Nat.reduceSub, Array.replicate_succ, Array.replicate_zero, List.push_toArray, List.append_toArray, List.nil_append, List.cons_append]
 gi_wp2
 go_ret;exact ⟨rfl, rfl⟩
set_option maxRecDepth 100000 in
theorem adj (F : Fence) (n : Nat) (h40 : F.fn 210) (hro : F.round = none) (hn : 1 <= n) (l Bs n₀ : Nat) (A : Option Addr) (cap : Nat) (L : List (Int × Blk)) (hLl : L.length <= 1000000) (J Jx : List (Nat × (Int × Blk)) -> World -> Prop)
  (hY : ∀ pre x W, J pre W -> pre.length < L.length -> YieldAt F (n - 1) prog l (aej x) W fun e W' =>
   (e = .returned (.bool true) /\ J (pre ++ [x]) W' /\ Below n₀ W W') \/ (e = .returned (.bool false) /\ Jx (pre ++ [x]) W'))
  (W : World) (hBn : Bs < n₀) (hBs : W.cell? ⟨Bs, 0, none⟩ = some (.slice A L.length cap)) (hL : RdE LwE W n₀ A L.length L) (h0 : J [] W) :
  CallsIn F n prog 210 #[.func (.yield l) #[] #[], .pointer (some ⟨Bs, 0, none⟩)] W fun e W' => (∃ v, e = .returned v) /\
   ((∃ ys, ys = cmd L L.length /\ J ys W') \/ (∃ pre, (∃ d, d <= L.length /\ pre = cmd L d) /\ Jx pre W')) := by
 refine callsIn_of_wp func210 rfl h40 ?_ hro;simp only [ntmps210, List.size_toArray, List.length_cons, List.length_nil, Nat.reduceAdd, Nat.reduceSub, Array.replicate_succ, Array.replicate_zero, List.push_toArray, List.append_toArray, List.nil_append, List.cons_append]
 gi_wp2
 gi_loopw [3] (fun i wr => ∃ r : Nat, r <= L.length /\ i = .int .i64 ((r : Int) - 1) /\ J (cmd L (L.length - r)) wr /\ Below n₀ W wr)
  (fun i _ => (intOf i + 1).toNat)
 case atStart => exact ⟨L.length, aj, rfl, by rw [Nat.sub_self]; exact h0, ak⟩
 case round =>
  obtain ⟨r, hr, rfl, hJs, hnx⟩ := hrel;have hbx : wr.cell? ⟨Bs, 0, none⟩ = some (.slice A L.length cap) := (hnx.cell (p := ⟨Bs, 0, none⟩) hBn).trans hBs;have hLr := hL.below hnx;cases r with
  |zero =>
   clear hLr hbx;rw [Nat.sub_zero] at hJs;have e : ((0 : Nat) : Int) - 1 = -1 := rfl;rw [e]
   gi_wp2
   go_end0
   exact ⟨⟨_, rfl⟩, .inl ⟨_, rfl, hJs⟩⟩
  |succ m =>
   have e : ((m + 1 : Nat) : Int) - 1 = (m : Int) := by omega
   rw [e];clear e;have hlt : m < L.length := hr;obtain ⟨bA, oA, rfl, hbA, rA⟩ := RdE.pairs hLr hlt;have hnext : cmd L (L.length - m) = cmd L (L.length - (m + 1)) ++ [(m, L.getD m (0, aD))] := by
    have e1 : L.length - m = (L.length - (m + 1)) + 1 := by omega
    rw [e1, cmd];have e2 : L.length - 1 - (L.length - (m + 1)) = m := by omega
    rw [e2]
   have HNX := ae hnext;obtain ⟨fn, tmps, assign, body, hy, hR⟩ := hY _ (m, L.getD m (0, aD)) wr hJs (by rw [afx]; omega);rw [<- hnext] at hR;have HRA := ae rA;generalize L.getD m (0, aD) = q at *;unfold aej at hy;dsimp only at hy;clear hnext rA hLr
   gi_wp2_with (first | (refine dY rfl rfl rfl (cu (E := LwE) rfl rfl rfl hlt) ?_) | (refine dY rfl rfl rfl (oM rfl rfl HRA) ?_) | fail)
   refine hR.mono ?_;rintro e W3 (⟨rfl, hJ3, hk3⟩ | ⟨rfl, hJx3⟩)
   ·gi_wp2
    go_roundw
    case rel => exact ⟨m, by omega, rfl, hJ3, hnx.trans hk3⟩
    case measure => simp [intOf]
   ·gi_wp2
    refine bodyPost_ret (results_none rfl _ _ _) rfl ?_;exact ⟨⟨_, rfl⟩, .inr ⟨_, ⟨L.length - m, by omega, rfl⟩, hJx3⟩⟩
theorem vq (F : Fence) (n : Nat) (h40 : F.fn 210) (hro : F.round = none) (hn : 1 <= n) (Bs : Nat) (A : Option Addr) (cap : Nat) (L : List (Int × Blk)) (hLl : L.length <= 1000000) (w : World) (hBn : Bs < w.heap.size) (hBs : w.cell? ⟨Bs, 0, none⟩ = some (.slice A L.length cap)) (hL : RdE LwE w w.heap.size A L.length L) :
  SeqStopsK F n prog 210 #[.pointer (some ⟨Bs, 0, none⟩)] aej (Below w.heap.size) (fun ys => ys = cmd L L.length) (fun pre => ∃ d, d <= L.length /\ pre = cmd L d) L.length w := fun l J Jx W hW _ _ hY h0 =>
 adj F n h40 hro hn l Bs w.heap.size A cap L hLl J Jx hY W hBn ((hW.cell (p := ⟨Bs, 0, none⟩) hBn).trans hBs) (hL.below hW) h0
attribute [local go_sem] Oper.semAt_some
theorem ox {fn : Func} {p u : Tmp} {c : Blk} {e : Int} (h : fn.results = #[.cell p 45, .cell u 27]) (tmps : Array Value) (w : World) (b b' : Nat) (hp : tmps.getD p undef = .pointer (some ⟨b, 0, none⟩)) (hu : tmps.getD u undef = .pointer (some ⟨b', 0, none⟩)) (hc : w.rangeAt b 0 (cel c)) (he : w.cell? ⟨b', 0, none⟩ = some (.int .i64 e)) :
  (results fn tmps).run prog w = .ok (.tuple #[blk c, .int .i64 e]) w := by
 have hl : (loadVar 45 ⟨b, 0, none⟩).run prog w = .ok (blk c) w := run_loadVar_mid w b 0 45 (cel c) _ hc zx rfl (by rw [aJ]; exact rD);have hl2 : (loadVar 27 ⟨b', 0, none⟩).run prog w = .ok (.int .i64 e) w := by simp [go_sem, he]
 have hp' : tmps[p]?.getD undef = .pointer (some ⟨b, 0, none⟩) := by simpa using hp
 have hu' : tmps[u]?.getD undef = .pointer (some ⟨b', 0, none⟩) := by simpa using hu
 simp [results, h, hp', hu', asAddr, hl, hl2]
theorem kO {w : World} {b b' o i : Nat} {cs : List Value} (h : w.rangeAt b o cs) (hne : b ≠ b') (v : Value) : (w.setCell ⟨b', i, none⟩ v).rangeAt b o cs := fun j u hj => by
 rw [World.cell?_of_block (w := w) (a := ⟨b, o + j, none⟩) (heap_setCell_other w ⟨b', i, none⟩ b v hne)];exact h j u hj
def rd3 (w : World) (n : Int) : World := ((w.alloc (.cells #[.int .i64 n] 3)).alloc (.cells (cel aD).toArray 45)).alloc (.cells #[.int .i64 0] 27)
theorem qV (w : World) (n : Int) : Below w.heap.size w (rd3 w n) /\ (rd3 w n).heap[w.heap.size]? = some (.cells #[.int .i64 n] 3) /\ (rd3 w n).heap[w.heap.size + 1]? = some (.cells (cel aD).toArray 45) /\ (rd3 w n).heap[w.heap.size + 1 + 1]? = some (.cells #[.int .i64 0] 27) /\ (rd3 w n).heap.size = w.heap.size + 1 + 1 + 1 := by
 unfold rd3;have e1 := World.size_alloc (w := w) (o := .cells #[.int .i64 n] 3);have e2 := World.size_alloc (w := w.alloc (.cells #[.int .i64 n] 3)) (o := .cells (cel aD).toArray 45);have e3 := World.size_alloc (w := (w.alloc (.cells #[.int .i64 n] 3)).alloc (.cells (cel aD).toArray 45)) (o := .cells #[.int .i64 0] 27);have n1 := jX w #[.int .i64 n] 3;have n2 := jX (w.alloc (.cells #[.int .i64 n] 3)) (cel aD).toArray 45;have n3 := jX ((w.alloc (.cells #[.int .i64 n] 3)).alloc (.cells (cel aD).toArray 45)) #[.int .i64 0] 27;rw [e2, e1] at n3;rw [e1] at n2;refine ⟨(((Below.refl _ w).alloc aj _).alloc (by omega) _).alloc (by omega) _, bz (bz n1 _) _, bz n2 _, n3, by omega⟩
theorem one_cell {w : World} {b : Nat} {v : Value} {t : TypeId} (h : w.heap[b]? = some (.cells #[v] t (0, 0))) : w.cell? ⟨b, 0, none⟩ = some v /\ w.frozen? ⟨b, 0, none⟩ = false := by
 refine ⟨?_, frozen_of_row w b 0 _ t h⟩;rw [cell_of_row w b 0 _ t (0, 0) h]; rfl
theorem zF (p : Nat) (vS vL : Value) (S : List Blk) (L : List (Int × Blk)) (g : Bool) (n : Int) (w : World) (h : PD w p vS vL S L g) (he0 : dk S g n ≠ 0) :
  Calls prog 189 #[.pointer (some ⟨p, 0, none⟩), .int .i64 n] w fun e w' => e = .returned (.tuple #[blk (fS S L g n), .int .i64 (dk S g n)]) /\ Below w.heap.size w w' := by
 obtain ⟨hA, k0, k1, k2, hsz⟩ := qV w n;have h1 := h.below hA;have HA := ae hA;have HT := ae (bI k1);obtain ⟨c0, f0⟩ := one_cell k0;have hO : Only (fun b => b = w.heap.size + 1) (rd3 w n) ((rd3 w n).setCells (w.heap.size + 1) 0 (cel aD)) := (Only.refl (fun b => b = w.heap.size + 1) (rd3 w n)).setCells (.inl rfl) _ _;have k2' := hO.keep k2 (by omega);obtain ⟨c2, f2⟩ := one_cell k2';have HS := ae (oT (L := L) he0);clear hA k0 k1 k2 hO k2';rcases eY (S := S) (g := g) (n := n) with he | he | ⟨he, _⟩
 rotate_right 1
 ·exact absurd he he0
 all_goals
  have HE := ae he;clear he he0;go_enter func189, ntmps189;unfold rd3 at *;go_wp2_with (first | (refine ay rfl (aU rfl) ?_) | fail);generalize ((w.alloc (.cells #[.int .i64 n] 3)).alloc (.cells (cel aD).toArray 45)).alloc (.cells #[.int .i64 0] 27) = w3 at *;refine (fY p vS vL S L g n w3 h1).mono ?_;rintro e w1 ⟨rfl, rfl⟩;rw [HE.out];go_wp2_with (first | (refine ay rfl (cC (c := aD) (parts := []) rfl rfl) ?_) | (refine bi rfl (aS rfl rfl rfl ?ht) ?_; (case ht => exact HT.out)) | fail);have hr1 : (w3.setCells (w.heap.size + 1) 0 (cel aD)).rangeAt (w.heap.size + 1) 0 (cel aD) := World.rangeAt_setCells_same _ _ _ _ (by rw [aJ]; exact HT);have hr2 := kO (b' := w.heap.size + 1 + 1) (i := 0) hr1 (by omega);have hb2 := (below_setCells HA (show w.heap.size <= w.heap.size + 1 by omega) (o := 0) (cel aD));refine bodyPost_ret (ox rfl _ _ _ _ rfl rfl (hr2 _) (World.cell?_setCell_same' _ _ _ (by rw [c2]; rfl))) rfl ⟨by rw [HS.out, HE.out], hb2.setCell (p := ⟨w.heap.size + 1 + 1, 0, none⟩) (by show _ <= w.heap.size + 1 + 1; omega) _⟩
attribute [local go_sem] Oper.semAt_some
theorem vI {L : List (Int × Blk)} {n : Int} {b : Blk} (h : ∀ q ∈ L, q.1 ≠ n) : kQ L n b = b := by
 unfold kQ
 induction L generalizing b with
 |nil => rfl
 |cons q L ih =>
  rw [List.foldl_cons, if_neg (h q (by simp)), ih fun q hq => h q (by simp [hq])]
theorem abO {L : List (Int × Blk)} {n : Int} {b : Blk} {i : Nat} (hi : i < L.length) (h : (L.getD i (0, aD)).1 = n) (hb : ∀ j, i < j -> j < L.length -> (L.getD j (0, aD)).1 ≠ n) : kQ L n b = (L.getD i (0, aD)).2 := by
 have key : ∀ m, i + 1 + m <= L.length -> kQ (L.take (i + 1 + m)) n b = (L.getD i (0, aD)).2 := by
  intro m
  induction m with
  |zero => intro _; rw [Nat.add_zero, lw n b hi, if_pos h]
  |succ m ih =>
   intro hm;rw [<- Nat.add_assoc, lw n b (by omega), if_neg (hb _ (by omega) (by omega))];exact ih (by omega)
 have := key (L.length - (i + 1)) (by omega);rwa [show i + 1 + (L.length - (i + 1)) = L.length from by omega, List.take_length] at this
def NoK (k : Int) (pre : List (Nat × (Int × Blk))) : Prop := ∀ x ∈ pre, x.2.1 ≠ k
def ake (s : Nat) (k : Int) (pre : List (Nat × (Int × Blk))) (W : World) : Prop := ∃ ini last, pre = ini ++ [last] /\ NoK k ini /\ last.2.1 = k /\ W.rangeAt (s + 1) 0 (cel last.2.2) /\ W.cell? ⟨s + 1 + 1, 0, none⟩ = some (.int .i64 0)
theorem ae3 {w : World} {b : Nat} {q : Int × Blk} {t : TypeId} (h : w.heap[b]? = some (.cells (fh q).toArray t (0, 0))) : w.cell? ⟨b, 0, none⟩ = some (.int .i64 q.1) /\ w.rangeAt b 1 (cel q.2) := by
 have hr : w.rangeAt b 0 (fh q) := fun j v hj => by
  rw [cell_of_row _ _ (0 + j) (fh q).toArray t (0, 0) h]
  simpa using hj
 refine ⟨hr 0 _ rfl, fun j v hj => ?_⟩;have := hr (j + 1) v hj;rwa [show 0 + (j + 1) = 1 + j from by omega] at this
theorem ix (b : Nat) : ∀ (vs : List Value) (o : Nat) (w : World), KeepsOthers w (w.setCells b o vs)
 |[], _, w => KeepsOthers.refl w
 |v :: r, o, w => (KeepsOthers.setCell w ⟨b, o, none⟩ v).trans (ix b r (o + 1) _)
set_option maxRecDepth 100000 in
theorem zK (p k : Nat) (vS vL : Value) (S : List Blk) (L : List (Int × Blk)) (w : World) (h : PD w p vS vL S L false) (hk : k < S.length) (hLl : L.length <= 1000000) :
  Calls prog 189 #[.pointer (some ⟨p, 0, none⟩), .int .i64 k] w fun e w' => e = .returned (.tuple #[blk (fS S L false k), .int .i64 0]) /\ Below w.heap.size w w' := by
 obtain ⟨gS, cS, rfl⟩ := h.alive.slice rfl (by omega);obtain ⟨hA, k0, k1, k2, hsz⟩ := qV w (k : Int);have h1 := h.below hA;have HA := ae hA;have HE := ae (ld (S := S) (n := (k : Int)) (by omega));have HK0 := ae k0;have HK1 := ae k1;have HK2 := ae k2;obtain ⟨c0, f0⟩ := one_cell k0;obtain ⟨AL, cL, rfl, hl1, hl2⟩ := h1.L_.form;obtain ⟨d0, d1, d2, d3⟩ := ez h1.at_;clear hA k0 k1 k2;refine (callsIn_wide (n := 3)).1 ?_;refine callsIn_of_wp_marks func189 rfl trivial ?_ rfl;refine wpIn_wide.2 ?_;simp only [ntmps189, List.size_toArray, List.length_cons, List.length_nil, Nat.reduceAdd, Nat.reduceSub, Array.replicate_succ, Array.replicate_zero, List.push_toArray, List.append_toArray, List.nil_append, List.cons_append];unfold rd3 at *;go_wp2_with (first | (refine ay rfl (aU rfl) ?_) | fail);generalize ((w.alloc (.cells #[.int .i64 (k : Int)] 3)).alloc (.cells (cel aD).toArray 45)).alloc (.cells #[.int .i64 0] 27) = w3 at *;refine (fY p _ _ S L false k w3 h1).mono ?_;rintro e w4 ⟨rfl, rfl⟩;rw [HE.out];go_wp2_with fail;refine (callsIn_wide.1 (sN Fence.wide 3 trivial rfl AL L.length cL w3)).mono ?_;rintro e w4 ⟨rfl, rfl⟩;go_wp2_with fail;have hB0 := HA.out.alloc HA.out.size (.cells #[.slice AL L.length cL] 157);have hbox := jX w3 #[.slice AL L.length cL] 157;have h2 := h1.below ((Below.refl _ w3).alloc aj (.cells #[.slice AL L.length cL] 157));have k0 := bz HK0 (.cells #[.slice AL L.length cL] 157);have k1 := bz HK1 (.cells #[.slice AL L.length cL] 157);have k2 := bz HK2 (.cells #[.slice AL L.length cL] 157);have hsz0 := World.size_alloc w3 (.cells #[.slice AL L.length cL] 157);rw [hsz] at hbox hsz0;generalize w3.alloc (.cells #[.slice AL L.length cL] 157) = W0 at *;clear c0 f0 d0 d1 d2 d3 h1 HA HK0 HK1 HK2 hsz;have HK0 := ae k0;have HK1 := ae k1;have HK2 := ae k2;have HH2 := ae h2;have HB0 := ae hB0;have hpw : p < w.heap.size := h.lt p (.inl rfl);have HH := ae h;refine (wpIn_wide (n := 3)).1 ?_;refine wpIn_rangeFunc_ownH rfl (by omega) (gf := 210) (lb := #[.pointer (some ⟨w.heap.size + 1 + 1 + 1, 0, none⟩)]) rfl trivial (enters_of func210 (by kernel_rfl) rfl)
  (vq Fence.wide 2 trivial rfl (by omega) (w.heap.size + 1 + 1 + 1) AL cL L hLl W0 (by omega) (one_cell hbox).1 h2.L_.rd) belowK_t (belowK_b aj) ak (fun _ => rfl)
  (fun pre W => NoK (k : Int) pre /\ Below W0.heap.size W0 W)
  (fun c pre W => (c = .ret /\ ake w.heap.size (k : Int) pre W) /\ Below w.heap.size w W)
  (OwnFrom.and (ownFrom_pure _ _) (ownFrom_below aj aj))
  (fun c => OwnFrom.and (Own.from (fun s A B row hs hg hr => by obtain ⟨hc, ini, last, e1, e2, e3, e4, e5⟩ := hs; exact ⟨hc, ini, last, e1, e2, e3, fun j v hj => cell_kept (e4 j v hj) hg hr, cell_kept e5 hg hr⟩) _) (ownFrom_below aj (by omega)))
  ⟨fun x hx => absurd hx (by simp), ak⟩
  (fun x a' W => ∃ Bx, W0.heap.size <= Bx /\ W.heap[Bx]? = some (.cells (fh x.2).toArray LwE.t) /\ a' = { tmps := #[.pointer (some ⟨p, 0, none⟩), .int .i64 (k : Int), undef, .pointer (some ⟨w.heap.size, 0, none⟩), .pointer (some ⟨w.heap.size + 1, 0, none⟩), .pointer (some ⟨w.heap.size + 1 + 1, 0, none⟩), .int .i64 0, undef, .pointer (some ⟨Bx, 0, none⟩), .pointer (some ⟨p, 0, none⟩), .int .i64 (k : Int), .int .i64 0, .int .i64 0, .bool false, undef, undef, .pointer (some ⟨p, 0, none⟩), .pointer (some ⟨p, 0, none⟩), .pointer (some ⟨p, 2, none⟩), .slice AL L.length cL, .func (.func 210) #[] #[.pointer (some ⟨w.heap.size + 1 + 1 + 1, 0, none⟩)], .int .i64 (x.1 : Int), .agg (fh x.2).toArray, undef, undef, undef, undef, undef, undef, undef, undef, undef, undef, undef, undef, undef], defers := [] })
  (fun x a' _ X Y row hs hg hr => by
   obtain ⟨Bx, e1, e2, e3⟩ := hs;exact ⟨Bx, e1, (hg.block Bx (aV e2) (fun e => by obtain ⟨_, o, ho, hc⟩ := hr Bx e.symm; rw [e2] at ho; cases ho; cases hc)).trans e2, e3⟩)
  ?assign ?body ?done ?stop
 case assign =>
  rintro l pre x W K ⟨hne, hb⟩ hK;simp only [aej, List.zip_toArray, List.zip_cons_cons, List.zip_nil_right, List.foldl_toArray, List.foldl_cons, List.foldl_nil, List.setIfInBounds_toArray, List.set_cons_succ, List.set_cons_zero];refine wpIn_region_lit ?_;refine dY rfl rfl rfl (nr rfl) ?_;refine l8 rfl rfl rfl (qk (a := x.2) rfl rfl rfl) ?_;refine wpListIn_nil ?_;exact hK _ _ ((KeepsOthers.alloc _ _).from _) ((Below.refl _ W).alloc hb.size _) ⟨hne, hb.alloc hb.size _⟩ ⟨W.heap.size, hb.size, heap_alloc_new W _, rfl⟩
 case body =>
  rintro l pre x a' W hl _ ⟨hne, hb⟩ ⟨Bx, hBx, hbx, rfl⟩ hlt;obtain ⟨i, q1, qb⟩ := x;have hn : W.cell? ⟨w.heap.size, 0, none⟩ = some (.int .i64 (k : Int)) := (one_cell (aB HK0 hb)).1;have hk1 := aB HK1 hb;have hk2 := aB HK2 hb;obtain ⟨hx1, hx2⟩ := ae3 hbx;have HX2 := ae hx2;have HT := ae (bI hk1);have hO : Only (fun b => b = w.heap.size + 1) W (W.setCells (w.heap.size + 1) 0 (cel qb)) := (Only.refl (fun b => b = w.heap.size + 1) W).setCells (.inl rfl) _ _;have hk2' := hO.keep hk2 (by omega);obtain ⟨c2, f2⟩ := one_cell hk2';have HB := ae hb;have HNE := ae hne;have HK2' := ae hk2';clear hb hne hbx hx2 hk1 hk2 hO hk2';by_cases hq : q1 = (k : Int)
  ·subst hq
   gi_wp2_with (first | (refine dY rfl rfl rfl (ax rfl rfl ahc) ?_) | (refine dY rfl rfl rfl (ax rfl rfl aiu) ?_) | (refine dY rfl rfl rfl (aW rfl rfl HX2.out) ?_) | (refine l8 rfl rfl rfl (aS rfl rfl rfl ?ht) ?_; (case ht => exact HT.out)) | fail)
   have hr1 : (W.setCells (w.heap.size + 1) 0 (cel qb)).rangeAt (w.heap.size + 1) 0 (cel qb) := World.rangeAt_setCells_same _ _ _ _ (by rw [aJ]; exact HT);have hr2 := kO (b' := w.heap.size + 1 + 1) (i := 0) hr1 (by omega);have hbw := HB0.out.trans (HB.out.mono (by omega));have hb2 := below_setCells hbw (show w.heap.size <= w.heap.size + 1 by omega) (o := 0) (cel qb);exact ⟨((ix _ _ _ _).trans (KeepsOthers.setCell _ _ _)).from _, ⟨rfl, pre, (i, (k : Int), qb), rfl, HNE, rfl, hr2 _, World.cell?_setCell_same' _ _ _ (by rw [c2]; rfl)⟩, hb2.setCell (p := ⟨w.heap.size + 1 + 1, 0, none⟩) (by show _ <= w.heap.size + 1 + 1; omega) _⟩
  ·have hq' : (q1 == (k : Int)) = false := by simpa using hq
   gi_wp2_with (first | (refine dY rfl rfl rfl (ax rfl rfl ahc) ?_) | (refine dY rfl rfl rfl (ax rfl rfl aiu) ?_) | fail)
   exact ⟨KeepsFrom.refl _ _, ak, fun y hy => (List.mem_append.1 hy).elim (HNE.out y) (fun e => by simp at e; subst e; exact hq), by have := HB.out; rwa [hsz0] at this⟩
 case done =>
  rintro D ys W hD rfl ⟨hne, hb⟩ hK;have hrd : fS S L false (k : Int) = S.getD k aD := by
   rw [pz HE.out];refine vI fun q hq => ?_
   obtain ⟨j, hj, rfl⟩ := List.getElem_of_mem hq;have := hne _ (yB L L.length j (by omega) hj)
   simpa [List.getD, List.getElem?_eq_getElem hj] using this
  have h3 := HH2.out.below hb;obtain ⟨c0, c1, c2, c3⟩ := ez h3.at_;have hn : W.cell? ⟨w.heap.size, 0, none⟩ = some (.int .i64 (k : Int)) := (one_cell (aB HK0 hb)).1;obtain ⟨b, off, hbe, _, hr⟩ := h3.alive.rd.blk hk;injection hbe with hbe;injection hbe with hb1 hb2;subst hb1 hb2;rw [Nat.zero_add] at hr;have HRD0 := hrd;generalize S.getD k aD = x at *;have HRD := ae HRD0;clear HRD0;have hk1 := aB HK1 hb;have hk2 := aB HK2 hb;have HT := ae (bI hk1);have hO : Only (fun b => b = w.heap.size + 1) W (W.setCells (w.heap.size + 1) 0 (cel x)) := (Only.refl (fun b => b = w.heap.size + 1) W).setCells (.inl rfl) _ _;have hk2' := hO.keep hk2 (by omega);have HK2W := ae hk2;have HA := ae c1;have HN := ae hn;have HR := ae hr;have HB := ae hb;have HKD := ae hK;clear hrd h3 c0 c1 c2 c3 hn hr hk1 hk2 hO hk2' hne hb hK;go_wp2_with fail;refine wp_region_still_tail 7 (by kernel_rfl) (by kernel_rfl) ?_;simp only [ac];refine aK rfl (aM rfl akE) ?_;simp only [aa];refine aK rfl (bf rfl akE) ?_;simp only [aa];refine aK rfl (ax rfl akE aiL) ?_;simp only [aa];refine aK rfl (aC rfl akE (ldB HA)) ?_;simp only [aa];refine aK rfl (aC rfl akE (ldI HN)) ?_;simp only [aa];refine aK rfl (zm rfl akE akE hk) ?_;simp only [aa];refine aK rfl (aW rfl akE HR) ?_;simp only [aa];refine wpStill_nil ?_;change wpList _ _ _ _ _ W.drew;have HTd : W.drew.there (w.heap.size + 1) 0 64 := HT.out;have HTd' := ae HTd;have hk2d : (W.drew.setCells (w.heap.size + 1) 0 (cel x)).heap[w.heap.size + 1 + 1]? = some (.cells #[.int .i64 0] 27) := (fa _ _ _ W.drew _ (by omega)).trans HK2W;obtain ⟨c2, f2⟩ := one_cell hk2d;have HKd := ((ix (w.heap.size + 1) (cel x) 0 W.drew).trans (KeepsOthers.setCell _ ⟨w.heap.size + 1 + 1, 0, none⟩ (.int .i64 0))).same D _ HKD rfl;have HKH := ae HKd;have hr1 : (W.drew.setCells (w.heap.size + 1) 0 (cel x)).rangeAt (w.heap.size + 1) 0 (cel x) := World.rangeAt_setCells_same _ _ _ _ (by rw [aJ]; exact HTd);have HR2 := ae (kO (b' := w.heap.size + 1 + 1) (i := 0) hr1 (by omega) (.int .i64 0));have HE2 := ae (World.cell?_setCell_same' (W.drew.setCells (w.heap.size + 1) 0 (cel x)) ⟨w.heap.size + 1 + 1, 0, none⟩ (.int .i64 0) (by rw [c2]; rfl));have hbw := bd (HB0.out.trans (HB.out.mono (by omega)));have HB2 := ae ((below_setCells hbw (show w.heap.size <= w.heap.size + 1 by omega) (o := 0) (cel x)).setCell (p := ⟨w.heap.size + 1 + 1, 0, none⟩) (by show _ <= w.heap.size + 1 + 1; omega) (.int .i64 0));clear hk2d HKd hr1 hbw HTd;go_wp2_with (first | (refine bi rfl (aS rfl rfl rfl ?ht) ?_; (case ht => exact HTd'.out)) | fail);refine ⟨by simp, .inl ⟨_, _, rfl, run_takeDeferred HKH, ?_⟩⟩;refine ⟨.tuple #[blk x, .int .i64 0], ox rfl _ _ _ _ rfl rfl (fun j v hj => cell_kept (HR2.out j v hj) (grownBy_putObj' _ D (.deferred none)) (fun r e => by cases e; exact ⟨_, HKH, rfl⟩)) (cell_kept HE2 (grownBy_putObj' _ D (.deferred none)) (fun r e => by cases e; exact ⟨_, HKH, rfl⟩)), by rw [HRD.out], HB2.out.trans (belowK_b (w := w) aj _ D _ _ (by omega) HKH rfl rfl)⟩
 case stop =>
  rintro D c pre W hD ⟨d, hd, rfl⟩ ⟨⟨rfl, ini, last, e1, e2, e3, e4, e5⟩, hb⟩ hK;have hrd : fS S L false (k : Int) = last.2.2 := by
   rw [pz HE.out];cases d with
   |zero => simp [cmd] at e1
   |succ d =>
    rw [cmd] at e1;obtain ⟨e6, e7⟩ := List.append_inj' e1 rfl;subst e6;have e8 : (L.length - 1 - d, L.getD (L.length - 1 - d) (0, aD)) = last := by simpa using e7
    subst e8;refine abO (i := L.length - 1 - d) (by omega) e3 fun j h1 h2 => ?_
    exact e2 _ (yB L d j (by omega) h2)
  gi_wp2
  refine ⟨by simp, .inl ⟨_, _, rfl, run_takeDeferred hK, ?_⟩⟩;refine ⟨.tuple #[blk last.2.2, .int .i64 0], ox rfl _ _ _ _ rfl rfl (fun j v hj => cell_kept (e4 j v hj) (grownBy_putObj' _ D (.deferred none)) (fun r e => by cases e; exact ⟨_, hK, rfl⟩)) (cell_kept e5 (grownBy_putObj' _ D (.deferred none)) (fun r e => by cases e; exact ⟨_, hK, rfl⟩)), by rw [hrd], hb.trans (belowK_b (w := w) aj W D _ _ (by omega) hK rfl rfl)⟩
theorem ahu (p : Nat) (vS vL : Value) (S : List Blk) (L : List (Int × Blk)) (g : Bool) (n : Int) (w : World) (h : PD w p vS vL S L g) (hLl : L.length <= 1000000) :
  Calls prog 189 #[.pointer (some ⟨p, 0, none⟩), .int .i64 n] w fun e w' => e = .returned (.tuple #[blk (fS S L g n), .int .i64 (dk S g n)]) /\ Below w.heap.size w w' := by
 by_cases he : dk S g n = 0
 ·rcases eY (S := S) (g := g) (n := n) with h1 | h1 | ⟨_, rfl, k, rfl, hk⟩
  ·omega
  ·omega
  ·rw [he];exact zK p k vS vL S L w h hk hLl
 ·exact zF p vS vL S L g n w h he
def Pv (w : World) (F : Nat -> Prop) (p : Nat) (S : List Blk) (L : List (Int × Blk)) (g : Bool) : Prop := ∃ vS vL, F = foot p vS vL /\ PD w p vS vL S L g /\ Fit S L /\ S.length <= 512 /\ L.length <= 1000000
section
variable {w w' : World} {F G : Nat -> Prop} {p : Nat} {S : List Blk} {L : List (Int × Blk)} {g : Bool}
theorem Pv.lt (h : Pv w F p S L g) : ∀ b, F b -> b < w.heap.size := by
 obtain ⟨vS, vL, rfl, h, _⟩ := h;exact h.lt
theorem Pv.only (h : Pv w F p S L g) (k : Only G w w') (hn : ∀ b, F b -> ¬ G b) : Pv w' F p S L g := by
 obtain ⟨vS, vL, rfl, h, hF⟩ := h;exact ⟨vS, vL, rfl, h.only k hn, hF⟩
theorem iK (h : w = w') : Below w.heap.size w w' := by subst h; exact ak
end
def aii : Dev where
 Dv := Pv
 lt := Pv.lt
 only := Pv.only
 fit := fun ⟨_, _, _, h, hF, _⟩ => ⟨hF, h.one⟩
 cap := fun ⟨_, _, _, _, _, hS, _⟩ => hS
 new_ok := fun k w h1 h2 => by
  refine (acS k w h1 h2).mono ?_;rintro e w' ⟨p, vS, he, hr, hb, hf⟩;exact ⟨p, _, he, ⟨vS, _, rfl, hr, Fit.nil _, by rw [List.length_replicate]; exact h2, Nat.zero_le _⟩, hb, hf⟩
 new_no := fun n w h => (ac3 n w h).mono fun e w' ⟨h1, h2⟩ => ⟨h1, iK h2⟩
 read := fun n ⟨vS, vL, _, h, _, _, hL⟩ => ahu _ vS vL _ _ _ n _ h hL
 sure := fun n ⟨vS, vL, _, h, _⟩ => ag5 _ vS vL _ _ _ n _ h
 write := fun {w F p S L g} n b hL ⟨vS, vL, e0, h, hF, hS, _⟩ => by
  subst e0;refine (ad5 p vS vL S L g n b w h hL).mono ?_;rintro e w' ⟨he, vL', h1, h2, h3⟩;refine ⟨he, _, ⟨vS, vL', rfl, h1, hF.wr g n b, hS, ?_⟩, h2, fun k hk => ?_⟩
  ·unfold wrL
   split
   ·rw [List.length_append]; simp; omega
   ·omega
  ·rcases hk with e | e | e
   ·exact .inl (.inl e)
   ·exact .inl (.inr (.inl e))
   ·rcases h3 k e with e | e
    ·exact .inl (.inr (.inr e))
    ·exact .inr e
 flush := fun {w F p S L g} ⟨vS, vL, e0, h, hF, hS, hL⟩ => by
  subst e0;cases g
  ·refine (vH p vS vL S L w h hF).mono ?_;rintro e w' ⟨he, h1, h2⟩;refine ⟨he, _, ⟨vS, _, rfl, h1, Fit.nil _, by rw [if_neg (by simp), nU]; exact hS, Nat.zero_le _⟩, h2, fun k hk => ?_⟩;rcases hk with e | e | e
   ·exact .inl (.inl e)
   ·exact .inl (.inr (.inl e))
   ·simp [Value.ownBlock] at e
  ·refine (sa p vS vL S L w h).mono ?_;rintro e w' ⟨he, rfl⟩;exact ⟨he, _, ⟨vS, vL, rfl, h, hF, hS, hL⟩, Only.refl _ _, Grow.same _ _⟩
 fail := fun {w F p S L g} ⟨vS, vL, e0, h, hF, hS, hL⟩ => by
  subst e0;refine (ahq p vS vL S L g w h).mono ?_;rintro e w' ⟨he, h1, h2⟩;refine ⟨he, _, ⟨_, _, rfl, h1, Fit.nil _, hS, Nat.zero_le _⟩, h2, fun k hk => ?_⟩;rcases hk with e | e | e
  ·exact .inl (.inl e)
  ·simp [Value.ownBlock] at e
  ·simp [Value.ownBlock] at e
 dead := fun ⟨vS, vL, _, h, _⟩ => (ahW _ vS vL _ _ _ _ h).mono fun e w' ⟨h1, h2⟩ => ⟨h1, iK h2⟩
 fR := fun ⟨vS, vL, _, h, _⟩ => (aaI _ vS vL _ _ _ _ h).mono fun e w' ⟨h1, h2⟩ => ⟨h1, iK h2⟩
def ai7 : Array Value := #[.int .i64 0, .slice none 0 0, .slice none 0 0, .bool false]
def NoP (w : World) (v : Value) : Prop := v = .pointer none \/ ∃ p, v = .pointer (some ⟨p, 0, none⟩) /\ w.heap[p]? = some (.cells ai7 159)
theorem ag3 {w : World} {v : Value} (h : NoP w v) : Calls prog 109 #[v] w fun e w' => e = .returned (.bool false) /\ w = w' := by
 rcases h with rfl | ⟨p, rfl, h⟩
 ·go_enter func109, ntmps109;go_wp2;go_ret;exact ⟨rfl, rfl⟩
 ·obtain ⟨c0, c1, c2, c3⟩ := ez h;go_enter func109, ntmps109;go_wp2;go_ret;exact ⟨rfl, rfl⟩
theorem aaw {w : World} {v : Value} (h : NoP w v) : Calls prog 180 #[v] w fun e w' => e = .returned (.int .i64 0) /\ Below w.heap.size w w' := by
 go_enter func180, ntmps180;go_wp2_with fail;refine (ag3 h).mono ?_;rintro e w1 ⟨rfl, rfl⟩;go_wp2_with fail;go_ret;exact ⟨rfl, ak⟩
def Dev.K (D : Dev) : DvK := ⟨D.Dv, D.lt, D.only⟩
def cw (D : Dev) : gM where
 K := D.K
 s := 124
 t := 103
 und := underlying124
 info := by kernel_rfl
 o := 126
 cs := fun v left dark steps => #[v, .int .i64 steps, .int .i64 left, .bool dark]
 ne := by decide
section
variable {D : Dev} {w w' : World} {p : Nat} {v : Value} {Fs : Nat -> Nat -> Prop} {ps : List Nat} {M : a6}
theorem bN.mS (h : bN (cw D) w p v Fs ps M) : w.cell? ⟨p, 0, none⟩ = some v /\ w.cell? ⟨p, 1, none⟩ = some (.int .i64 M.steps) /\ w.cell? ⟨p, 2, none⟩ = some (.int .i64 M.left) /\ w.cell? ⟨p, 3, none⟩ = some (.bool M.dark) := ez h.at_
theorem qQ (h : bN (cw D) w p v Fs ps M) :
  Calls prog 75 #[.pointer (some ⟨p, 0, none⟩)] w fun e w' => e = .returned (.int .i64 (M.ds.length : Int)) /\ w = w' := by
 obtain ⟨g, c, rfl, _, _⟩ := h.slice;obtain ⟨c0, c1, c2, c3⟩ := h.mS;go_enter func75, ntmps75;go_wp2;go_ret;exact ⟨rfl, rfl⟩
theorem abl (h : bN (cw D) w p v Fs ps M) :
  Calls prog 108 #[.pointer (some ⟨p, 0, none⟩)] w fun e w' => e = .returned (.bool true) /\ w = w' := by
 have h1 : 0 < M.ds.length := h.one;go_enter func108, ntmps108;go_wp2_with fail;refine (qQ h).mono ?_;rintro e w1 ⟨rfl, rfl⟩;go_wp2_with fail;go_ret;exact ⟨rfl, rfl⟩
theorem acJ (h : bN (cw D) w p v Fs ps M) :
  Calls prog 184 #[.pointer (some ⟨p, 0, none⟩)] w fun e w' => e = .returned (.bool M.dark) /\ w = w' := by
 obtain ⟨c0, c1, c2, c3⟩ := h.mS;go_enter func184, ntmps184;go_wp2;go_ret;exact ⟨rfl, rfl⟩
theorem kj (h : bN (cw D) w p v Fs ps M) {d : Int} (hd : ¬(0 <= d /\ d < M.ds.length)) :
  Calls prog 53 #[.pointer (some ⟨p, 0, none⟩), .int .i64 d] w fun e w' => e = .returned (.tuple #[.pointer none, .int .i64 2]) /\ w = w' := by
 have hm := ae (abl h);obtain ⟨g, c, rfl, _, _⟩ := h.slice;obtain ⟨c0, c1, c2, c3⟩ := h.mS;clear h;by_cases h0 : d < 0
 ·clear hd;go_enter func53, ntmps53;go_wp2_with fail;refine hm.out.mono ?_;rintro e w1 ⟨rfl, rfl⟩;go_wp2_with fail;go_ret2;exact ⟨rfl, rfl⟩
 ·have h1 : ¬(d < (M.ds.length : Int)) := by omega
  clear hd;go_enter func53, ntmps53;go_wp2_with fail;refine hm.out.mono ?_;rintro e w1 ⟨rfl, rfl⟩;go_wp2_with fail;go_ret2;exact ⟨rfl, rfl⟩
theorem kJ (h : bN (cw D) w p v Fs ps M) {k : Nat} (hk : k < M.ds.length) :
  Calls prog 53 #[.pointer (some ⟨p, 0, none⟩), .int .i64 k] w fun e w' => e = .returned (.tuple #[.pointer (some ⟨ps.getD k 0, 0, none⟩), .int .i64 0]) /\ w = w' := by
 have hm := ae (abl h);obtain ⟨g, c, rfl, _, _⟩ := h.slice;obtain ⟨c0, c1, c2, c3⟩ := h.mS;have hc := h.cell hk;generalize ps.getD k 0 = q at *;clear h;go_enter func53, ntmps53;go_wp2_with fail;refine hm.out.mono ?_;rintro e w1 ⟨rfl, rfl⟩;go_wp2_with fail;go_ret2;exact ⟨rfl, rfl⟩
theorem o6 (h : bN (cw D) w p v Fs ps M) {d : Int} (hd : eC M d ≠ 0) :
  Calls prog 141 #[.pointer (some ⟨p, 0, none⟩), .int .i64 d] w fun e w' => e = .returned (.tuple #[.pointer none, .int .i64 (eC M d)]) /\ w = w' := by
 have hm := ae (acJ h);rcases dE M d with ⟨e, hdk⟩ | ⟨e, hdk, ho⟩ | ⟨e, _⟩
 ·rw [e];have HD := ae hdk;clear e hdk hd h;go_enter func141, ntmps141;go_wp2_with fail;refine hm.out.mono ?_;rintro e w1 ⟨rfl, rfl⟩;rw [HD.out];go_wp2_with fail;go_ret2;exact ⟨rfl, rfl⟩
 ·rw [e];have HD := ae hdk;have HO := ae (kj h ho);clear e hdk hd h ho;go_enter func141, ntmps141;go_wp2_with fail;refine hm.out.mono ?_;rintro e w1 ⟨rfl, rfl⟩;rw [HD.out];go_wp2_with fail;refine HO.out.mono ?_;rintro e w1 ⟨rfl, rfl⟩;go_wp2_with fail;go_ret2;exact ⟨rfl, rfl⟩
 ·exact absurd e hd
theorem ku (h : bN (cw D) w p v Fs ps M) {k : Nat} (hdk : M.dark = false) (hk : k < M.ds.length) :
  Calls prog 141 #[.pointer (some ⟨p, 0, none⟩), .int .i64 k] w fun e w' => e = .returned (.tuple #[.pointer (some ⟨ps.getD k 0, 0, none⟩), .int .i64 0]) /\ w = w' := by
 have hm := ae (acJ h);have HD := ae hdk;have HO := ae (kJ h hk);clear hdk h;generalize ps.getD k 0 = q at *;go_enter func141, ntmps141;go_wp2_with fail;refine hm.out.mono ?_;rintro e w1 ⟨rfl, rfl⟩;rw [HD.out];go_wp2_with fail;refine HO.out.mono ?_;rintro e w1 ⟨rfl, rfl⟩;go_wp2_with fail;go_ret2;exact ⟨rfl, rfl⟩
end
section
variable {D : Dev} {w w' : World} {p : Nat} {v : Value} {Fs : Nat -> Nat -> Prop} {ps : List Nat} {M : a6}
theorem aak (d : Int) (h : bN (cw D) w p v Fs ps M) :
  Calls prog 129 #[.pointer (some ⟨p, 0, none⟩), .int .i64 d] w fun e w' => e = .returned (.int .i64 (iF M d)) /\ Below w.heap.size w w' := by
 rcases mj M d with ⟨e, ho⟩ | ⟨e, k, rfl, hk⟩
 ·have HS : Hid (iF M d = 0) := ae (by unfold iF; rw [if_neg (by omega)]);have HO := ae (kj h ho);clear e h ho;go_enter func129, ntmps129;go_wp2_with fail;refine HO.out.mono ?_;rintro e w1 ⟨rfl, rfl⟩;go_wp2_with fail;refine (aaw (.inl rfl)).mono ?_;rintro e w2 ⟨rfl, hb⟩;go_wp2_with fail;go_ret;exact ⟨cg HS.out.symm, hb⟩
 ·obtain ⟨x, hx⟩ : ∃ x, M.ds.getD k dm = x := ⟨_, rfl⟩;have hat := h.devs.at_ k hk;rw [hx] at hat
  have HS : Hid (iF M (k : Int) = (x.S.length : Int)) := ae (by unfold iF; rw [if_pos e, M.jM, hx]);have HO := ae (kJ h hk);have HD := ae (D.fR hat);clear e h hat hx;generalize ps.getD k 0 = q at *;go_enter func129, ntmps129;go_wp2_with fail;refine HO.out.mono ?_;rintro e w1 ⟨rfl, rfl⟩;go_wp2_with fail;refine HD.out.mono ?_;rintro e w2 ⟨rfl, hb⟩;go_wp2_with fail;go_ret;exact ⟨cg HS.out.symm, hb⟩
theorem ag6 (d : Int) (h : bN (cw D) w p v Fs ps M) :
  Calls prog 14 #[.pointer (some ⟨p, 0, none⟩), .int .i64 d] w fun e w' => e = .returned (.int .i64 (nH M d)) /\ Left (cw D) w p v Fs ps M.ds.length (m4 M d) w' := by
 rcases mj M d with ⟨e, ho⟩ | ⟨e, k, rfl, hk⟩
 ·have HL := ae (Left.same h (M' := m4 M d) (by unfold m4; rw [if_neg (by omega)]));have HO := ae (kj h ho);have HE := ae e;clear e h ho;go_enter func14, ntmps14;go_wp2_with fail;refine HO.out.mono ?_;rintro e w1 ⟨rfl, rfl⟩;go_wp2_with fail;go_ret;exact ⟨cg HE.out.symm, HL⟩
 ·obtain ⟨x, hx⟩ : ∃ x, M.ds.getD k dm = x := ⟨_, rfl⟩;have hat := h.devs.at_ k hk;rw [hx] at hat
  have HS : Hid (m4 M (k : Int) = M.put k ⟨x.S, [], true⟩) := ae (by unfold m4; rw [if_pos e, <- hx]; rfl);have HO := ae (kJ h hk);have HD := ae (D.fail hat);have HE := ae e;have HH := ae h;clear e h hat hx;go_enter func14, ntmps14;go_wp2_with fail;refine HO.out.mono ?_;rintro e w1 ⟨rfl, rfl⟩;go_wp2_with fail;refine HD.out.mono ?_;rintro e w2 ⟨rfl, F', h1, h2, h3⟩;go_wp2_with fail;go_ret;exact ⟨cg HE.out.symm, Left.turn HH hk h2 h3 (d := ⟨x.S, [], true⟩) h1 HS⟩
theorem ow (f : Value) (h : bN (cw D) w p v Fs ps M) (hl : M.left = 1) :
  Calls prog 143 #[.pointer (some ⟨p, 0, none⟩), f] w fun e w' => e = .returned (.int .i64 8) /\ bN (cw D) w' p v Fs ps M.night /\ Only (fun b => b = p) w w' := by
 obtain ⟨c0, c1, c2, c3⟩ := h.mS;have f3 := frozen_of_row w p 3 _ _ h.at_;rw [hl] at c2;have HH := ae h;have HL := ae hl;clear h hl;go_enter func143, ntmps143;go_wp2_with fail;go_ret;have ho := eh w p 3 (.bool true);refine ⟨rfl, HH.out.obj _ _ _ ho ?_, ho⟩;have := heap_setCell_same w p 3 _ _ (.bool true) HH.out.at_
 simpa [cw] using this
theorem acw (h : bN (cw D) w p v Fs ps M) (h2 : 1 < M.left) : bN (cw D) ((w.setCell ⟨p, 2, none⟩ (.int .i64 ((M.left : Int) - 1))).setCell ⟨p, 1, none⟩ (.int .i64 ((M.steps : Int) + 1))) p v Fs ps M.done /\ Only (fun b => b = p) w ((w.setCell ⟨p, 2, none⟩ (.int .i64 ((M.left : Int) - 1))).setCell ⟨p, 1, none⟩ (.int .i64 ((M.steps : Int) + 1))) := by
 have ho := (eh w p 2 (.int .i64 ((M.left : Int) - 1))).setCell (p := ⟨p, 1, none⟩) (.inl rfl) (.int .i64 ((M.steps : Int) + 1));refine ⟨h.obj _ _ _ ho ?_, ho⟩;have h3 := heap_setCell_same _ p 1 _ _ (.int .i64 ((M.steps : Int) + 1)) (heap_setCell_same w p 2 _ _ (.int .i64 ((M.left : Int) - 1)) h.at_);have e : ((M.left - 1 : Nat) : Int) = (M.left : Int) - 1 := by omega
 simpa [cw, e] using h3
theorem aat (h : bN (cw D) w p v Fs ps M) (h2 : M.left = 0) : bN (cw D) (w.setCell ⟨p, 1, none⟩ (.int .i64 ((M.steps : Int) + 1))) p v Fs ps M.done /\ Only (fun b => b = p) w (w.setCell ⟨p, 1, none⟩ (.int .i64 ((M.steps : Int) + 1))) := by
 have ho := eh w p 1 (.int .i64 ((M.steps : Int) + 1));refine ⟨h.obj _ _ _ ho ?_, ho⟩;have h3 := heap_setCell_same w p 1 _ _ (.int .i64 ((M.steps : Int) + 1)) h.at_
 simpa [cw, h2] using h3
theorem qN (fid : FuncId) (bs cs : Array Value) (h : bN (cw D) w p v Fs ps M) (hl : M.left ≠ 1) (hs : M.steps < 1000000) (hll : M.left < 9223372036854775808) (hf : ∀ (args : Array Value) (w : World), (callFunc fid args).run prog w = .ok (.enter fid args) w) (Q : Int -> World -> Prop)
  (hdo : ∀ w1, bN (cw D) w1 p v Fs ps M.done -> Only (fun b => b = p) w w1 -> Calls prog fid (bs ++ cs) w1 fun e w2 => ∃ x, e = .returned (.int .i64 x) /\ Q x w2) :
  Calls prog 143 #[.pointer (some ⟨p, 0, none⟩), .func (.func fid) bs cs] w fun e w2 => ∃ x, e = .returned (.int .i64 x) /\ Q x w2 := by
 obtain ⟨c0, c1, c2, c3⟩ := h.mS;have f2 := frozen_of_row w p 2 _ _ h.at_;have f1 := frozen_of_row w p 1 _ _ h.at_;have HH := ae h;clear h;have hl1 : ((M.left : Int) == 1) = false := by simpa using (by omega : ¬ (M.left : Int) = 1)
 by_cases h2 : 1 < M.left
 ·have HT := ae (acw HH h2);go_enter func143, ntmps143;go_wp2_with fail;refine (hdo _ HT.out.1 HT.out.2).mono ?_;rintro e w3 ⟨x, rfl, hq⟩;go_wp2_with fail;go_ret;exact ⟨x, rfl, hq⟩
 ·have hl0 : M.left = 0 := by omega
  have HT := ae (aat HH hl0);rw [hl0] at c2;clear hl1 hl hll h2 hl0;go_enter func143, ntmps143;go_wp2_with fail;refine (hdo _ HT.out.1 HT.out.2).mono ?_;rintro e w3 ⟨x, rfl, hq⟩;go_wp2_with fail;go_ret;exact ⟨x, rfl, hq⟩
end
section
variable {D : Dev} {w w' : World} {p : Nat} {v : Value} {Fs : Nat -> Nat -> Prop} {ps : List Nat} {M : a6}
theorem aic (d n : Int) (h : bN (cw D) w p v Fs ps M) :
  Calls prog 164 #[.pointer (some ⟨p, 0, none⟩), .int .i64 d, .int .i64 n] w fun e w' => e = .returned (.tuple #[blk (fp M d n), .int .i64 (cG M d n)]) /\ Below w.heap.size w w' := by
 have hA := (Below.refl w.heap.size w).alloc aj (.cells (cel aD).toArray 45);have h1 := h.below hA;have HT := ae (dS w aD 45);have HA := ae hA;by_cases hl : eC M d = 0
 ·rcases dE M d with ⟨e, _⟩ | ⟨e, _⟩ | ⟨e, hdk, k, rfl, hk⟩
  ·omega
  ·omega
  obtain ⟨x, hx⟩ : ∃ x, M.ds.getD k dm = x := ⟨_, rfl⟩;have hat := h1.devs.at_ k hk;rw [hx] at hat
  have HB : Hid (fp M (k : Int) n = fS x.S x.L x.g n) := ae (by unfold fp; rw [if_pos e, <- hx]; rfl);have HE : Hid (cG M (k : Int) n = dk x.S x.g n) := ae (by unfold cG; rw [if_pos e, <- hx]; rfl);have HO := ae (ku h1 hdk hk);have HD := ae (D.read n hat);have HSZ := ae (World.size_alloc w (.cells (cel aD).toArray 45));clear e h h1 hat hx hdk hA hl;rw [HB.out, HE.out];clear HB HE;generalize fS x.S x.L x.g n = y at *;generalize dk x.S x.g n = z at *;generalize ps.getD k 0 = q at *;go_enter func164, ntmps164;go_wp2_with (first | (refine ay rfl (aU rfl) ?_) | fail);refine HO.out.mono ?_;rintro e w1 ⟨rfl, rfl⟩;go_wp2_with fail;refine HD.out.mono ?_;rintro e w2 ⟨rfl, hb⟩;have HT2 := ae (bV HT (by rw [HSZ.out]; omega) hb);have HB2 := ae (HA.out.trans (hb.mono (by rw [HSZ.out]; omega)));clear hb;go_wp2_with (first | (refine bi rfl (aS rfl rfl rfl HT2.out) ?_) | fail);exact bodyPost_ret (bZ rfl _ _ _ rfl (World.rangeAt_setCells_same _ _ _ _ (by rw [aJ]; exact HT2))) rfl ⟨rfl, below_setCells HB2 aj _⟩
 ·have HB : Hid (fp M d n = aD) := ae (by unfold fp; rw [if_neg hl]);have HE : Hid (cG M d n = eC M d) := ae (by unfold cG; rw [if_neg hl]);have HO := ae (o6 h1 hl);clear h h1 hA;rw [HB.out, HE.out];rcases dE M d with ⟨e, _⟩ | ⟨e, _⟩ | ⟨e, _⟩
  rotate_right 1
  ·exact absurd e hl
  all_goals
   rw [e] at HO ⊢;clear e hl;go_enter func164, ntmps164;go_wp2_with (first | (refine ay rfl (aU rfl) ?_) | fail);refine HO.out.mono ?_;rintro e w1 ⟨rfl, rfl⟩;go_wp2_with (first | (refine ay rfl (cC (c := aD) (parts := []) rfl rfl) ?_) | (refine bi rfl (aS rfl rfl rfl HT.out) ?_));exact bodyPost_ret (bZ rfl _ _ _ rfl (World.rangeAt_setCells_same _ _ _ _ (by rw [aJ]; exact HT))) rfl ⟨rfl, below_setCells HA aj _⟩
theorem vF (d : Int) (h : bN (cw D) w p v Fs ps M) (hl : gP M d ≠ 0) :
  Calls prog 213 #[.pointer (some ⟨p, 0, none⟩), .int .i64 d] w fun e w' => e = .returned (.int .i64 (iz M d)) /\ Left (cw D) w p v Fs ps M.ds.length (f8 M d) w' := by
 have HE : Hid (iz M d = gP M d) := ae (by unfold iz; rw [if_neg hl]);have HL : Hid (∀ w', Below w.heap.size w w' -> Left (cw D) w p v Fs ps M.ds.length (f8 M d) w') := ae (fun w' hb => by
  have e : f8 M d = M := by unfold f8; rw [if_neg hl]
  rw [e];exact ⟨Fs, ps, h.below hb, Only.of_below _ hb, Grow.same _ _⟩)
 by_cases h0 : eC M d = 0
 ·rcases dE M d with ⟨e, _⟩ | ⟨e, _⟩ | ⟨e, hdk, k, rfl, hk⟩
  ·omega
  ·omega
  obtain ⟨x, hx⟩ : ∃ x, M.ds.getD k dm = x := ⟨_, rfl⟩;have hat := h.devs.at_ k hk;rw [hx] at hat
  have hg : x.g = true := by
   cases hg : x.g
   ·exfalso; apply hl; unfold gP; rw [if_pos e, show M.dev (k : Int) = x from hx, hg, if_neg (by decide)]
   ·rfl
  have H9 : Hid (gP M (k : Int) = 9) := ae (by unfold gP; rw [if_pos e, show M.dev (k : Int) = x from hx, hg, if_pos rfl]);have HO := ae (ku h hdk hk);have HD := ae (D.dead hat);have HG := ae hg;clear e h hat hx hdk hl h0 hg;generalize ps.getD k 0 = q at *;go_enter func213, ntmps213;go_wp2_with fail;refine HO.out.mono ?_;rintro e w1 ⟨rfl, rfl⟩;go_wp2_with fail;refine HD.out.mono ?_;rintro e w2 ⟨rfl, hb⟩;rw [HG.out];have HBB := ae hb;clear hb;go_wp2_with fail;go_ret;exact ⟨cg (by rw [HE.out, H9.out]), HL.out _ HBB⟩
 ·have HA : Hid (gP M d = eC M d) := ae (by unfold gP; rw [if_neg h0]);have HO := ae (o6 h h0);clear h hl;rw [HE.out, HA.out];rcases dE M d with ⟨e, _⟩ | ⟨e, _⟩ | ⟨e, _⟩
  rotate_right 1
  ·exact absurd e h0
  all_goals
   rw [e] at HO ⊢;clear e h0;go_enter func213, ntmps213;go_wp2_with fail;refine HO.out.mono ?_;rintro e w1 ⟨rfl, rfl⟩;go_wp2_with fail;go_ret;exact ⟨rfl, HL.out _ ak⟩
theorem afR (d : Int) (h : bN (cw D) w p v Fs ps M) (hs : M.steps < 1000000) (hll : M.left < 9223372036854775808) :
  Calls prog 213 #[.pointer (some ⟨p, 0, none⟩), .int .i64 d] w fun e w' => e = .returned (.int .i64 (iz M d)) /\ Left (cw D) w p v Fs ps M.ds.length (f8 M d) w' := by
 by_cases hl : gP M d = 0;rotate_left 1
 ·exact vF d h hl
 have hlit : eC M d = 0 := by
  unfold gP at hl;by_cases h0 : eC M d = 0
  ·exact h0
  ·rw [if_neg h0] at hl; exact hl
 rcases dE M d with ⟨e, _⟩ | ⟨e, _⟩ | ⟨e, hdk, k, rfl, hk⟩
 ·omega
 ·omega
 obtain ⟨x, hx⟩ : ∃ x, M.ds.getD k dm = x := ⟨_, rfl⟩;have hat := h.devs.at_ k hk;rw [hx] at hat
 have hg : x.g = false := by
  cases hg : x.g
  ·rfl
  ·exfalso; unfold gP at hl; rw [if_pos e, show M.dev (k : Int) = x from hx, hg, if_pos rfl] at hl; omega
 have HEE : Hid (iz M (k : Int) = M.ef) := ae (by unfold iz; rw [if_pos hl]);have HO := ae (ku h hdk hk);have HD := ae (D.dead hat);have HG := ae hg;obtain ⟨q, hq⟩ : ∃ q, ps.getD k 0 = q := ⟨_, rfl⟩;rw [hq] at HO HD;by_cases h1 : M.left = 1
 ·have HE : Hid (M.ef = 8) := ae (by unfold a6.ef; rw [if_pos h1]);have HS : Hid (f8 M (k : Int) = M.night) := ae (by unfold f8; rw [if_pos hl, if_pos h1]);have HH := ae h;have H1 := ae h1;clear e h hat hx hdk hl hg h1 hlit hs hll hq;go_enter func213, ntmps213;go_wp2_with fail;refine HO.out.mono ?_;rintro e w1 ⟨rfl, rfl⟩;go_wp2_with fail;refine HD.out.mono ?_;rintro e w2 ⟨rfl, hb⟩;rw [HG.out];have HBB := ae hb;clear hb;go_wp2_with fail;refine (ow _ (HH.out.below HBB) H1).mono ?_;rintro e w3 ⟨rfl, h3, ho3⟩;go_wp2_with fail;go_ret;refine ⟨cg (by rw [HEE.out, HE.out]), ?_⟩;rw [HS.out];exact ⟨Fs, ps, h3, (Only.of_below _ HBB).trans (mO _ ho3) fun b hb => .inl hb, Grow.same _ _⟩
 ·have HE : Hid (M.ef = 0) := ae (by unfold a6.ef; rw [if_neg h1]);have HS : Hid (f8 M (k : Int) = M.done.put k ⟨flS x.S x.L, [], x.g⟩) := ae (by unfold f8; rw [if_pos hl, if_neg h1, show M.dev (k : Int) = x from hx]; rfl);have HH := ae h;have H1 := ae h1;have HX := ae hx;have HSS := ae hs;have HLL := ae hll;have HQ := ae hq;clear e h hat hx hdk hl hg h1 hlit hs hll hq;go_enter func213, ntmps213;go_wp2_with fail;refine HO.out.mono ?_;rintro e w1 ⟨rfl, rfl⟩;go_wp2_with fail;refine HD.out.mono ?_;rintro e w2 ⟨rfl, hb⟩;rw [HG.out];have HBB := ae hb;clear hb;go_wp2_with fail;refine (qN 226 #[.pointer (some ⟨q, 0, none⟩)] #[] (HH.out.below HBB) H1 HSS HLL call226 (fun z w3 => z = 0 /\ Left (cw D) w2 p v Fs ps M.ds.length (f8 M (k : Int)) w3) ?_).mono ?_
  ·intro w3 h3 ho3;have hat3 := h3.devs.at_ k hk;rw [show M.done.ds.getD k dm = x from HX.out, HG.out, HQ.out] at hat3;refine (D.flush hat3).mono ?_;rintro e w4 ⟨he, F', g1, g2, g3⟩;refine ⟨0, by simpa using he, rfl, Left.behind ho3 (Left.turn h3 hk g2 g3 (d := ⟨flS x.S x.L, [], x.g⟩) (show D.Dv _ _ _ _ _ _ by rw [HG.out, HQ.out]; simpa using g1) HS)⟩
  ·rintro e w4 ⟨z, rfl, rfl, Fs', ps', h4, ho4, hg4⟩;go_wp2_with fail;go_ret;refine ⟨cg (by rw [HEE.out, HE.out]), Fs', ps', h4, (Only.of_below _ HBB).trans ho4 fun b hb => .inl hb, fun b hb => ?_⟩;rcases hg4 b hb with e | e
   ·exact .inl e
   ·exact .inr (aq HBB.out.size e)
end
section
variable {D : Dev} {w w' : World} {p : Nat} {v : Value} {Fs : Nat -> Nat -> Prop} {ps : List Nat} {M : a6}
def wr3 (w : World) (n : Int) (b : Blk) (q : Option Addr) : World := ((w.alloc (.cells #[.int .i64 n] 3)).alloc (.cells (cel b).toArray 45)).alloc (.cells #[.pointer q] 103)
theorem mT (w : World) (n : Int) (b : Blk) (q : Option Addr) : Below w.heap.size w (wr3 w n b q) /\ (wr3 w n b q).heap[w.heap.size]? = some (.cells #[.int .i64 n] 3) /\ (wr3 w n b q).heap[w.heap.size + 1]? = some (.cells (cel b).toArray 45) /\ (wr3 w n b q).heap[w.heap.size + 1 + 1]? = some (.cells #[.pointer q] 103) /\ (wr3 w n b q).heap.size = w.heap.size + 1 + 1 + 1 := by
 unfold wr3;have e1 := World.size_alloc (w := w) (o := .cells #[.int .i64 n] 3);have e2 := World.size_alloc (w := w.alloc (.cells #[.int .i64 n] 3)) (o := .cells (cel b).toArray 45);have e3 := World.size_alloc (w := (w.alloc (.cells #[.int .i64 n] 3)).alloc (.cells (cel b).toArray 45)) (o := .cells #[.pointer q] 103);have n1 := jX w #[.int .i64 n] 3;have n2 := jX (w.alloc (.cells #[.int .i64 n] 3)) (cel b).toArray 45;have n3 := jX ((w.alloc (.cells #[.int .i64 n] 3)).alloc (.cells (cel b).toArray 45)) #[.pointer q] 103;rw [e2, e1] at n3;rw [e1] at n2;refine ⟨(((Below.refl _ w).alloc aj _).alloc (by omega) _).alloc (by omega) _, bz (bz n1 _) _, bz n2 _, n3, by omega⟩
theorem ajJ {q a b c : Nat} {n : Int} {x : Blk} {F : Nat -> Prop} {S : List Blk} {L : List (Int × Blk)} {g : Bool} (h : D.Dv w F q S L g) (hL : L.length < 1000000) (hq : w.heap[a]? = some (.cells #[.pointer (some ⟨q, 0, none⟩)] 103)) (hn : w.heap[b]? = some (.cells #[.int .i64 n] 3)) (hx : w.heap[c]? = some (.cells (cel x).toArray 45)) :
  Calls prog 144 #[.pointer (some ⟨a, 0, none⟩), .pointer (some ⟨b, 0, none⟩), .pointer (some ⟨c, 0, none⟩)] w fun e w' => e = .returned (.int .i64 (dk S g n)) /\ ∃ F', D.Dv w' F' q S (wrL S L g n x) g /\ Only F w w' /\ Grow w F F' := by
 obtain ⟨c1, f1⟩ := one_cell hq;obtain ⟨c2, f2⟩ := one_cell hn;have HR := ae (jm hx);have HD := ae (D.write n x hL h);clear h hq hn hx;go_enter func144, ntmps144;go_wp2_with (first | (refine ay rfl (aW rfl rfl HR) ?_) | fail);refine HD.out.mono ?_;rintro e w4 ⟨rfl, F', g1, g2, g3⟩;go_wp2_with fail;go_ret;exact ⟨rfl, F', g1, g2, g3⟩
theorem td (d n : Int) (x : Blk) (h : bN (cw D) w p v Fs ps M) (h0 : eC M d ≠ 0) :
  Calls prog 94 #[.pointer (some ⟨p, 0, none⟩), .int .i64 d, .int .i64 n, blk x] w fun e w' => e = .returned (.int .i64 (eC M d)) /\ Below w.heap.size w w' := by
 have hA : Below w.heap.size w ((w.alloc (.cells #[.int .i64 n] 3)).alloc (.cells (cel x).toArray 45)) := ((Below.refl _ w).alloc aj _).alloc (by rw [World.size_alloc]; omega) _;have HO := ae (o6 (h.below hA) h0);have HF := ae (mT w n x none).1;clear h hA;rcases dE M d with ⟨e, _⟩ | ⟨e, _⟩ | ⟨e, _⟩
 rotate_right 1
 ·exact absurd e h0
 all_goals
  rw [e] at HO ⊢;clear e h0;go_enter func94, ntmps94;go_wp2_with (first | (refine ay rfl (cd rfl rfl) ?_) | fail);refine HO.out.mono ?_;rintro e w1 ⟨rfl, rfl⟩;go_wp2_with fail;go_ret;exact ⟨rfl, HF⟩
end
section
variable {D : Dev} {w w' : World} {p : Nat} {v : Value} {Fs : Nat -> Nat -> Prop} {ps : List Nat} {M : a6}
theorem tH (n : Int) (x : Blk) (h : bN (cw D) w p v Fs ps M) {k : Nat} (hdk : M.dark = false) (hk : k < M.ds.length) (he : dk (M.ds.getD k dm).S (M.ds.getD k dm).g n ≠ 0) :
  Calls prog 94 #[.pointer (some ⟨p, 0, none⟩), .int .i64 k, .int .i64 n, blk x] w fun e w' => e = .returned (.int .i64 (dk (M.ds.getD k dm).S (M.ds.getD k dm).g n)) /\ Below w.heap.size w w' := by
 obtain ⟨y, hy⟩ : ∃ y, M.ds.getD k dm = y := ⟨_, rfl⟩;obtain ⟨q, hq⟩ : ∃ q, ps.getD k 0 = q := ⟨_, rfl⟩;have hA : Below w.heap.size w ((w.alloc (.cells #[.int .i64 n] 3)).alloc (.cells (cel x).toArray 45)) := ((Below.refl _ w).alloc aj _).alloc (by rw [World.size_alloc]; omega) _;have HO := ae (ku (h.below hA) hdk hk);obtain ⟨hB, k0, k1, k2, hsz⟩ := mT w n x (some ⟨q, 0, none⟩);have hat := (h.below hB).devs.at_ k hk;rw [hy, hq] at hat
 rw [hy] at he ⊢;rw [hq] at HO;have HD := ae (D.sure n hat);have HB := ae hB;obtain ⟨c0, f0⟩ := one_cell k0;obtain ⟨c2, f2⟩ := one_cell k2;rcases eY (S := y.S) (g := y.g) (n := n) with e | e | ⟨e, _⟩
 rotate_right 1
 ·exact absurd e he
 all_goals
  rw [e] at HD ⊢;clear e he h hA hB k0 k1 k2 hat hy hq hdk;go_enter func94, ntmps94;unfold wr3 at *;go_wp2_with (first | (refine ay rfl (cd rfl rfl) ?_) | fail);refine HO.out.mono ?_;rintro e w1 ⟨rfl, rfl⟩;go_wp2_with fail;refine HD.out.mono ?_;rintro e w2 ⟨rfl, hb⟩;have HBB := ae (HB.out.trans (hb.mono (by rw [hsz]; omega)));clear hb;go_wp2_with (first | (refine ay rfl (aU rfl) ?_) | (refine bi rfl (i5 rfl rfl rfl) ?_) | fail);go_ret;exact ⟨rfl, HBB.out.alloc HBB.out.size _⟩
theorem vR (n : Int) (x : Blk) (h : bN (cw D) w p v Fs ps M) {k : Nat} (hdk : M.dark = false) (hk : k < M.ds.length) (he : dk (M.ds.getD k dm).S (M.ds.getD k dm).g n = 0) (hs : M.steps < 1000000) (hll : M.left < 9223372036854775808) (hL : (M.ds.getD k dm).L.length < 1000000) :
  Calls prog 94 #[.pointer (some ⟨p, 0, none⟩), .int .i64 k, .int .i64 n, blk x] w fun e w' => e = .returned (.int .i64 M.ef) /\ Left (cw D) w p v Fs ps M.ds.length (et M (k : Int) n x) w' := by
 obtain ⟨y, hy⟩ : ∃ y, M.ds.getD k dm = y := ⟨_, rfl⟩;obtain ⟨q, hq⟩ : ∃ q, ps.getD k 0 = q := ⟨_, rfl⟩;have hA : Below w.heap.size w ((w.alloc (.cells #[.int .i64 n] 3)).alloc (.cells (cel x).toArray 45)) := ((Below.refl _ w).alloc aj _).alloc (by rw [World.size_alloc]; omega) _;have HO := ae (ku (h.below hA) hdk hk);obtain ⟨hB, k0, k1, k2, hsz⟩ := mT w n x (some ⟨q, 0, none⟩);have hat := (h.below hB).devs.at_ k hk;have hr0 : cG M (k : Int) n = 0 := by unfold cG; rw [if_pos (sn hdk hk), M.jM]; exact he
 rw [hy, hq] at hat
 rw [hy] at he hL;rw [hq] at HO;have HD := ae (D.sure n hat);have HB := ae hB;have HH := ae h;have HK0 := ae k0;have HK1 := ae k1;have HK2 := ae k2;have HE := ae he;have HSS := ae hs;have HLL := ae hll;have HL := ae hL;have HY := ae hy;have HQ := ae hq;have HR := ae hr0;obtain ⟨c0, f0⟩ := one_cell k0;obtain ⟨c2, f2⟩ := one_cell k2;rw [he] at HD;by_cases h1 : M.left = 1
 all_goals
  have H1 := ae h1;clear h1 he h hA hB k0 k1 k2 hat hy hq hdk hs hll hL hr0;go_enter func94, ntmps94;unfold wr3 at *;go_wp2_with (first | (refine ay rfl (cd rfl rfl) ?_) | fail);refine HO.out.mono ?_;rintro e w1 ⟨rfl, rfl⟩;go_wp2_with fail;refine HD.out.mono ?_;rintro e w2 ⟨rfl, hb⟩;have hb2 := HB.out.trans (hb.mono (by rw [hsz]; omega));have HBB := ae (hb2.alloc hb2.size (.cells (cel (kq y.S y.g n)).toArray 45));have HA0 := ae (bz (aB HK0 hb) (.cells (cel (kq y.S y.g n)).toArray 45));have HA1 := ae (bz (aB HK1 hb) (.cells (cel (kq y.S y.g n)).toArray 45));have HA2 := ae (bz (aB HK2 hb) (.cells (cel (kq y.S y.g n)).toArray 45));clear hb hb2 c0 c2 f0 f2 hsz;generalize kq y.S y.g n = z at *;go_wp2_with (first | (refine ay rfl (aU rfl) ?_) | (refine bi rfl (i5 rfl rfl rfl) ?_) | fail);generalize w2.alloc (.cells (cel z).toArray 45) = w3 at *
 ·refine (ow _ (HH.out.below HBB) H1).mono ?_;rintro e w4 ⟨rfl, h4, ho4⟩;go_wp2_with fail;go_ret;refine ⟨cg (by unfold a6.ef; rw [if_pos H1.out]), ?_⟩;rw [show et M (k : Int) n x = M.night from by unfold et; rw [if_pos HR.out, if_pos H1.out]];exact Left.above HBB (Left.obj h4 ho4 rfl)
 ·refine (qN 144 #[] _ (HH.out.below HBB) H1 HSS HLL call144 (fun z w4 => z = 0 /\ Left (cw D) w3 p v Fs ps M.ds.length (et M (k : Int) n x) w4) ?_).mono ?_
  ·intro w4 h4 ho4;have hat4 := h4.devs.at_ k hk;rw [show M.done.ds.getD k dm = y from HY.out, HQ.out] at hat4;have hne : ∀ j, j < 3 -> w.heap.size + j ≠ p := fun j _ e => by have := aV HH.out.at_; omega
   refine (ajJ hat4 HL (ho4.keep HA2 (hne 2 (by omega))) (ho4.keep HA0 (hne 0 (by omega))) (ho4.keep HA1 (hne 1 (by omega)))).mono ?_;rintro e w5 ⟨he5, F', g1, g2, g3⟩;refine ⟨_, he5, HE, Left.behind ho4 (Left.turn h4 hk g2 g3 (d := ⟨y.S, wrL y.S y.L y.g n x, y.g⟩) (show D.Dv _ _ _ _ _ _ by rw [HQ.out]; exact g1) ?_)⟩;unfold et;rw [if_pos HR.out, if_neg H1.out, show M.dev (k : Int) = y from HY.out]
   rfl
  ·rintro e w5 ⟨z, rfl, rfl, hl5⟩;have HL5 := ae (Left.above HBB hl5);clear hl5;go_wp2_with fail;go_ret;exact ⟨cg (by unfold a6.ef; rw [if_neg H1.out]), HL5⟩
theorem afc (d n : Int) (x : Blk) (h : bN (cw D) w p v Fs ps M) (hr : ∀ i, i < M.ds.length -> (M.ds.getD i dm).L.length < 1000000) (hs : M.steps < 1000000) (hll : M.left < 9223372036854775808) :
  Calls prog 94 #[.pointer (some ⟨p, 0, none⟩), .int .i64 d, .int .i64 n, blk x] w fun e w' => e = .returned (.int .i64 (eX M d n)) /\ Left (cw D) w p v Fs ps M.ds.length (et M d n x) w' := by
 by_cases h0 : eC M d = 0
 ·rcases dE M d with ⟨e, _⟩ | ⟨e, _⟩ | ⟨e, hdk, k, rfl, hk⟩
  ·omega
  ·omega
  have hr0 : cG M (k : Int) n = dk (M.ds.getD k dm).S (M.ds.getD k dm).g n := by unfold cG; rw [if_pos e, M.jM]
  by_cases he : dk (M.ds.getD k dm).S (M.ds.getD k dm).g n = 0
  ·refine (vR n x h hdk hk he hs hll (hr k hk)).mono ?_;rintro e w' ⟨rfl, hl⟩;exact ⟨by unfold eX; rw [hr0, if_pos he], hl⟩
  ·refine (tH n x h hdk hk he).mono ?_;rintro e w' ⟨rfl, hb⟩;exact ⟨by unfold eX; rw [hr0, if_neg he], Left.wk h hb (by unfold et; rw [hr0, if_neg he])⟩
 ·refine (td d n x h h0).mono ?_;rintro e w' ⟨rfl, hb⟩;have hr0 : cG M d n = eC M d := by unfold cG; rw [if_neg h0]
  exact ⟨by unfold eX; rw [hr0, if_neg h0], Left.wk h hb (by unfold et; rw [hr0, if_neg h0])⟩
end
section
variable {D : Dev} {w w' : World}
theorem aje {A : Option Addr} {n c : Nat} {ks : List Int} (hl : RdE bY w w.heap.size A n ks) (hnc : n <= c) (hc : c <= maxLen) :
  Calls prog 28 #[.slice A n c] w (fx (cw D) w ks) := by
 have hlen : ks.length = n := hl.1;unfold maxLen at hc;by_cases h1 : n < 1
 ·have HN := ae (show ¬ je ks from fun h => by have := h.1; omega);have h0 : n = 0 := by omega
  subst h0;clear hl hlen h1;go_enter func28, ntmps28;go_wp2;go_ret2;exact fx.no ak HN rfl
 by_cases h2 : 17 < n
 ·have HN := ae (show ¬ je ks from fun h => by have := h.2.1; omega);have h1' : ¬((n : Int) < 1) := by omega
  have h2' : ((n : Int) > 17) := by omega
  clear hl hlen h1 h2;go_enter func28, ntmps28;go_wp2;go_ret2;exact fx.no ak HN rfl
 have h1' : ¬((n : Int) < 1) := by omega
 have h2' : ¬((n : Int) > 17) := by omega
 have h3' : ¬(17 < (n : Int)) := by omega
 have HL := ae hl;have HLEN := ae hlen;have HMK := ae (show Making (cw D) w (w.alloc (.cells #[.slice none 0 0, .int .i64 0, .int .i64 0, .bool false] 126)) (.slice none 0 0) (fun _ _ => False) [] [] 0 false 0 from
  ⟨heap_alloc_new w _, aP.nil _ _, ⟨rfl, fun i hi => absurd hi (Nat.not_lt_zero i), fun i j hi => absurd hi (Nat.not_lt_zero i)⟩, fun i hi => absurd hi (Nat.not_lt_zero i), (Below.refl _ w).alloc aj _⟩)
 clear hl hlen;go_enter func28, ntmps28;go_wp2_with fail;generalize w.alloc (.cells #[.slice none 0 0, .int .i64 0, .int .i64 0, .bool false] 126) = w0 at *;clear h1' h2' h3'
 go_loopw [21] (fun i wr => ∃ (j : Nat) (v : Value) (Fs : Nat -> Nat -> Prop) (ps : List Nat), j <= n /\ i = .int .i64 j /\ Making (cw D) w wr v Fs ps ((ks.take j).map oo) 0 false 0 /\ ∀ q, q < j -> 1 <= ks.getD q 0 /\ ks.getD q 0 <= 512) (fun i _ => n - (intOf i).toNat)
 case atStart => exact ⟨0, _, _, _, Nat.zero_le _, rfl, HMK, fun q hq => absurd hq (Nat.not_lt_zero q)⟩
 case round =>
  obtain ⟨j, v, Fs, ps, hj, rfl, hmk, hall⟩ := hrel;have HALL := ae hall;clear hall HMK;by_cases hlt : j < n
  ·have hlj : (j : Int) < (n : Int) := by omega
   obtain ⟨bA, oA, rfl, hbA, hcA⟩ := (HL.out.below hmk.below).int hlt;have HM := ae hmk;obtain ⟨AS, cS, rfl, hs1, hs2⟩ := hmk.row.form;unfold maxLen at hs2;have hpl : ps.length = j := by have := hmk.devs.len; rw [List.length_map, List.length_take] at this; have := HLEN.out; omega
   have HPL := ae hpl;obtain ⟨z, hz⟩ : ∃ z, ks.getD j 0 = z := ⟨_, rfl⟩;rw [hz] at hcA;have HZ := ae hz;clear hmk hz hpl;by_cases hok : 1 <= z /\ z <= 512
   ·obtain ⟨k, rfl⟩ : ∃ k : Nat, z = k := ⟨z.toNat, by omega⟩;have hk1 : 1 <= k := by omega
    have hk2 : k <= 512 := by omega
    clear hok;go_wp2_with fail;refine (D.new_ok k wr hk1 hk2).mono ?_;rintro e w1 ⟨p', F', rfl, hd1, hb1, hF1⟩;have hat1 := aB HM.out.at_ hb1;obtain ⟨c0, c1, c2, c3⟩ := ez hat1;have hrow1 := HM.out.row.below hb1;have hrow2 := hrow1.below ((Below.refl _ w1).alloc aj (.cells ((cw D).E.cel p').toArray (cw D).E.t));have HR := ae hrow2;have HNEW := ae (fg (E := (cw D).E) (l := [p']) w1 ((cw D).E.cel p').toArray (cw D).E.t (by rw [eB]; simp [cv]));have HSZ := ae (show w.heap.size <= (w1.alloc (.cells ((cw D).E.cel p').toArray (cw D).E.t)).heap.size by rw [World.size_alloc]; have := HM.out.below.size; have := hb1.size; omega);have HD1 := ae hd1;have HB1 := ae hb1;have HF1 := ae hF1;have HAT := ae hat1;have HPS := ae (show ps.length + 1 <= 34359738368 by have := HPL.out; omega);clear hd1 hb1 hF1 hat1 hrow1 hrow2;have hal : w.heap.size < w1.heap.size := aV HAT;go_wp2_with (first | (refine ay rfl (du (E := (cw D).E) (a := p') rfl rfl rfl (by decide)) ?_) | (at_builtin; refine jO (cw D).E rfl _ _ rfl w.heap.size _ _ _ _ ps [p'] _ rfl rfl HR HNEW HSZ HPS ?_) | fail);intro v' w3 hm3 hg3 ho3;have hxv : v'.ownBlock ≠ some w.heap.size := fun e => by
     rcases ho3 _ e with e' | e'
     ·exact HM.out.row.dN HM.out.at_ (cw D).ne e'
     ·omega
    have HNX := ae (HM.out.next (fun _ _ => rfl) HB1 HF1 (d := oo k) HD1 hm3 hg3 ho3);have hvx : (Value.slice AS ps.length cS).ownBlock ≠ some w.heap.size := HM.out.row.dN HM.out.at_ (cw D).ne;have hat3 : w3.heap[w.heap.size]? = some _ := (hg3.block w.heap.size (by rw [World.size_alloc]; omega) (fun e => hvx e.symm)).trans (bz HAT _);obtain ⟨AV, cV, rfl, _, _⟩ := hm3.form;obtain ⟨d0, d1, d2, d3⟩ := ez hat3;have f0 := frozen_of_row w3 w.heap.size 0 _ _ hat3;clear hm3 hg3 ho3 hat3 c0 c1 c2 c3;go_wp2_with fail;go_roundw
    case rel =>
     refine ⟨j + 1, .slice AV (ps.length + 1) cV, upF Fs (List.map oo (List.take j ks)).length F', ps ++ [p'], by omega, by go_num, ?_, fun q hq => ?_⟩
     ·rw [lk (by have := HLEN.out; omega), HZ.out];have h6 := HNX.out;rw [show (ps ++ [p']).length = ps.length + 1 from by simp] at h6;exact h6
     ·by_cases e : q = j
      ·subst e; rw [HZ.out]; omega
      ·exact HALL.out q (by omega)
    case measure => simp [intOf]; omega
   ·have HB := ae HM.out.below;have HN := ae (show ¬ je ks from fun h => hok (by have := h.2.2 z (by rw [<- HZ.out]; exact kL (by have := HLEN.out; omega)); exact this));go_wp2_with fail;refine (D.new_no z wr hok).mono ?_;rintro e w1 ⟨rfl, hb1⟩;have HB1 := ae (HB.out.trans (hb1.mono HB.out.size));clear hb1 hok;go_wp2_with fail;go_ret2;exact fx.no HB1 HN rfl
  ·have hjn : j = n := by omega
   subst hjn;have hlj : ¬((j : Int) < (j : Int)) := by omega
   have HM := ae hmk;clear hmk;go_wp2_with fail;go_ret2;have h5 := HM.out;have hLL := HLEN.out;rw [<- hLL, List.take_length] at h5;obtain ⟨g1, g2, g3⟩ := h5.done (by rw [List.length_map]; omega) (by rw [List.length_map]; omega);refine ⟨g3, .inl ⟨⟨by omega, by omega, fun k hk => ?_⟩, _, _, _, _, rfl, g1, g2⟩⟩;obtain ⟨i, hi, rfl⟩ := List.getElem_of_mem hk;have := HALL.out i (by omega);rwa [List.getD_eq_getElem?_getD, List.getElem?_eq_getElem hi] at this
end
structure af3 where
 read : FuncId
 write : FuncId
 flush : FuncId
 fail : FuncId
 devices : FuncId
 fR : FuncId
structure a6.Wf (M : a6) : Prop where
 one : 1 <= M.ds.length
 cap : M.ds.length <= 17
 len : ∀ i, i < M.ds.length -> 1 <= (M.ds.getD i dm).S.length /\ (M.ds.getD i dm).S.length <= 512
structure Ben (I : af3) where
 Bn : World -> (Nat -> Prop) -> Nat -> a6 -> Prop
 lt : ∀ {w F p M}, Bn w F p M -> ∀ b, F b -> b < w.heap.size
 only : ∀ {w w' F G p M}, Bn w F p M -> Only G w w' -> (∀ b, F b -> ¬ G b) -> Bn w' F p M
 wf : ∀ {w F p M}, Bn w F p M -> M.Wf
 read : ∀ {w F p M} (d n : Int), Bn w F p M -> Calls prog I.read #[.pointer (some ⟨p, 0, none⟩), .int .i64 d, .int .i64 n] w fun e w' => e = .returned (.tuple #[blk (fp M d n), .int .i64 (cG M d n)]) /\ Below w.heap.size w w'
 write : ∀ {w F p M} (d n : Int) (b : Blk), Room M 1 -> Bn w F p M -> Calls prog I.write #[.pointer (some ⟨p, 0, none⟩), .int .i64 d, .int .i64 n, blk b] w fun e w' => e = .returned (.int .i64 (eX M d n)) /\ ∃ F', Bn w' F' p (et M d n b) /\ Only F w w' /\ Grow w F F'
 flush : ∀ {w F p M} (d : Int), Room M 1 -> Bn w F p M -> Calls prog I.flush #[.pointer (some ⟨p, 0, none⟩), .int .i64 d] w fun e w' => e = .returned (.int .i64 (iz M d)) /\ ∃ F', Bn w' F' p (f8 M d) /\ Only F w w' /\ Grow w F F'
 fail : ∀ {w F p M} (d : Int), Bn w F p M -> Calls prog I.fail #[.pointer (some ⟨p, 0, none⟩), .int .i64 d] w fun e w' => e = .returned (.int .i64 (nH M d)) /\ ∃ F', Bn w' F' p (m4 M d) /\ Only F w w' /\ Grow w F F'
 devices : ∀ {w F p M}, Bn w F p M -> Calls prog I.devices #[.pointer (some ⟨p, 0, none⟩)] w fun e w' => e = .returned (.int .i64 (M.ds.length : Int)) /\ Below w.heap.size w w'
 fR : ∀ {w F p M} (d : Int), Bn w F p M -> Calls prog I.fR #[.pointer (some ⟨p, 0, none⟩), .int .i64 d] w fun e w' => e = .returned (.int .i64 (iF M d)) /\ Below w.heap.size w w'
theorem Ben.below {I : af3} (R : Ben I) {w w' : World} {F : Nat -> Prop} {p : Nat} {M : a6} (h : R.Bn w F p M) (k : Below w.heap.size w w') : R.Bn w' F p M := R.only h (Only.of_below (fun _ => False) k) fun _ _ e => e
section
variable {k : gM} {w w' : World} {F G : Nat -> Prop} {p : Nat} {M M' : a6}
def ah9 (Bn : World -> (Nat -> Prop) -> Nat -> a6 -> Prop) (w : World) (ks : List Int) (e : Ending) (w' : World) : Prop :=
 Below w.heap.size w w' /\ ((je ks /\ ∃ p F, e = .returned (.tuple #[.pointer (some ⟨p, 0, none⟩), .int .i64 0]) /\ Bn w' F p (ir ks) /\ ∀ b, F b -> w.heap.size <= b) \/ (¬ je ks /\ e = .returned (.tuple #[.pointer none, .int .i64 2])))
def InB (k : gM) (w : World) (F : Nat -> Prop) (p : Nat) (M : a6) : Prop := ∃ v Fs ps, F = iI p v Fs M.ds.length /\ bN k w p v Fs ps M
theorem InB.lt (h : InB k w F p M) : ∀ b, F b -> b < w.heap.size := by
 obtain ⟨v, Fs, ps, rfl, h⟩ := h;exact h.lt
theorem InB.only (h : InB k w F p M) (ho : Only G w w') (hn : ∀ b, F b -> ¬ G b) : InB k w' F p M := by
 obtain ⟨v, Fs, ps, rfl, h⟩ := h;exact ⟨v, Fs, ps, rfl, h.only ho hn⟩
theorem Left.out {v : Value} {Fs : Nat -> Nat -> Prop} {ps : List Nat} (h : Left k w p v Fs ps M.ds.length M' w') : ∃ F', InB k w' F' p M' /\ Only (iI p v Fs M.ds.length) w w' /\ Grow w (iI p v Fs M.ds.length) F' := by
 obtain ⟨Fs', ps', h1, h2, h3⟩ := h;exact ⟨_, ⟨v, Fs', ps', rfl, h1⟩, h2, h3⟩
end
def ajp : af3 where
 read := 164
 write := 94
 flush := 213
 fail := 14
 devices := 75
 fR := 129
theorem Dev.ajq {D : Dev} {w : World} {p : Nat} {v : Value} {Fs : Nat -> Nat -> Prop} {ps : List Nat} {M : a6} (h : bN (cw D) w p v Fs ps M) : M.Wf :=
 ⟨h.one, h.cap, fun i hi => ⟨(D.fit (h.devs.at_ i hi)).2, D.cap (h.devs.at_ i hi)⟩⟩
def ajV (D : Dev) : Ben ajp where
 Bn := InB (cw D)
 lt := InB.lt
 only := InB.only
 wf := fun ⟨_, _, _, _, h⟩ => D.ajq h
 read := fun d n ⟨_, _, _, _, h⟩ => aic d n h
 write := fun d n b hr ⟨_, _, _, e, h⟩ => by
  subst e;exact (afc d n b h (fun i hi => hr.at_ hi) (by have := hr.1; omega) hr.2.1).mono fun e w' ⟨h1, h2⟩ => ⟨h1, h2.out⟩
 flush := fun d hr ⟨_, _, _, e, h⟩ => by
  subst e;exact (afR d h (by have := hr.1; omega) hr.2.1).mono fun e w' ⟨h1, h2⟩ => ⟨h1, h2.out⟩
 fail := fun d ⟨_, _, _, e, h⟩ => by
  subst e;exact (ag6 d h).mono fun e w' ⟨h1, h2⟩ => ⟨h1, h2.out⟩
 devices := fun ⟨_, _, _, _, h⟩ => (qQ h).mono fun e w' ⟨h1, h2⟩ => ⟨h1, iK h2⟩
 fR := fun d ⟨_, _, _, _, h⟩ => aak d h
theorem fx.hid {k : gM} {w w' : World} {ks : List Int} {e : Ending} (h : fx k w ks e w') : ah9 (InB k) w ks e w' := by
 obtain ⟨h1, h | h⟩ := h
 ·obtain ⟨h0, p, v, Fs, ps, h2, h3, h4⟩ := h;exact ⟨h1, .inl ⟨h0, p, _, h2, ⟨v, Fs, ps, rfl, h3⟩, h4⟩⟩
 ·exact ⟨h1, .inr h⟩
structure aju extends Ben ajp where
 new : ∀ {w A n c ks}, RdE bY w w.heap.size A n ks -> n <= c -> c <= maxLen -> Calls prog 28 #[.slice A n c] w (ah9 Bn w ks)
def bF : aju where
 toBen := ajV aii
 new := fun h1 h2 h3 => (aje h1 h2 h3).mono fun _ _ h => h.hid
section
variable {ρ : Operand -> Value} {o : Oper} {x y : Operand} {w : World} {a : Int}
theorem zy {t r : TypeId} {b c : Int} (ho : o.op = .binOp .rem t x y r) (hx : ρ x = .int .u8 a) (hy : ρ y = .int .u8 b) (h0 : b ≠ 0) (h : a.tmod b = c) : (execOp ρ o).run prog w = .ok (.value (.int .u8 c)) w := by
 unfold execOp;simp [ho, hx, hy, eqGuard, binOp, Op.intDiv, h, h0]
theorem afs (h : IntKind.i64.wrap a = a) : (convert 5 3 (.int .u8 a)).run prog w = .ok (.int .i64 a) w := by
 simp [convert, go_sem, h]
theorem acB (ho : o.op = .convert 5 3 x) (hx : ρ x = .int .u8 a) (h : IntKind.i64.wrap a = a) : (execOp ρ o).run prog w = .ok (.value (.int .i64 a)) w := by
 unfold execOp;simp only [ho, hx, Sem.run_bind, afs h, Result.andThen_ok, Sem.run_pure]
end
theorem eV {a : Int} (h : -9223372036854775808 <= a /\ a <= 9223372036854775807) : IntKind.i64.wrap a = a := IntWalk.i64_in _ ⟨by omega, by omega⟩
def jn : Elt (Int × Blk) := uD 181 218 underlying181 (by kernel_rfl)
structure eG (w : World) (p : Nat) (vS vL : Value) (S : List Blk) (L : List (Int × Blk)) (g : Bool) : Prop where
 at_ : w.heap[p]? = some (.cells #[vS, vL, .bool g] 183)
 S_ : aP gv w 0 vS S
 L_ : aP jn w 0 vL L
section
variable {w w' : World} {p : Nat} {vS vL : Value} {S : List Blk} {L : List (Int × Blk)} {g : Bool} {F : Nat -> Prop}
theorem eG.lt (h : eG w p vS vL S L g) : ∀ k, foot p vS vL k -> k < w.heap.size := by
 intro k hk;rcases hk with rfl | hk | hk
 ·exact (Array.getElem?_eq_some_iff.1 h.at_).1
 ·exact h.S_.kb k hk
 ·exact h.L_.kb k hk
theorem eG.only (h : eG w p vS vL S L g) (k : Only F w w') (hn : ∀ b, foot p vS vL b -> ¬ F b) : eG w' p vS vL S L g :=
 ⟨k.keep h.at_ (hn p (.inl rfl)), h.S_.only k fun b hb => hn b (.inr (.inl hb)), h.L_.only k fun b hb => hn b (.inr (.inr hb))⟩
theorem eG.below (h : eG w p vS vL S L g) (k : Below w.heap.size w w') : eG w' p vS vL S L g := h.only (Only.of_below (fun _ => False) k) fun _ _ e => e
end
theorem lE (p : Nat) (vS vL : Value) (S : List Blk) (L : List (Int × Blk)) (g : Bool) (n : Int) (w : World) (h : eG w p vS vL S L g) :
  Calls prog 149 #[.pointer (some ⟨p, 0, none⟩), .int .i64 n] w fun e w' => e = .returned (.int .i64 (dk S g n)) /\ w = w' := by
 obtain ⟨c0, c1, c2⟩ := cells3 h.at_;obtain ⟨A, c, rfl, hc1, hc2⟩ := h.S_.form;by_cases h0 : n < 0
 ·have HE := ae (oR (S := S) (n := n) g (by omega));go_enter func149, ntmps149;go_wp2;go_ret;exact ⟨cg HE.out.symm, rfl⟩
 ·by_cases h1 : n < S.length
  ·cases g
   ·have HE := ae (ld (S := S) (n := n) (by omega));go_enter func149, ntmps149;go_wp2;go_ret;exact ⟨cg HE.out.symm, rfl⟩
   ·have HE := ae (qF (S := S) (n := n) (by omega));go_enter func149, ntmps149;go_wp2;go_ret;exact ⟨cg HE.out.symm, rfl⟩
  ·have HE := ae (oR (S := S) (n := n) g (by omega));go_enter func149, ntmps149;go_wp2;go_ret;exact ⟨cg HE.out.symm, rfl⟩
end Go.Proofs.YtdmhelalbemlcaaGreatDoor
