import Derived.Test.YtlmdklakcmnaiaaGreatDoorBnab
import Derived.Laws.CopyRow
import Derived.RangeFuncNested
import Derived.RangeFuncBound
import Derived.RangeFuncCalls
import Derived.RangeFuncLeaves
import Derived.Shelf.Abstract
import Derived.Shelf.RegionOpen
import Derived.OwnWalkIn
import Derived.TacticsInMore
import Derived.LoopNIn
import Derived.LoopIn
namespace Go.Proofs.YtlmdklakcmnaiaaGreatDoor
set_option maxHeartbeats 8000000
open Go.Proofs.Tryz
open Go.RowKit
set_option linter.unusedVariables false
set_option maxRecDepth 100000
def LwE : Elt (Int × Blk) := acd 128 192 underlying128 (by kernel_rfl)
theorem dY {w : World} {b : Nat} {t : TypeId} {x y z u : Value} (h : w.heap[b]? = some (.cells #[x, y, z, u] t (0, 0))) : w.cell? ⟨b, 0, none⟩ = some x /\ w.cell? ⟨b, 1, none⟩ = some y /\ w.cell? ⟨b, 2, none⟩ = some z /\ w.cell? ⟨b, 3, none⟩ = some u := by
 refine ⟨?_, ?_, ?_, ?_⟩
 ·rw [cell_of_row w b 0 _ t (0, 0) h]; rfl
 ·rw [cell_of_row w b 1 _ t (0, 0) h]; rfl
 ·rw [cell_of_row w b 2 _ t (0, 0) h]; rfl
 ·rw [cell_of_row w b 3 _ t (0, 0) h]; rfl
structure PD (w : World) (p : Nat) (vS vL : Value) (S : List Blk) (L : List (Int × Blk)) (g : Bool) : Prop where
 at_ : w.heap[p]? = some (.cells #[.int .i64 (S.length : Int), vS, vL, .bool g] 130)
 one : 1 <= S.length
 S_ : aO oD w 0 vS (if g = true then [] else S)
 L_ : aO LwE w 0 vL L
 dead : g = true -> L = []
section
variable {w w' : World} {p : Nat} {vS vL : Value} {S : List Blk} {L : List (Int × Blk)} {g : Bool} {F : Nat -> Prop}
theorem PD.lt (h : PD w p vS vL S L g) : ∀ k, foot p vS vL k -> k < w.heap.size := by
 intro k hk;rcases hk with rfl | hk | hk
 ·exact (Array.getElem?_eq_some_iff.1 h.at_).1
 ·exact h.S_.jM k hk
 ·exact h.L_.jM k hk
theorem PD.only (h : PD w p vS vL S L g) (k : Only F w w') (hn : ∀ b, foot p vS vL b -> ¬ F b) : PD w' p vS vL S L g :=
 ⟨k.keep h.at_ (hn p (.inl rfl)), h.one, h.S_.only k fun b hb => hn b (.inr (.inl hb)), h.L_.only k fun b hb => hn b (.inr (.inr hb)), h.dead⟩
theorem PD.below (h : PD w p vS vL S L g) (k : Below w.heap.size w w') : PD w' p vS vL S L g := h.only (Only.of_below (fun _ => False) k) fun _ _ e => e
theorem PD.alive (h : PD w p vS vL S L false) : aO oD w 0 vS S := h.S_
end
theorem kb (p : Nat) (vS vL : Value) (S : List Blk) (L : List (Int × Blk)) (g : Bool) (w : World) (h : PD w p vS vL S L g) :
  Calls prog 63 #[.pointer (some ⟨p, 0, none⟩)] w fun e w' => e = .returned (.bool true) /\ w = w' := by
 obtain ⟨c0, c1, c2, c3⟩ := dY h.at_;have h1 : 0 < S.length := h.one;go_enter func63, ntmps63;go_wp2;go_ret;exact ⟨rfl, rfl⟩
theorem abk (p : Nat) (vS vL : Value) (S : List Blk) (L : List (Int × Blk)) (g : Bool) (n : Int) (w : World) (h : PD w p vS vL S L g) :
  Calls prog 109 #[.pointer (some ⟨p, 0, none⟩), .int .i64 n] w fun e w' => e = .returned (.bool (decide (0 <= n /\ n < S.length))) /\ w = w' := by
 obtain ⟨c0, c1, c2, c3⟩ := dY h.at_;by_cases h0 : 0 <= n
 ·by_cases h1 : n < S.length
  ·have HD := ae (ao (p := 0 <= n /\ n < S.length) ⟨h0, h1⟩);go_enter func109, ntmps109;go_wp2;go_ret;exact ⟨a8 HD.out.symm, rfl⟩
  ·have HD := ae (am (p := 0 <= n /\ n < S.length) (fun e => h1 e.2));go_enter func109, ntmps109;go_wp2;go_ret;exact ⟨a8 (am (by omega)).symm, rfl⟩
 ·have HD := ae (am (p := 0 <= n /\ n < S.length) (fun e => h0 e.1));go_enter func109, ntmps109;go_wp2;go_ret;exact ⟨a8 (by have e : decide (0 <= n) = false := am (by omega); rw [e]; rfl), rfl⟩
theorem fO (p : Nat) (vS vL : Value) (S : List Blk) (L : List (Int × Blk)) (g : Bool) (n : Int) (w : World) (h : PD w p vS vL S L g) :
  Calls prog 73 #[.pointer (some ⟨p, 0, none⟩), .int .i64 n] w fun e w' => e = .returned (.int .i64 (dH S g n)) /\ w = w' := by
 obtain ⟨c0, c1, c2, c3⟩ := dY h.at_;by_cases h1 : 0 <= n /\ n < S.length
 ·have HD := ae (ao h1);cases g
  ·have HE := ae (l7 h1);clear h1;go_enter func73, ntmps73;go_wp2_with fail;refine (kb p vS vL S L false w h).mono ?_;rintro e w1 ⟨rfl, rfl⟩;go_wp2_with fail;refine (abk p vS vL S L false n w h).mono ?_;rintro e w1 ⟨rfl, rfl⟩;rw [HD.out];go_wp2_with fail;go_ret;exact ⟨dk HE.out.symm, rfl⟩
  ·have HE := ae (yP h1);clear h1;go_enter func73, ntmps73;go_wp2_with fail;refine (kb p vS vL S L true w h).mono ?_;rintro e w1 ⟨rfl, rfl⟩;go_wp2_with fail;refine (abk p vS vL S L true n w h).mono ?_;rintro e w1 ⟨rfl, rfl⟩;rw [HD.out];go_wp2_with fail;go_ret;exact ⟨dk HE.out.symm, rfl⟩
 ·have HD := ae (am h1);have HE := ae (abK g h1);clear h1;go_enter func73, ntmps73;go_wp2_with fail;refine (kb p vS vL S L g w h).mono ?_;rintro e w1 ⟨rfl, rfl⟩;go_wp2_with fail;refine (abk p vS vL S L g n w h).mono ?_;rintro e w1 ⟨rfl, rfl⟩;rw [HD.out];go_wp2_with fail;go_ret;exact ⟨dk HE.out.symm, rfl⟩
theorem aah (p : Nat) (vS vL : Value) (S : List Blk) (L : List (Int × Blk)) (g : Bool) (w : World) (h : PD w p vS vL S L g) :
  Calls prog 118 #[.pointer (some ⟨p, 0, none⟩)] w fun e w' => e = .returned (.int .i64 (S.length : Int)) /\ w = w' := by
 obtain ⟨c0, c1, c2, c3⟩ := dY h.at_;go_enter func118, ntmps118;go_wp2_with fail;refine (kb p vS vL S L g w h).mono ?_;rintro e w1 ⟨rfl, rfl⟩;go_wp2_with fail;go_ret;exact ⟨rfl, rfl⟩
theorem ahg (p : Nat) (vS vL : Value) (S : List Blk) (L : List (Int × Blk)) (g : Bool) (w : World) (h : PD w p vS vL S L g) :
  Calls prog 106 #[.pointer (some ⟨p, 0, none⟩)] w fun e w' => e = .returned (.bool g) /\ w = w' := by
 obtain ⟨c0, c1, c2, c3⟩ := dY h.at_;go_enter func106, ntmps106;go_wp2_with fail;refine (kb p vS vL S L g w h).mono ?_;rintro e w1 ⟨rfl, rfl⟩;go_wp2_with fail;go_ret;exact ⟨rfl, rfl⟩
theorem ago (p : Nat) (vS vL : Value) (S : List Blk) (L : List (Int × Blk)) (g : Bool) (n : Int) (w : World) (h : PD w p vS vL S L g) :
  Calls prog 35 #[.pointer (some ⟨p, 0, none⟩), .int .i64 n] w fun e w' => e = .returned (.tuple #[blk (iw S g n), .int .i64 (dH S g n)]) /\ Below w.heap.size w w' := by
 have hA := (Below.refl w.heap.size w).alloc aj (.cells (cel aI).toArray 44);have h1 := h.below hA;have HT := ae (fq w aI 44);have HA := ae hA;clear hA;rcases iz (S := S) (g := g) (n := n) with he | he | ⟨he, rfl, k, rfl, hk⟩
 ·have HS := ae (tA (S := S) (g := g) (n := n) (by omega));have HE := ae he;clear he;go_enter func35, ntmps35;go_wp2_with (first | (refine ay rfl (bW rfl) ?_) | fail);refine (fO p vS vL S L g n _ h1).mono ?_;rintro e w1 ⟨rfl, rfl⟩;rw [HE.out];go_wp2_with (first | (refine ay rfl (dn (c := aI) (parts := []) rfl rfl) ?_) | (refine bK rfl (bP rfl rfl rfl HT.out) ?_));refine bodyPost_ret (du rfl _ _ _ rfl (World.rangeAt_setCells_same _ _ _ _ (by rw [aM]; exact HT))) rfl ⟨by rw [HS.out, HE.out]; rfl, below_setCells HA aj _⟩
 ·have HS := ae (tA (S := S) (g := g) (n := n) (by omega));have HE := ae he;clear he;go_enter func35, ntmps35;go_wp2_with (first | (refine ay rfl (bW rfl) ?_) | fail);refine (fO p vS vL S L g n _ h1).mono ?_;rintro e w1 ⟨rfl, rfl⟩;rw [HE.out];go_wp2_with (first | (refine ay rfl (dn (c := aI) (parts := []) rfl rfl) ?_) | (refine bK rfl (bP rfl rfl rfl HT.out) ?_));refine bodyPost_ret (du rfl _ _ _ rfl (World.rangeAt_setCells_same _ _ _ _ (by rw [aM]; exact HT))) rfl ⟨by rw [HS.out, HE.out]; rfl, below_setCells HA aj _⟩
 ·have HS := ae (tH he);have HE := ae he;clear he;obtain ⟨A, c, rfl, hrd, hc1, hc2⟩ := h1.alive.open_ rfl;obtain ⟨b, off, rfl, hb, hr⟩ := hrd.blk hk;obtain ⟨c0, c1, c2, c3⟩ := dY h1.at_;generalize S.getD k aI = x at *;have HR := ae hr;clear hr hrd;go_enter func35, ntmps35;go_wp2_with (first | (refine ay rfl (bW rfl) ?_) | fail);refine (fO p _ vL S L false k _ h1).mono ?_;rintro e w1 ⟨rfl, rfl⟩;rw [HE.out];go_wp2_with (first | (refine ay rfl (bJ rfl rfl HR.out) ?_) | (refine bK rfl (bP rfl rfl rfl HT.out) ?_));refine bodyPost_ret (du rfl _ _ _ rfl (World.rangeAt_setCells_same _ _ _ _ (by rw [aM]; exact HT))) rfl ⟨by rw [HS.out, HE.out]; rfl, below_setCells HA aj _⟩
section
variable {w w' : World} {p : Nat} {vS vL : Value} {S : List Blk} {L : List (Int × Blk)} {g : Bool}
theorem xN (hp : w.heap[p]? = some (.cells #[.int .i64 (S.length : Int), vS, vL, .bool g] 130)) (h1 : 1 <= S.length) (hS : aO oD w 0 vS (if g = true then [] else S)) {vL' : Value} {L' : List (Int × Blk)} (h' : aO LwE w 0 vL' L') (hd : g = true -> L' = []) : PD (w.setCell ⟨p, 2, none⟩ vL') p vS vL' S L' g := by
 have hO := jS w p 2 vL';refine ⟨?_, h1, hS.only hO fun b hb e => hS.eZ hp (by decide) (by rw [hb, e]), h'.only hO fun b hb e => h'.eZ hp (by decide) (by rw [hb, e]), hd⟩;have := heap_setCell_same w p 2 _ _ vL' hp
 simpa using this
theorem PD.dZ (h : PD w p vS vL S L g) {vL' : Value} {L' : List (Int × Blk)} (h' : aO LwE w 0 vL' L') (hd : g = true -> L' = []) : PD (w.setCell ⟨p, 2, none⟩ vL') p vS vL' S L' g := xN h.at_ h.one h.S_ h' hd
theorem ah2 {b : Nat} : (Instr.fieldAt 130 (.pointer (some ⟨b, 0, none⟩)) 1).run prog w = .ok (.pointer (some ⟨b, 1, none⟩)) w := by kernel_rfl
theorem afU {b : Nat} : (Instr.fieldAt 130 (.pointer (some ⟨b, 0, none⟩)) 2).run prog w = .ok (.pointer (some ⟨b, 2, none⟩)) w := by kernel_rfl
theorem agw {b off : Nat} : (Instr.fieldAt 192 (.pointer (some ⟨b, off, none⟩)) 0).run prog w = .ok (.pointer (some ⟨b, off, none⟩)) w := by kernel_rfl
theorem ahN {b off : Nat} : (Instr.fieldAt 192 (.pointer (some ⟨b, off, none⟩)) 1).run prog w = .ok (.pointer (some ⟨b, off + 1, none⟩)) w := by kernel_rfl
theorem ldP {a : Addr} {A : Option Addr} {n c : Nat} (h : w.cell? a = some (.slice A n c)) : (Instr.loadAt 128 (.pointer (some a))).run prog w = .ok (.slice A n c) w := by simp [go_sem, h]
theorem stP {a : Addr} {v : Value} {A : Option Addr} {n c : Nat} (h : w.cell? a = some v) (hf : w.frozen? a = false) : (Instr.storeAt 128 (.pointer (some a)) (.slice A n c)).run prog w = .ok () (w.setCell a (.slice A n c)) := by simp [go_sem, h, hf]
theorem xe (k : Int) (b : Blk) : (Instr.build 192 #[(0, .int .i64 k), (1, blk b)]).run prog w = .ok (na k b) w := by
 have hz := mJ LwE w;have h1 := db (place := fun i => (#[(0, 1), (1, 64)] : Array (Nat × Nat))[i]?) (i := 0) (off := 0) (size := 1) (v := .int .i64 k) (pre := []) (mid := [.int .i64 0]) (post := cel aI) (vs := [.int .i64 k]) (rest := [(1, blk b)]) rfl rfl rfl rfl rfl;have h2 := db (place := fun i => (#[(0, 1), (1, 64)] : Array (Nat × Nat))[i]?) (i := 1) (off := 1) (size := 64) (v := blk b) (pre := [.int .i64 k]) (mid := cel aI) (post := []) (vs := cel b) (rest := []) rfl rfl (aM b) rfl (aM aI);simp only [List.nil_append, List.append_nil, List.singleton_append] at h1 h2;have h3 := h1.trans h2;have hz' : (zeroValue 192).run prog w = .ok (na 0 aI) w := hz;have hc : (na 0 aI).cells = (.int .i64 0 :: cel aI).toArray := rfl;simp only [Instr.build, Sem.run_bind, hz', run_underlying underlying192, Result.andThen_ok, hc];refine Eq.trans (congrArg (fun r => Result.andThen r _) (?h : _ = Result.ok #[(0, 1), (1, 64)] w)) ?_
 case h => kernel_rfl
 simp only [Result.andThen_ok];have h4 : Instr.fill (fun i => (#[(0, 1), (1, 64)] : Array (Nat × Nat))[i]?) (.int .i64 k :: cel b).toArray [] = some (.int .i64 k :: cel b).toArray := by rw [Instr.fill]
 rw [h3.trans h4]
 rfl
theorem sW {ρ : Operand -> Value} {o : Oper} {x y : Operand} {k : Int} {b : Blk} (ho : o.op = .build 192 #[(0, x), (1, y)]) (hx : ρ x = .int .i64 k) (hy : ρ y = blk b) : (execOp ρ o).run prog w = .ok (.value (na k b)) w := by
 have h := xe (w := w) k b;unfold execOp;simp only [ho, List.map_toArray, List.map_cons, List.map_nil, hx, hy, Sem.run_bind, h, Result.andThen_ok, Sem.run_pure]
theorem uD (k : Int) (b : Blk) : (na k b).cells = (LwE.cel (k, b)).toArray := rfl
end
theorem agJ (p : Nat) (vS vL : Value) (S : List Blk) (L : List (Int × Blk)) (g : Bool) (w : World) (h : PD w p vS vL S L g) :
  Calls prog 29 #[.pointer (some ⟨p, 0, none⟩)] w fun e w' => e = .returned (.int .i64 0) /\ PD w' p (.slice none 0 0) (.slice none 0 0) S [] true /\ Only (foot p vS vL) w w' := by
 obtain ⟨c0, c1, c2, c3⟩ := dY h.at_;have f0 := frozen_of_row w p 0 _ _ h.at_;have f1 := frozen_of_row w p 1 _ _ h.at_;have f2 := frozen_of_row w p 2 _ _ h.at_;have f3 := frozen_of_row w p 3 _ _ h.at_;have H := ae h;clear h;go_enter func29, ntmps29;go_wp2_with fail;refine (kb p vS vL S L g w H).mono ?_;rintro e w1 ⟨rfl, rfl⟩;go_wp2_with fail;go_ret;refine ⟨rfl, ⟨?_, H.out.one, aO.nil _ _, aO.nil _ _, fun _ => rfl⟩, ?_⟩
 ·have h0 := H.out.at_;have h1 := heap_setCell_same w p 0 _ _ (.int .i64 (S.length : Int)) h0;have h2 := heap_setCell_same _ p 1 _ _ (.slice none 0 0) h1;have h3 := heap_setCell_same _ p 2 _ _ (.slice none 0 0) h2;have h4 := heap_setCell_same _ p 3 _ _ (.bool true) h3
  simpa using h4
 ·have hO : Only (fun b => b = p) w w := Only.refl _ _;exact ((((hO.setCell (p := ⟨p, 0, none⟩) (.inl rfl) _).setCell (p := ⟨p, 1, none⟩) (.inl rfl) _).setCell (p := ⟨p, 2, none⟩) (.inl rfl) _).setCell (p := ⟨p, 3, none⟩) (.inl rfl) _).widen fun b hb => .inl hb
theorem xa (p : Nat) (vS vL : Value) (S : List Blk) (L : List (Int × Blk)) (g : Bool) (n : Int) (b : Blk) (w : World) (h : PD w p vS vL S L g) (he0 : dH S g n ≠ 0) :
  Calls prog 114 #[.pointer (some ⟨p, 0, none⟩), .int .i64 n, blk b] w fun e w' => e = .returned (.int .i64 (dH S g n)) /\ Below w.heap.size w w' := by
 have hA := (Below.refl w.heap.size w).alloc aj (.cells (cel b).toArray 44);have h1 := h.below hA;have HA := ae hA;clear hA;have H0 := ae he0;rcases iz (S := S) (g := g) (n := n) with he | he | ⟨he, _⟩
 rotate_right 1
 ·exact absurd he he0
 all_goals
  have HE := ae he;clear he he0;go_enter func114, ntmps114;go_wp2_with (first | (refine ay rfl (cP rfl rfl) ?_) | fail);refine (fO p vS vL S L g n _ h1).mono ?_;rintro e w1 ⟨rfl, rfl⟩;rw [HE.out];go_wp2_with fail;go_ret;exact ⟨dk HE.out.symm, HA⟩
theorem vD (p k : Nat) (vS vL : Value) (S : List Blk) (L : List (Int × Blk)) (b : Blk) (w : World) (h : PD w p vS vL S L false) (hk : k < S.length) (hL : L.length < 1000000) :
  Calls prog 114 #[.pointer (some ⟨p, 0, none⟩), .int .i64 k, blk b] w fun e w' => e = .returned (.int .i64 0) /\ ∃ vL', PD w' p vS vL' S (L ++ [((k : Int), b)]) false /\ Only (foot p vS vL) w w' /\ (∀ x, vL'.ownBlock = some x -> vL.ownBlock = some x \/ w.heap.size <= x) := by
 have hA := (Below.refl w.heap.size w).alloc aj (.cells (cel b).toArray 44);have h1 := h.below hA;have HA := ae hA;have HE := ae (l7 (S := S) (n := (k : Int)) (by omega));have HB := ae (ly w (cel b).toArray 44);clear hA;obtain ⟨AL, cL, rfl, hl1, hl2⟩ := h1.L_.form;go_enter func114, ntmps114;go_wp2_with (first | (refine ay rfl (cP rfl rfl) ?_) | fail);refine (fO p vS _ S L false k _ h1).mono ?_;rintro e w1 ⟨rfl, rfl⟩;rw [HE.out];go_wp2_with fail;generalize hy : w.heap.size = y at *;generalize w.alloc (.cells (cel b).toArray 44) = w1 at *;refine oH (fun w' => w'.heap[p]? = some (.cells #[.int .i64 (S.length : Int), vS, .slice AL L.length cL, .bool false] 130) /\ w'.heap[y]? = some (.cells (cel b).toArray 44)) 12 (by kernel_rfl) ?_;change fm _ _ _ _ _ _ 13 _ _ w1.drew;have hS : w1.drew.heap[p]? = some (.cells #[.int .i64 (S.length : Int), vS, .slice AL L.length cL, .bool false] 130) /\ w1.drew.heap[y]? = some (.cells (cel b).toArray 44) := ⟨h1.at_, HB⟩;refine ajF 0 rfl (fun _ hw => aL rfl ajL) hS ?_;refine ajF 1 rfl (fun _ hw => aL rfl ajL) hS ?_;refine ajF 2 rfl (fun _ hw => bj rfl ajL) hS ?_;refine ajF 3 rfl (fun _ hw => ax rfl ajL afU) hS ?_;refine ajF 4 rfl (fun _ hw => aC rfl ajL (ldP (dY hw.1).2.2.1)) hS ?_;refine ajF 5 rfl (fun _ hw => aL rfl ajL) hS ?_;refine ajF 6 rfl (fun _ hw => bJ rfl ajL (rk hw.2)) hS ?_;refine ajF 7 rfl (fun _ hw => sW rfl ajL ajL) hS ?_;have hr : PD w1.drew p vS (.slice AL L.length cL) S L false := ⟨h1.at_, h1.one, h1.S_, h1.L_, h1.dead⟩;have hS2 : PD (w1.drew.alloc (.cells (LwE.cel ((k : Int), b)).toArray LwE.t)) p vS (.slice AL L.length cL) S L false := hr.below (ak.alloc aj _);have hb2 := br hS.2 (.cells (LwE.cel ((k : Int), b)).toArray LwE.t);have hnew : RdE LwE _ _ _ 1 _ := fI (E := LwE) (l := [((k : Int), b)]) w1.drew (LwE.cel ((k : Int), b)).toArray LwE.t (by rw [eD]; simp [cu]);obtain ⟨v3, w3, hrun, hm3, hg3, ho3⟩ := lY LwE _ 128 0 _ 1 1 _ _ _ _ hS2.L_ hnew (Nat.zero_le _) (by omega);have hO2 : Only (foot p vS (.slice AL L.length cL)) w (w1.drew.alloc (.cells (LwE.cel ((k : Int), b)).toArray LwE.t)) := (Only.of_below _ (hy ▸ HA.out)).drew.alloc _;have hO3 := hO2.grown hg3 (fun x hx => .inl (.inr (.inr hx)));have hp3 : w3.heap[p]? = some (.cells #[.int .i64 (S.length : Int), vS, .slice AL L.length cL, .bool false] 130) := (hg3.block p (aT hS2.at_) (fun e => hS2.L_.eZ hS2.at_ (by decide) e.symm)).trans hS2.at_;have hy3 : w3.heap[y]? = some (.cells (cel b).toArray 44) := (hg3.block y (aT hb2) (fun e => hS2.L_.eZ hb2 (by decide) e.symm)).trans hb2;have hSS3 := hS2.S_.kept hg3 (hS2.S_.other hS2.L_ (by decide));refine kD 8 rfl (by kernel_rfl) rfl (el (E := LwE) (a := ((k : Int), b)) rfl ajL (uD _ _) (by decide)) (fun _ => ⟨hS2.at_, hb2⟩) ?_;simp only [aa];refine kD 9 rfl (by kernel_rfl) rfl (gI (E := LwE) rfl ajL ajL hrun) (fun _ => ⟨hp3, hy3⟩) ?_;simp only [aa];refine kD 10 rfl (by kernel_rfl) rfl (bj rfl ajL) (fun _ => ⟨hp3, hy3⟩) ?_;simp only [aa];refine kD 11 rfl (by kernel_rfl) rfl (ax rfl ajL afU) (fun _ => ⟨hp3, hy3⟩) ?_;simp only [aa];obtain ⟨A3, c3, rfl, _, _⟩ := hm3.form;refine abl 12 rfl (by kernel_rfl) rfl (c7 rfl (ev rfl) (ev rfl) (stP (dY hp3).2.2.1 (frozen_of_row _ _ _ _ _ hp3))) (fun e => absurd rfl e) ?_;simp only [Act.put];refine ut (by kernel_rfl) ?_ _;go_wp2_with fail;go_ret;refine ⟨rfl, _, xN hp3 h1.one hSS3 hm3 (fun e => absurd e (by decide)), hO3.setCell (.inl (.inl rfl)) _, fun x hx => ?_⟩;rcases ho3 x hx with e | e
 ·exact .inl e
 ·refine .inr (aq ?_ e);have := hO2.size;omega
theorem adv (p : Nat) (vS vL : Value) (S : List Blk) (L : List (Int × Blk)) (g : Bool) (n : Int) (b : Blk) (w : World) (h : PD w p vS vL S L g) (hL : L.length < 1000000) :
  Calls prog 114 #[.pointer (some ⟨p, 0, none⟩), .int .i64 n, blk b] w fun e w' => e = .returned (.int .i64 (dH S g n)) /\ ∃ vL', PD w' p vS vL' S (wrL S L g n b) g /\ Only (foot p vS vL) w w' /\ (∀ x, vL'.ownBlock = some x -> vL.ownBlock = some x \/ w.heap.size <= x) := by
 by_cases he : dH S g n = 0
 ·rcases iz (S := S) (g := g) (n := n) with h1 | h1 | ⟨_, rfl, k, rfl, hk⟩
  ·omega
  ·omega
  ·have e : wrL S L false k b = L ++ [((k : Int), b)] := by unfold wrL; rw [if_pos he]
   rw [e, he];exact vD p k vS vL S L b w h hk hL
 ·have e : wrL S L g n b = L := by unfold wrL; rw [if_neg he]
  rw [e];exact (xa p vS vL S L g n b w h he).mono fun e w' ⟨h1, h2⟩ => ⟨h1, vL, h.below h2, Only.of_below _ h2, fun x hx => .inl hx⟩
theorem ajo : ∃ d, prog.underlying LwE.t = some d /\ d.isRow = true := ⟨_, underlying192, rfl⟩
section
variable {ρ : Operand -> Value} {o : Oper} {x y : Operand} {w : World} {b off : Nat} {a : Int × Blk}
theorem oE (ho : o.op = .load LwE.t x) (hx : ρ x = .pointer (some ⟨b, off, none⟩)) (hc : w.rangeAt b off (eX a)) : (execOp ρ o).run prog w = .ok (.value (.agg (eX a).toArray)) w := by
 obtain ⟨d, h1, h2⟩ := ajo;exact wi (E := LwE) h1 h2 ho hx hc
theorem m4 (ho : o.op = .alloc LwE.t) : (execOp ρ o).run prog w = .ok (.value (.pointer (some ⟨w.heap.size, 0, none⟩))) (w.alloc (.cells LwE.z.cells LwE.t)) := sR (E := LwE) ho
theorem pY (ho : o.op = .store LwE.t x y) (hx : ρ x = .pointer (some ⟨w.heap.size, 0, none⟩)) (hy : ρ y = .agg (eX a).toArray) : (execOp ρ o).run prog (w.alloc (.cells LwE.z.cells LwE.t)) = .ok .skip (w.alloc (.cells (eX a).toArray LwE.t)) := ww (E := LwE) ho hx hy
end
section
variable {w w' : World} {p gg n c k : Nat} {vL : Value} {S : List Blk} {L : List (Int × Blk)}
theorem PD.gR (h : PD w p (.slice (some ⟨gg, 0, none⟩) n c) vL S L false) (hk : k < n) (x : Blk) : PD (w.setCells gg (k * 64) (cel x)) p (.slice (some ⟨gg, 0, none⟩) n c) vL (S.set k x) L false := by
 have hO : Only (fun b => b = gg) w (w.setCells gg (k * 64) (cel x)) := (Only.refl (fun b => b = gg) w).setCells (.inl rfl) _ _;refine ⟨?_, by rw [List.length_set]; exact h.one, h.alive.store hk x, h.L_.only hO fun b hb e => ?_, fun e => absurd e (by decide)⟩
 ·rw [List.length_set];exact hO.keep h.at_ (fun e => h.S_.eZ h.at_ (by decide) (by rw [e]; rfl))
 ·rcases h.L_.other h.S_ (by decide) with e' | e'
  ·rw [e'] at hb; cases hb
  ·exact e' (by rw [hb, e]; rfl)
end
theorem rQ (p : Nat) (vS vL : Value) (S : List Blk) (L : List (Int × Blk)) (w : World) (h : PD w p vS vL S L true) :
  Calls prog 108 #[.pointer (some ⟨p, 0, none⟩)] w fun e w' => e = .returned (.int .i64 9) /\ w = w' := by
 obtain ⟨c0, c1, c2, c3⟩ := dY h.at_;go_enter func108, ntmps108;go_wp2_with fail;refine (kb p vS vL S L true w h).mono ?_;rintro e w1 ⟨rfl, rfl⟩;go_wp2_with fail;go_ret;exact ⟨rfl, rfl⟩
theorem vn (p : Nat) (vS vL : Value) (S : List Blk) (L : List (Int × Blk)) (w : World) (h : PD w p vS vL S L false) (hF : Fit S L) :
  Calls prog 108 #[.pointer (some ⟨p, 0, none⟩)] w fun e w' => e = .returned (.int .i64 0) /\ PD w' p vS (.slice none 0 0) (flS S L) [] false /\ Only (foot p vS vL) w w' := by
 obtain ⟨c0, c1, c2, c3⟩ := dY h.at_;obtain ⟨AL, cL, rfl, hl1, hl2⟩ := h.L_.form;unfold maxLen at hl2;have HH := ae h;have HF := ae hF;clear h hF;go_enter func108, ntmps108;go_wp2_with fail;refine (kb p vS _ S L false w HH).mono ?_;rintro e w1 ⟨rfl, rfl⟩;go_wp2_with fail;clear c0 c1 c2 c3
 go_loopw [4, 17] (fun v4 i wr => ∃ j : Nat, j <= L.length /\ i = .int .i64 j /\ PD wr p vS (.slice AL L.length cL) (flS S (L.take j)) L false /\ Only (foot p vS (.slice AL L.length cL)) w wr) (fun _ i _ => L.length - (intOf i).toNat)
 case atStart => exact ⟨0, Nat.zero_le _, rfl, HH, Only.refl _ _⟩
 case round =>
  obtain ⟨j, hj, rfl, hr, hon⟩ := hrel;by_cases hlt : j < L.length
  ·obtain ⟨k, hqk, hk⟩ := HF.out.at_ hlt;have hlenS := nF S (L.take j);obtain ⟨gS, cS, rfl⟩ := hr.alive.slice hlenS (by omega);obtain ⟨bA, oA, hAe, hAl, rA⟩ := hr.L_.rd.pairs hlt;have HS := ae (adi (S := S) hlt);rw [hqk] at HS;generalize hq : L.getD j (0, aI) = q at *;obtain ⟨q1, x⟩ := q;obtain rfl : q1 = (k : Int) := hqk;clear hq;have h1 := hr.below (ak.alloc aj (.cells (eX ((k : Int), x)).toArray LwE.t));have HON := ae (hon.alloc (.cells (eX ((k : Int), x)).toArray LwE.t));have hnw := acM wr ((k : Int), x) LwE.t;have HRA := ae rA;subst hAe;clear rA hr hon;have hLL : (j : Int) < (L.length : Int) := by omega
   go_wp2_with (first | (refine ay rfl (cM (E := LwE) rfl rfl rfl hlt) ?_) | (refine ay rfl (oE rfl rfl HRA.out) ?_) | (refine ay rfl (m4 rfl) ?_) | (refine bK rfl (pY rfl rfl rfl) ?_) | fail);generalize hy : wr.heap.size = y at *;generalize wr.alloc (.cells (eX ((k : Int), x)).toArray LwE.t) = w1 at *;obtain ⟨c0, c1, c2, c3⟩ := dY h1.at_;have HA := ae c1;have HN := ae hnw;have H1 := ae h1;have HKT := ae (show w1.there gS (k * 64) 64 from by
    have := H1.out.alive.there hk (j := 0) (m := 64) aj;rw [Nat.add_zero] at this;exact this)
   clear c0 c1 c2 c3 hnw h1 hlenS;refine wp_region_still_tail 9 (by kernel_rfl) (by kernel_rfl) ?_;simp only [ac];refine aN rfl (aL rfl ajL) ?_;simp only [aa];refine aN rfl (bj rfl ajL) ?_;simp only [aa];refine aN rfl (ax rfl ajL ah2) ?_;simp only [aa];refine aN rfl (aC rfl ajL (ldB HA)) ?_;simp only [aa];refine aN rfl (ax rfl ajL agw) ?_;simp only [aa];refine aN rfl (aC rfl ajL (ldI HN.out.1)) ?_;simp only [aa];refine aN rfl (ax rfl ajL ahN) ?_;simp only [aa];refine aN rfl (bJ rfl ajL HN.out.2) ?_;simp only [aa];refine aN rfl (m7 (E := oD) rfl ajL ajL hk) ?_;simp only [aa];refine wpStill_nil ?_;change wpList _ _ _ _ _ w1.drew;go_wp2_with (first | (refine bK rfl (bP rfl rfl rfl HKT.out) ?_) | fail);go_roundw
   case rel =>
    have hd : PD w1.drew p (.slice (some ⟨gS, 0, none⟩) S.length cS) (.slice (some ⟨bA, oA, none⟩) L.length cL) (flS S (L.take j)) L false := ⟨H1.out.at_, H1.out.one, H1.out.S_, H1.out.L_, H1.out.dead⟩;exact ⟨j + 1, by omega, by go_num, by rw [HS.out]; exact hd.gR hk x, HON.out.drew.setCells (.inl (.inr (.inl rfl))) _ _⟩
   case measure => simp [intOf]; omega
  ·have hjn : j = L.length := by omega
   subst hjn;obtain ⟨c0, c1, c2, c3⟩ := dY hr.at_;have f2 := frozen_of_row wr p 2 _ _ hr.at_;have HRr := ae hr;have HON := ae hon;clear hr hon;have hLL : ¬((L.length : Int) < (L.length : Int)) := by omega
   go_wp2_with fail;go_ret;have hd := HRr.out.dZ (aO.nil _ _) (fun _ => rfl);rw [List.take_length] at hd;exact ⟨rfl, hd, HON.out.setCell (.inl (.inl rfl)) _⟩
theorem acr (k : Nat) (w : World) (h1 : 1 <= k) (h2 : k <= 512) :
  Calls prog 38 #[.int .i64 k] w fun e w' => ∃ p vS, e = .returned (.tuple #[.pointer (some ⟨p, 0, none⟩), .int .i64 0]) /\ PD w' p vS (.slice none 0 0) (List.replicate k aI) [] false /\ Below w.heap.size w w' /\ ∀ b, foot p vS (.slice none 0 0) b -> w.heap.size <= b := by
 go_enter func38, ntmps38;have HM := ae (heap_alloc_new w (.cells (madeCells (cel aI).toArray (k * 64)) 44));have HB := ae ((Below.refl w.heap.size w).alloc aj (.cells (madeCells (cel aI).toArray (k * 64)) 44));have HSZ := ae (World.size_alloc w (.cells (madeCells (cel aI).toArray (k * 64)) 44));go_wp2_with (first | (refine ay rfl (qn (n := k) rfl rfl rfl (by omega)) ?_) | fail);generalize w.alloc (.cells (madeCells (cel aI).toArray (k * 64)) 44) = w1 at *;go_ret2;have hS : aO oD w1 0 (.slice (some ⟨w.heap.size, 0, none⟩) k k) (List.replicate k aI) := aO.of_block (E := oD) HM (by rw [<- pP]; rfl) (Nat.zero_le _) (by simp) (by unfold maxLen; omega);have hnw := heap_alloc_new w1 (.cells #[.int .i64 (k : Int), .slice (some ⟨w.heap.size, 0, none⟩) k k, .slice none 0 0, .bool false] 130);rw [HSZ.out] at hnw;refine ⟨w.heap.size + 1, _, rfl, ⟨by rw [List.length_replicate]; exact hnw, by simpa using h1, hS.below (ak.alloc aj _), aO.nil _ _, fun e => absurd e (by decide)⟩, HB.out.alloc HB.out.size _, fun b hb => ?_⟩;rcases hb with rfl | hb | hb
 ·omega
 ·simp [Value.ownBlock] at hb; omega
 ·simp [Value.ownBlock] at hb
theorem acA (n : Int) (w : World) (h : ¬(1 <= n /\ n <= 512)) :
  Calls prog 38 #[.int .i64 n] w fun e w' => e = .returned (.tuple #[.pointer none, .int .i64 2]) /\ w = w' := by
 have hor : n < 1 \/ (1 <= n /\ 512 < n) := by omega
 clear h;rcases hor with h | ⟨h, h'⟩
 all_goals
  go_enter func38, ntmps38;go_wp2;go_ret2;exact ⟨rfl, rfl⟩
def nM (o : Oper) : Bool := match o.op with
 |.defer _ => false
 |_ => true
theorem lX {o : Oper} (h : nM o = true) : ∀ c, o.op ≠ .defer c := by
 intro c e;unfold nM at h;rw [e] at h;cases h
section
variable {F : Fence} {n : Nat} {P : Program} {ops : Array Oper} {rest : List Oper} {o : Oper} {a : Act} {w w' : World} {Q : Exit -> Act -> World -> Prop} {v : Value}
theorem dL (hg : o.guard = none) (hd : nM o = true) (ha : o.about P w a.eval = none) (h : (execOp a.eval o).run P w = .ok (.value v) w') (hr : wpListIn F n P ops Q rest (a.put o.dst v) w') : wpListIn F n P ops Q (o :: rest) a w := by
 refine wpListIn_plain hg fun K hK => ?_
 unfold Oper.wpIn;refine ⟨fun f hf => (by rw [ha] at hf; cases hf), ?_⟩;rw [Oper.semAt_plain F _ _ (lX hd), h];exact hK _ _ hr
theorem lH (hg : o.guard = none) (hd : nM o = true) (ha : o.about P w a.eval = none) (h : (execOp a.eval o).run P w = .ok .skip w') (hr : wpListIn F n P ops Q rest (a.put o.dst undef) w') : wpListIn F n P ops Q (o :: rest) a w := by
 refine wpListIn_plain hg fun K hK => ?_
 unfold Oper.wpIn;refine ⟨fun f hf => (by rw [ha] at hf; cases hf), ?_⟩;rw [Oper.semAt_plain F _ _ (lX hd), h];exact hK _ _ hr
end
open Go.RowKit Go.Shelf
attribute [local go_sem] Oper.semAt_some
def cmd (L : List (Int × Blk)) : Nat -> List (Nat × (Int × Blk))
 |0 => []
 |d + 1 => cmd L d ++ [(L.length - 1 - d, L.getD (L.length - 1 - d) (0, aI))]
theorem aeR (L : List (Int × Blk)) (d : Nat) : (cmd L d).length = d := by
 induction d with
 |zero => rfl
 |succ d ih => rw [cmd, List.length_append, ih]; rfl
theorem yh (L : List (Int × Blk)) (d i : Nat) (h1 : L.length - d <= i) (h2 : i < L.length) : (i, L.getD i (0, aI)) ∈ cmd L d := by
 induction d with
 |zero => omega
 |succ d ih =>
  rw [cmd];by_cases e : L.length - d <= i
  ·exact List.mem_append.2 (.inl (ih e))
  ·have : i = L.length - 1 - d := by omega
   subst this;exact List.mem_append.2 (.inr (by simp))
def adK (x : Nat × (Int × Blk)) : Array Value := #[.int .i64 (x.1 : Int), .agg (eX x.2).toArray]
theorem sG (F : Fence) (n : Nat) (h : F.fn 150) (hro : F.round = none) (a : Option Addr) (len cap : Nat) (w : World) :
  CallsIn F n prog 150 #[.slice a len cap] w fun e w' => e = .returned (.func (.func 160) #[] #[.pointer (some ⟨w.heap.size, 0, none⟩)]) /\ w' = w.alloc (.cells #[.slice a len cap] 128) := by
 refine callsIn_of_wp func150 rfl h ?_ hro;simp only [ntmps150, List.size_toArray, List.length_cons, List.length_nil, Nat.reduceAdd, Nat.reduceSub, Array.replicate_succ, Array.replicate_zero, List.push_toArray, List.append_toArray, List.nil_append, List.cons_append]
 gi_wp2
 go_ret;exact ⟨rfl, rfl⟩
set_option maxRecDepth 100000 in
theorem acO (F : Fence) (n : Nat) (h40 : F.fn 160) (hro : F.round = none) (hn : 1 <= n) (l Bs n₀ : Nat) (A : Option Addr) (cap : Nat) (L : List (Int × Blk)) (hLl : L.length <= 1000000) (J Jx : List (Nat × (Int × Blk)) -> World -> Prop)
  (hY : ∀ pre x W, J pre W -> pre.length < L.length -> YieldAt F (n - 1) prog l (adK x) W fun e W' =>
   (e = .returned (.bool true) /\ J (pre ++ [x]) W' /\ Below n₀ W W') \/ (e = .returned (.bool false) /\ Jx (pre ++ [x]) W'))
  (W : World) (hBn : Bs < n₀) (hBs : W.cell? ⟨Bs, 0, none⟩ = some (.slice A L.length cap)) (hL : RdE LwE W n₀ A L.length L) (h0 : J [] W) :
  CallsIn F n prog 160 #[.func (.yield l) #[] #[], .pointer (some ⟨Bs, 0, none⟩)] W fun e W' => (∃ v, e = .returned v) /\
   ((∃ ys, ys = cmd L L.length /\ J ys W') \/ (∃ pre, (∃ d, d <= L.length /\ pre = cmd L d) /\ Jx pre W')) := by
 refine callsIn_of_wp func160 rfl h40 ?_ hro;simp only [ntmps160, List.size_toArray, List.length_cons, List.length_nil, Nat.reduceAdd, Nat.reduceSub, Array.replicate_succ, Array.replicate_zero, List.push_toArray, List.append_toArray, List.nil_append, List.cons_append]
 gi_wp2
 gi_loopw [3] (fun i wr => ∃ r : Nat, r <= L.length /\ i = .int .i64 ((r : Int) - 1) /\ J (cmd L (L.length - r)) wr /\ Below n₀ W wr)
  (fun i _ => (intOf i + 1).toNat)
 case atStart => exact ⟨L.length, aj, rfl, by rw [Nat.sub_self]; exact h0, ak⟩
 case round =>
  obtain ⟨r, hr, rfl, hJs, hnx⟩ := hrel;have hbx : wr.cell? ⟨Bs, 0, none⟩ = some (.slice A L.length cap) := (hnx.cell (p := ⟨Bs, 0, none⟩) hBn).trans hBs;have hLr := hL.below hnx;cases r with
  |zero =>
   clear hLr hbx;rw [Nat.sub_zero] at hJs;have e : ((0 : Nat) : Int) - 1 = -1 := rfl;rw [e]
   gi_wp2
   go_end0
   exact ⟨⟨_, rfl⟩, .inl ⟨_, rfl, hJs⟩⟩
  |succ m =>
   have e : ((m + 1 : Nat) : Int) - 1 = (m : Int) := by omega
   rw [e];clear e;have hlt : m < L.length := hr;obtain ⟨bA, oA, rfl, hbA, rA⟩ := RdE.pairs hLr hlt;have hnext : cmd L (L.length - m) = cmd L (L.length - (m + 1)) ++ [(m, L.getD m (0, aI))] := by
    have e1 : L.length - m = (L.length - (m + 1)) + 1 := by omega
    rw [e1, cmd];have e2 : L.length - 1 - (L.length - (m + 1)) = m := by omega
    rw [e2]
   have HNX := ae hnext;obtain ⟨fn, tmps, assign, body, hy, hR⟩ := hY _ (m, L.getD m (0, aI)) wr hJs (by rw [aeR]; omega);rw [<- hnext] at hR;have HRA := ae rA;generalize L.getD m (0, aI) = q at *;unfold adK at hy;dsimp only at hy;clear hnext rA hLr
   gi_wp2_with (first | (refine dL rfl rfl rfl (cM (E := LwE) rfl rfl rfl hlt) ?_) | (refine dL rfl rfl rfl (oE rfl rfl HRA) ?_) | fail)
   refine hR.mono ?_;rintro e W3 (⟨rfl, hJ3, hk3⟩ | ⟨rfl, hJx3⟩)
   ·gi_wp2
    go_roundw
    case rel => exact ⟨m, by omega, rfl, hJ3, hnx.trans hk3⟩
    case measure => simp [intOf]
   ·gi_wp2
    refine bodyPost_ret (results_none rfl _ _ _) rfl ?_;exact ⟨⟨_, rfl⟩, .inr ⟨_, ⟨L.length - m, by omega, rfl⟩, hJx3⟩⟩
theorem uY (F : Fence) (n : Nat) (h40 : F.fn 160) (hro : F.round = none) (hn : 1 <= n) (Bs : Nat) (A : Option Addr) (cap : Nat) (L : List (Int × Blk)) (hLl : L.length <= 1000000) (w : World) (hBn : Bs < w.heap.size) (hBs : w.cell? ⟨Bs, 0, none⟩ = some (.slice A L.length cap)) (hL : RdE LwE w w.heap.size A L.length L) :
  SeqStopsK F n prog 160 #[.pointer (some ⟨Bs, 0, none⟩)] adK (Below w.heap.size) (fun ys => ys = cmd L L.length) (fun pre => ∃ d, d <= L.length /\ pre = cmd L d) L.length w := fun l J Jx W hW _ _ hY h0 =>
 acO F n h40 hro hn l Bs w.heap.size A cap L hLl J Jx hY W hBn ((hW.cell (p := ⟨Bs, 0, none⟩) hBn).trans hBs) (hL.below hW) h0
attribute [local go_sem] Oper.semAt_some
theorem oc {fn : Func} {p u : Tmp} {c : Blk} {e : Int} (h : fn.results = #[.cell p 44, .cell u 32]) (tmps : Array Value) (w : World) (b b' : Nat) (hp : tmps.getD p undef = .pointer (some ⟨b, 0, none⟩)) (hu : tmps.getD u undef = .pointer (some ⟨b', 0, none⟩)) (hc : w.rangeAt b 0 (cel c)) (he : w.cell? ⟨b', 0, none⟩ = some (.int .i64 e)) :
  (results fn tmps).run prog w = .ok (.tuple #[blk c, .int .i64 e]) w := by
 have hl : (loadVar 44 ⟨b, 0, none⟩).run prog w = .ok (blk c) w := run_loadVar_mid w b 0 44 (cel c) _ hc y5 rfl (by rw [aM]; exact uT);have hl2 : (loadVar 32 ⟨b', 0, none⟩).run prog w = .ok (.int .i64 e) w := by simp [go_sem, he]
 have hp' : tmps[p]?.getD undef = .pointer (some ⟨b, 0, none⟩) := by simpa using hp
 have hu' : tmps[u]?.getD undef = .pointer (some ⟨b', 0, none⟩) := by simpa using hu
 simp [results, h, hp', hu', asAddr, hl, hl2]
theorem ki {w : World} {b b' o i : Nat} {cs : List Value} (h : w.rangeAt b o cs) (hne : b ≠ b') (v : Value) : (w.setCell ⟨b', i, none⟩ v).rangeAt b o cs := fun j u hj => by
 rw [World.cell?_of_block (w := w) (a := ⟨b, o + j, none⟩) (heap_setCell_other w ⟨b', i, none⟩ b v hne)];exact h j u hj
def rd3 (w : World) (n : Int) : World := ((w.alloc (.cells #[.int .i64 n] 3)).alloc (.cells (cel aI).toArray 44)).alloc (.cells #[.int .i64 0] 32)
theorem qG (w : World) (n : Int) : Below w.heap.size w (rd3 w n) /\ (rd3 w n).heap[w.heap.size]? = some (.cells #[.int .i64 n] 3) /\ (rd3 w n).heap[w.heap.size + 1]? = some (.cells (cel aI).toArray 44) /\ (rd3 w n).heap[w.heap.size + 1 + 1]? = some (.cells #[.int .i64 0] 32) /\ (rd3 w n).heap.size = w.heap.size + 1 + 1 + 1 := by
 unfold rd3;have e1 := World.size_alloc (w := w) (o := .cells #[.int .i64 n] 3);have e2 := World.size_alloc (w := w.alloc (.cells #[.int .i64 n] 3)) (o := .cells (cel aI).toArray 44);have e3 := World.size_alloc (w := (w.alloc (.cells #[.int .i64 n] 3)).alloc (.cells (cel aI).toArray 44)) (o := .cells #[.int .i64 0] 32);have n1 := ly w #[.int .i64 n] 3;have n2 := ly (w.alloc (.cells #[.int .i64 n] 3)) (cel aI).toArray 44;have n3 := ly ((w.alloc (.cells #[.int .i64 n] 3)).alloc (.cells (cel aI).toArray 44)) #[.int .i64 0] 32;rw [e2, e1] at n3;rw [e1] at n2;refine ⟨(((Below.refl _ w).alloc aj _).alloc (by omega) _).alloc (by omega) _, br (br n1 _) _, br n2 _, n3, by omega⟩
theorem one_cell {w : World} {b : Nat} {v : Value} {t : TypeId} (h : w.heap[b]? = some (.cells #[v] t (0, 0))) : w.cell? ⟨b, 0, none⟩ = some v /\ w.frozen? ⟨b, 0, none⟩ = false := by
 refine ⟨?_, frozen_of_row w b 0 _ t h⟩;rw [cell_of_row w b 0 _ t (0, 0) h]; rfl
theorem zg (p : Nat) (vS vL : Value) (S : List Blk) (L : List (Int × Blk)) (g : Bool) (n : Int) (w : World) (h : PD w p vS vL S L g) (he0 : dH S g n ≠ 0) :
  Calls prog 144 #[.pointer (some ⟨p, 0, none⟩), .int .i64 n] w fun e w' => e = .returned (.tuple #[blk (jc S L g n), .int .i64 (dH S g n)]) /\ Below w.heap.size w w' := by
 obtain ⟨hA, k0, k1, k2, hsz⟩ := qG w n;have h1 := h.below hA;have HA := ae hA;have HT := ae (kB k1);obtain ⟨c0, f0⟩ := one_cell k0;have hO : Only (fun b => b = w.heap.size + 1) (rd3 w n) ((rd3 w n).setCells (w.heap.size + 1) 0 (cel aI)) := (Only.refl (fun b => b = w.heap.size + 1) (rd3 w n)).setCells (.inl rfl) _ _;have k2' := hO.keep k2 (by omega);obtain ⟨c2, f2⟩ := one_cell k2';have HS := ae (abS (L := L) he0);clear hA k0 k1 k2 hO k2';rcases iz (S := S) (g := g) (n := n) with he | he | ⟨he, _⟩
 rotate_right 1
 ·exact absurd he he0
 all_goals
  have HE := ae he;clear he he0;go_enter func144, ntmps144;unfold rd3 at *;go_wp2_with (first | (refine ay rfl (bW rfl) ?_) | fail);generalize ((w.alloc (.cells #[.int .i64 n] 3)).alloc (.cells (cel aI).toArray 44)).alloc (.cells #[.int .i64 0] 32) = w3 at *;refine (fO p vS vL S L g n w3 h1).mono ?_;rintro e w1 ⟨rfl, rfl⟩;rw [HE.out];go_wp2_with (first | (refine ay rfl (dn (c := aI) (parts := []) rfl rfl) ?_) | (refine bK rfl (bP rfl rfl rfl ?ht) ?_; (case ht => exact HT.out)) | fail);have hr1 : (w3.setCells (w.heap.size + 1) 0 (cel aI)).rangeAt (w.heap.size + 1) 0 (cel aI) := World.rangeAt_setCells_same _ _ _ _ (by rw [aM]; exact HT);have hr2 := ki (b' := w.heap.size + 1 + 1) (i := 0) hr1 (by omega);have hb2 := (below_setCells HA (show w.heap.size <= w.heap.size + 1 by omega) (o := 0) (cel aI));refine bodyPost_ret (oc rfl _ _ _ _ rfl rfl (hr2 _) (World.cell?_setCell_same' _ _ _ (by rw [c2]; rfl))) rfl ⟨by rw [HS.out, HE.out], hb2.setCell (p := ⟨w.heap.size + 1 + 1, 0, none⟩) (by show _ <= w.heap.size + 1 + 1; omega) _⟩
attribute [local go_sem] Oper.semAt_some
theorem vo {L : List (Int × Blk)} {n : Int} {b : Blk} (h : ∀ q ∈ L, q.1 ≠ n) : gk L n b = b := by
 unfold gk
 induction L generalizing b with
 |nil => rfl
 |cons q L ih =>
  rw [List.foldl_cons, if_neg (h q (by simp)), ih fun q hq => h q (by simp [hq])]
theorem abi {L : List (Int × Blk)} {n : Int} {b : Blk} {i : Nat} (hi : i < L.length) (h : (L.getD i (0, aI)).1 = n) (hb : ∀ j, i < j -> j < L.length -> (L.getD j (0, aI)).1 ≠ n) : gk L n b = (L.getD i (0, aI)).2 := by
 have key : ∀ m, i + 1 + m <= L.length -> gk (L.take (i + 1 + m)) n b = (L.getD i (0, aI)).2 := by
  intro m
  induction m with
  |zero => intro _; rw [Nat.add_zero, oq n b hi, if_pos h]
  |succ m ih =>
   intro hm;rw [<- Nat.add_assoc, oq n b (by omega), if_neg (hb _ (by omega) (by omega))];exact ih (by omega)
 have := key (L.length - (i + 1)) (by omega);rwa [show i + 1 + (L.length - (i + 1)) = L.length from by omega, List.take_length] at this
def NoK (k : Int) (pre : List (Nat × (Int × Blk))) : Prop := ∀ x ∈ pre, x.2.1 ≠ k
def ajm (s : Nat) (k : Int) (pre : List (Nat × (Int × Blk))) (W : World) : Prop := ∃ ini last, pre = ini ++ [last] /\ NoK k ini /\ last.2.1 = k /\ W.rangeAt (s + 1) 0 (cel last.2.2) /\ W.cell? ⟨s + 1 + 1, 0, none⟩ = some (.int .i64 0)
theorem aeq {w : World} {b : Nat} {q : Int × Blk} {t : TypeId} (h : w.heap[b]? = some (.cells (eX q).toArray t (0, 0))) : w.cell? ⟨b, 0, none⟩ = some (.int .i64 q.1) /\ w.rangeAt b 1 (cel q.2) := by
 have hr : w.rangeAt b 0 (eX q) := fun j v hj => by
  rw [cell_of_row _ _ (0 + j) (eX q).toArray t (0, 0) h]
  simpa using hj
 refine ⟨hr 0 _ rfl, fun j v hj => ?_⟩;have := hr (j + 1) v hj;rwa [show 0 + (j + 1) = 1 + j from by omega] at this
theorem ib (b : Nat) : ∀ (vs : List Value) (o : Nat) (w : World), KeepsOthers w (w.setCells b o vs)
 |[], _, w => KeepsOthers.refl w
 |v :: r, o, w => (KeepsOthers.setCell w ⟨b, o, none⟩ v).trans (ib b r (o + 1) _)
set_option maxRecDepth 100000 in
theorem zl (p k : Nat) (vS vL : Value) (S : List Blk) (L : List (Int × Blk)) (w : World) (h : PD w p vS vL S L false) (hk : k < S.length) (hLl : L.length <= 1000000) :
  Calls prog 144 #[.pointer (some ⟨p, 0, none⟩), .int .i64 k] w fun e w' => e = .returned (.tuple #[blk (jc S L false k), .int .i64 0]) /\ Below w.heap.size w w' := by
 obtain ⟨gS, cS, rfl⟩ := h.alive.slice rfl (by omega);obtain ⟨hA, k0, k1, k2, hsz⟩ := qG w (k : Int);have h1 := h.below hA;have HA := ae hA;have HE := ae (l7 (S := S) (n := (k : Int)) (by omega));have HK0 := ae k0;have HK1 := ae k1;have HK2 := ae k2;obtain ⟨c0, f0⟩ := one_cell k0;obtain ⟨AL, cL, rfl, hl1, hl2⟩ := h1.L_.form;obtain ⟨d0, d1, d2, d3⟩ := dY h1.at_;clear hA k0 k1 k2;refine (callsIn_wide (n := 3)).1 ?_;refine callsIn_of_wp_marks func144 rfl trivial ?_ rfl;refine wpIn_wide.2 ?_;simp only [ntmps144, List.size_toArray, List.length_cons, List.length_nil, Nat.reduceAdd, Nat.reduceSub, Array.replicate_succ, Array.replicate_zero, List.push_toArray, List.append_toArray, List.nil_append, List.cons_append];unfold rd3 at *;go_wp2_with (first | (refine ay rfl (bW rfl) ?_) | fail);generalize ((w.alloc (.cells #[.int .i64 (k : Int)] 3)).alloc (.cells (cel aI).toArray 44)).alloc (.cells #[.int .i64 0] 32) = w3 at *;refine (fO p _ _ S L false k w3 h1).mono ?_;rintro e w4 ⟨rfl, rfl⟩;rw [HE.out];go_wp2_with fail;refine (callsIn_wide.1 (sG Fence.wide 3 trivial rfl AL L.length cL w3)).mono ?_;rintro e w4 ⟨rfl, rfl⟩;go_wp2_with fail;have hB0 := HA.out.alloc HA.out.size (.cells #[.slice AL L.length cL] 128);have hbox := ly w3 #[.slice AL L.length cL] 128;have h2 := h1.below ((Below.refl _ w3).alloc aj (.cells #[.slice AL L.length cL] 128));have k0 := br HK0 (.cells #[.slice AL L.length cL] 128);have k1 := br HK1 (.cells #[.slice AL L.length cL] 128);have k2 := br HK2 (.cells #[.slice AL L.length cL] 128);have hsz0 := World.size_alloc w3 (.cells #[.slice AL L.length cL] 128);rw [hsz] at hbox hsz0;generalize w3.alloc (.cells #[.slice AL L.length cL] 128) = W0 at *;clear c0 f0 d0 d1 d2 d3 h1 HA HK0 HK1 HK2 hsz;have HK0 := ae k0;have HK1 := ae k1;have HK2 := ae k2;have HH2 := ae h2;have HB0 := ae hB0;have hpw : p < w.heap.size := h.lt p (.inl rfl);have HH := ae h;refine (wpIn_wide (n := 3)).1 ?_;refine wpIn_rangeFunc_ownH rfl (by omega) (gf := 160) (lb := #[.pointer (some ⟨w.heap.size + 1 + 1 + 1, 0, none⟩)]) rfl trivial (enters_of func160 (by kernel_rfl) rfl)
  (uY Fence.wide 2 trivial rfl (by omega) (w.heap.size + 1 + 1 + 1) AL cL L hLl W0 (by omega) (one_cell hbox).1 h2.L_.rd) belowK_t (belowK_b aj) ak (fun _ => rfl)
  (fun pre W => NoK (k : Int) pre /\ Below W0.heap.size W0 W)
  (fun c pre W => (c = .ret /\ ajm w.heap.size (k : Int) pre W) /\ Below w.heap.size w W)
  (OwnFrom.and (ownFrom_pure _ _) (ownFrom_below aj aj))
  (fun c => OwnFrom.and (Own.from (fun s A B row hs hg hr => by obtain ⟨hc, ini, last, e1, e2, e3, e4, e5⟩ := hs; exact ⟨hc, ini, last, e1, e2, e3, fun j v hj => cell_kept (e4 j v hj) hg hr, cell_kept e5 hg hr⟩) _) (ownFrom_below aj (by omega)))
  ⟨fun x hx => absurd hx (by simp), ak⟩
  (fun x a' W => ∃ Bx, W0.heap.size <= Bx /\ W.heap[Bx]? = some (.cells (eX x.2).toArray LwE.t) /\ a' = { tmps := #[.pointer (some ⟨p, 0, none⟩), .int .i64 (k : Int), undef, .pointer (some ⟨w.heap.size, 0, none⟩), .pointer (some ⟨w.heap.size + 1, 0, none⟩), .pointer (some ⟨w.heap.size + 1 + 1, 0, none⟩), .int .i64 0, undef, .pointer (some ⟨Bx, 0, none⟩), .pointer (some ⟨p, 0, none⟩), .int .i64 (k : Int), .int .i64 0, .int .i64 0, .bool false, undef, undef, .pointer (some ⟨p, 0, none⟩), .pointer (some ⟨p, 0, none⟩), .pointer (some ⟨p, 2, none⟩), .slice AL L.length cL, .func (.func 160) #[] #[.pointer (some ⟨w.heap.size + 1 + 1 + 1, 0, none⟩)], .int .i64 (x.1 : Int), .agg (eX x.2).toArray, undef, undef, undef, undef, undef, undef, undef, undef, undef, undef, undef, undef, undef], defers := [] })
  (fun x a' _ X Y row hs hg hr => by
   obtain ⟨Bx, e1, e2, e3⟩ := hs;exact ⟨Bx, e1, (hg.block Bx (aT e2) (fun e => by obtain ⟨_, o, ho, hc⟩ := hr Bx e.symm; rw [e2] at ho; cases ho; cases hc)).trans e2, e3⟩)
  ?assign ?body ?done ?stop
 case assign =>
  rintro l pre x W K ⟨hne, hb⟩ hK;simp only [adK, List.zip_toArray, List.zip_cons_cons, List.zip_nil_right, List.foldl_toArray, List.foldl_cons, List.foldl_nil, List.setIfInBounds_toArray, List.set_cons_succ, List.set_cons_zero];refine wpIn_region_lit ?_;refine dL rfl rfl rfl (m4 rfl) ?_;refine lH rfl rfl rfl (pY (a := x.2) rfl rfl rfl) ?_;refine wpListIn_nil ?_;exact hK _ _ ((KeepsOthers.alloc _ _).from _) ((Below.refl _ W).alloc hb.size _) ⟨hne, hb.alloc hb.size _⟩ ⟨W.heap.size, hb.size, heap_alloc_new W _, rfl⟩
 case body =>
  rintro l pre x a' W hl _ ⟨hne, hb⟩ ⟨Bx, hBx, hbx, rfl⟩ hlt;obtain ⟨i, q1, qb⟩ := x;have hn : W.cell? ⟨w.heap.size, 0, none⟩ = some (.int .i64 (k : Int)) := (one_cell (aB HK0 hb)).1;have hk1 := aB HK1 hb;have hk2 := aB HK2 hb;obtain ⟨hx1, hx2⟩ := aeq hbx;have HX2 := ae hx2;have HT := ae (kB hk1);have hO : Only (fun b => b = w.heap.size + 1) W (W.setCells (w.heap.size + 1) 0 (cel qb)) := (Only.refl (fun b => b = w.heap.size + 1) W).setCells (.inl rfl) _ _;have hk2' := hO.keep hk2 (by omega);obtain ⟨c2, f2⟩ := one_cell hk2';have HB := ae hb;have HNE := ae hne;have HK2' := ae hk2';clear hb hne hbx hx2 hk1 hk2 hO hk2';by_cases hq : q1 = (k : Int)
  ·subst hq
   gi_wp2_with (first | (refine dL rfl rfl rfl (ax rfl rfl agw) ?_) | (refine dL rfl rfl rfl (ax rfl rfl ahN) ?_) | (refine dL rfl rfl rfl (bJ rfl rfl HX2.out) ?_) | (refine lH rfl rfl rfl (bP rfl rfl rfl ?ht) ?_; (case ht => exact HT.out)) | fail)
   have hr1 : (W.setCells (w.heap.size + 1) 0 (cel qb)).rangeAt (w.heap.size + 1) 0 (cel qb) := World.rangeAt_setCells_same _ _ _ _ (by rw [aM]; exact HT);have hr2 := ki (b' := w.heap.size + 1 + 1) (i := 0) hr1 (by omega);have hbw := HB0.out.trans (HB.out.mono (by omega));have hb2 := below_setCells hbw (show w.heap.size <= w.heap.size + 1 by omega) (o := 0) (cel qb);exact ⟨((ib _ _ _ _).trans (KeepsOthers.setCell _ _ _)).from _, ⟨rfl, pre, (i, (k : Int), qb), rfl, HNE, rfl, hr2 _, World.cell?_setCell_same' _ _ _ (by rw [c2]; rfl)⟩, hb2.setCell (p := ⟨w.heap.size + 1 + 1, 0, none⟩) (by show _ <= w.heap.size + 1 + 1; omega) _⟩
  ·have hq' : (q1 == (k : Int)) = false := by simpa using hq
   gi_wp2_with (first | (refine dL rfl rfl rfl (ax rfl rfl agw) ?_) | (refine dL rfl rfl rfl (ax rfl rfl ahN) ?_) | fail)
   exact ⟨KeepsFrom.refl _ _, ak, fun y hy => (List.mem_append.1 hy).elim (HNE.out y) (fun e => by simp at e; subst e; exact hq), by have := HB.out; rwa [hsz0] at this⟩
 case done =>
  rintro D ys W hD rfl ⟨hne, hb⟩ hK;have hrd : jc S L false (k : Int) = S.getD k aI := by
   rw [um HE.out];refine vo fun q hq => ?_
   obtain ⟨j, hj, rfl⟩ := List.getElem_of_mem hq;have := hne _ (yh L L.length j (by omega) hj)
   simpa [List.getD, List.getElem?_eq_getElem hj] using this
  have h3 := HH2.out.below hb;obtain ⟨c0, c1, c2, c3⟩ := dY h3.at_;have hn : W.cell? ⟨w.heap.size, 0, none⟩ = some (.int .i64 (k : Int)) := (one_cell (aB HK0 hb)).1;obtain ⟨b, off, hbe, _, hr⟩ := h3.alive.rd.blk hk;injection hbe with hbe;injection hbe with hb1 hb2;subst hb1 hb2;rw [Nat.zero_add] at hr;have HRD0 := hrd;generalize S.getD k aI = x at *;have HRD := ae HRD0;clear HRD0;have hk1 := aB HK1 hb;have hk2 := aB HK2 hb;have HT := ae (kB hk1);have hO : Only (fun b => b = w.heap.size + 1) W (W.setCells (w.heap.size + 1) 0 (cel x)) := (Only.refl (fun b => b = w.heap.size + 1) W).setCells (.inl rfl) _ _;have hk2' := hO.keep hk2 (by omega);have HK2W := ae hk2;have HA := ae c1;have HN := ae hn;have HR := ae hr;have HB := ae hb;have HKD := ae hK;clear hrd h3 c0 c1 c2 c3 hn hr hk1 hk2 hO hk2' hne hb hK;go_wp2_with fail;refine wp_region_still_tail 7 (by kernel_rfl) (by kernel_rfl) ?_;simp only [ac];refine aN rfl (aL rfl ajL) ?_;simp only [aa];refine aN rfl (bj rfl ajL) ?_;simp only [aa];refine aN rfl (ax rfl ajL ah2) ?_;simp only [aa];refine aN rfl (aC rfl ajL (ldB HA)) ?_;simp only [aa];refine aN rfl (aC rfl ajL (ldI HN)) ?_;simp only [aa];refine aN rfl (yS rfl ajL ajL hk) ?_;simp only [aa];refine aN rfl (bJ rfl ajL HR) ?_;simp only [aa];refine wpStill_nil ?_;change wpList _ _ _ _ _ W.drew;have HTd : W.drew.there (w.heap.size + 1) 0 64 := HT.out;have HTd' := ae HTd;have hk2d : (W.drew.setCells (w.heap.size + 1) 0 (cel x)).heap[w.heap.size + 1 + 1]? = some (.cells #[.int .i64 0] 32) := (eP _ _ _ W.drew _ (by omega)).trans HK2W;obtain ⟨c2, f2⟩ := one_cell hk2d;have HKd := ((ib (w.heap.size + 1) (cel x) 0 W.drew).trans (KeepsOthers.setCell _ ⟨w.heap.size + 1 + 1, 0, none⟩ (.int .i64 0))).same D _ HKD rfl;have HKH := ae HKd;have hr1 : (W.drew.setCells (w.heap.size + 1) 0 (cel x)).rangeAt (w.heap.size + 1) 0 (cel x) := World.rangeAt_setCells_same _ _ _ _ (by rw [aM]; exact HTd);have HR2 := ae (ki (b' := w.heap.size + 1 + 1) (i := 0) hr1 (by omega) (.int .i64 0));have HE2 := ae (World.cell?_setCell_same' (W.drew.setCells (w.heap.size + 1) 0 (cel x)) ⟨w.heap.size + 1 + 1, 0, none⟩ (.int .i64 0) (by rw [c2]; rfl));have hbw := bd (HB0.out.trans (HB.out.mono (by omega)));have HB2 := ae ((below_setCells hbw (show w.heap.size <= w.heap.size + 1 by omega) (o := 0) (cel x)).setCell (p := ⟨w.heap.size + 1 + 1, 0, none⟩) (by show _ <= w.heap.size + 1 + 1; omega) (.int .i64 0));clear hk2d HKd hr1 hbw HTd;go_wp2_with (first | (refine bK rfl (bP rfl rfl rfl ?ht) ?_; (case ht => exact HTd'.out)) | fail);refine ⟨by simp, .inl ⟨_, _, rfl, run_takeDeferred HKH, ?_⟩⟩;refine ⟨.tuple #[blk x, .int .i64 0], oc rfl _ _ _ _ rfl rfl (fun j v hj => cell_kept (HR2.out j v hj) (grownBy_putObj' _ D (.deferred none)) (fun r e => by cases e; exact ⟨_, HKH, rfl⟩)) (cell_kept HE2 (grownBy_putObj' _ D (.deferred none)) (fun r e => by cases e; exact ⟨_, HKH, rfl⟩)), by rw [HRD.out], HB2.out.trans (belowK_b (w := w) aj _ D _ _ (by omega) HKH rfl rfl)⟩
 case stop =>
  rintro D c pre W hD ⟨d, hd, rfl⟩ ⟨⟨rfl, ini, last, e1, e2, e3, e4, e5⟩, hb⟩ hK;have hrd : jc S L false (k : Int) = last.2.2 := by
   rw [um HE.out];cases d with
   |zero => simp [cmd] at e1
   |succ d =>
    rw [cmd] at e1;obtain ⟨e6, e7⟩ := List.append_inj' e1 rfl;subst e6;have e8 : (L.length - 1 - d, L.getD (L.length - 1 - d) (0, aI)) = last := by simpa using e7
    subst e8;refine abi (i := L.length - 1 - d) (by omega) e3 fun j h1 h2 => ?_
    exact e2 _ (yh L d j (by omega) h2)
  gi_wp2
  refine ⟨by simp, .inl ⟨_, _, rfl, run_takeDeferred hK, ?_⟩⟩;refine ⟨.tuple #[blk last.2.2, .int .i64 0], oc rfl _ _ _ _ rfl rfl (fun j v hj => cell_kept (e4 j v hj) (grownBy_putObj' _ D (.deferred none)) (fun r e => by cases e; exact ⟨_, hK, rfl⟩)) (cell_kept e5 (grownBy_putObj' _ D (.deferred none)) (fun r e => by cases e; exact ⟨_, hK, rfl⟩)), by rw [hrd], hb.trans (belowK_b (w := w) aj W D _ _ (by omega) hK rfl rfl)⟩
theorem agN (p : Nat) (vS vL : Value) (S : List Blk) (L : List (Int × Blk)) (g : Bool) (n : Int) (w : World) (h : PD w p vS vL S L g) (hLl : L.length <= 1000000) :
  Calls prog 144 #[.pointer (some ⟨p, 0, none⟩), .int .i64 n] w fun e w' => e = .returned (.tuple #[blk (jc S L g n), .int .i64 (dH S g n)]) /\ Below w.heap.size w w' := by
 by_cases he : dH S g n = 0
 ·rcases iz (S := S) (g := g) (n := n) with h1 | h1 | ⟨_, rfl, k, rfl, hk⟩
  ·omega
  ·omega
  ·rw [he];exact zl p k vS vL S L w h hk hLl
 ·exact zg p vS vL S L g n w h he
def Pv (w : World) (F : Nat -> Prop) (p : Nat) (S : List Blk) (L : List (Int × Blk)) (g : Bool) : Prop := ∃ vS vL, F = foot p vS vL /\ PD w p vS vL S L g /\ Fit S L /\ S.length <= 512 /\ L.length <= 1000000
section
variable {w w' : World} {F G : Nat -> Prop} {p : Nat} {S : List Blk} {L : List (Int × Blk)} {g : Bool}
theorem Pv.lt (h : Pv w F p S L g) : ∀ b, F b -> b < w.heap.size := by
 obtain ⟨vS, vL, rfl, h, _⟩ := h;exact h.lt
theorem Pv.only (h : Pv w F p S L g) (k : Only G w w') (hn : ∀ b, F b -> ¬ G b) : Pv w' F p S L g := by
 obtain ⟨vS, vL, rfl, h, hF⟩ := h;exact ⟨vS, vL, rfl, h.only k hn, hF⟩
theorem f8 (h : w = w') : Below w.heap.size w w' := by subst h; exact ak
end
def ahD : Dev where
 Dv := Pv
 lt := Pv.lt
 only := Pv.only
 fit := fun ⟨_, _, _, h, hF, _⟩ => ⟨hF, h.one⟩
 cap := fun ⟨_, _, _, _, _, hS, _⟩ => hS
 new_ok := fun k w h1 h2 => by
  refine (acr k w h1 h2).mono ?_;rintro e w' ⟨p, vS, he, hr, hb, hf⟩;exact ⟨p, _, he, ⟨vS, _, rfl, hr, Fit.nil _, by rw [List.length_replicate]; exact h2, Nat.zero_le _⟩, hb, hf⟩
 new_no := fun n w h => (acA n w h).mono fun e w' ⟨h1, h2⟩ => ⟨h1, f8 h2⟩
 read := fun n ⟨vS, vL, _, h, _, _, hL⟩ => agN _ vS vL _ _ _ n _ h hL
 sure := fun n ⟨vS, vL, _, h, _⟩ => ago _ vS vL _ _ _ n _ h
 write := fun {w F p S L g} n b hL ⟨vS, vL, e0, h, hF, hS, _⟩ => by
  subst e0;refine (adv p vS vL S L g n b w h hL).mono ?_;rintro e w' ⟨he, vL', h1, h2, h3⟩;refine ⟨he, _, ⟨vS, vL', rfl, h1, hF.wr g n b, hS, ?_⟩, h2, fun k hk => ?_⟩
  ·unfold wrL
   split
   ·rw [List.length_append]; simp; omega
   ·omega
  ·rcases hk with e | e | e
   ·exact .inl (.inl e)
   ·exact .inl (.inr (.inl e))
   ·rcases h3 k e with e | e
    ·exact .inl (.inr (.inr e))
    ·exact .inr e
 flush := fun {w F p S L g} ⟨vS, vL, e0, h, hF, hS, hL⟩ => by
  subst e0;cases g
  ·refine (vn p vS vL S L w h hF).mono ?_;rintro e w' ⟨he, h1, h2⟩;refine ⟨he, _, ⟨vS, _, rfl, h1, Fit.nil _, by rw [if_neg (by simp), nF]; exact hS, Nat.zero_le _⟩, h2, fun k hk => ?_⟩;rcases hk with e | e | e
   ·exact .inl (.inl e)
   ·exact .inl (.inr (.inl e))
   ·simp [Value.ownBlock] at e
  ·refine (rQ p vS vL S L w h).mono ?_;rintro e w' ⟨he, rfl⟩;exact ⟨he, _, ⟨vS, vL, rfl, h, hF, hS, hL⟩, Only.refl _ _, Grow.same _ _⟩
 fail := fun {w F p S L g} ⟨vS, vL, e0, h, hF, hS, hL⟩ => by
  subst e0;refine (agJ p vS vL S L g w h).mono ?_;rintro e w' ⟨he, h1, h2⟩;refine ⟨he, _, ⟨_, _, rfl, h1, Fit.nil _, hS, Nat.zero_le _⟩, h2, fun k hk => ?_⟩;rcases hk with e | e | e
  ·exact .inl (.inl e)
  ·simp [Value.ownBlock] at e
  ·simp [Value.ownBlock] at e
 dead := fun ⟨vS, vL, _, h, _⟩ => (ahg _ vS vL _ _ _ _ h).mono fun e w' ⟨h1, h2⟩ => ⟨h1, f8 h2⟩
 fG := fun ⟨vS, vL, _, h, _⟩ => (aah _ vS vL _ _ _ _ h).mono fun e w' ⟨h1, h2⟩ => ⟨h1, f8 h2⟩
def aio : Array Value := #[.int .i64 0, .slice none 0 0, .slice none 0 0, .bool false]
def NoP (w : World) (v : Value) : Prop := v = .pointer none \/ ∃ p, v = .pointer (some ⟨p, 0, none⟩) /\ w.heap[p]? = some (.cells aio 130)
theorem agm {w : World} {v : Value} (h : NoP w v) : Calls prog 63 #[v] w fun e w' => e = .returned (.bool false) /\ w = w' := by
 rcases h with rfl | ⟨p, rfl, h⟩
 ·go_enter func63, ntmps63;go_wp2;go_ret;exact ⟨rfl, rfl⟩
 ·obtain ⟨c0, c1, c2, c3⟩ := dY h;go_enter func63, ntmps63;go_wp2;go_ret;exact ⟨rfl, rfl⟩
theorem z6 {w : World} {v : Value} (h : NoP w v) : Calls prog 118 #[v] w fun e w' => e = .returned (.int .i64 0) /\ Below w.heap.size w w' := by
 go_enter func118, ntmps118;go_wp2_with fail;refine (agm h).mono ?_;rintro e w1 ⟨rfl, rfl⟩;go_wp2_with fail;go_ret;exact ⟨rfl, ak⟩
def Dev.K (D : Dev) : DvK := ⟨D.Dv, D.lt, D.only⟩
def ct (D : Dev) : ig where
 K := D.K
 s := 93
 t := 83
 und := underlying93
 info := by kernel_rfl
 o := 95
 cs := fun v left co steps => #[v, .int .i64 steps, .int .i64 left, .bool co]
 ne := by decide
section
variable {D : Dev} {w w' : World} {p : Nat} {v : Value} {Fs : Nat -> Nat -> Prop} {ps : List Nat} {M : aV}
theorem bQ.mG (h : bQ (ct D) w p v Fs ps M) : w.cell? ⟨p, 0, none⟩ = some v /\ w.cell? ⟨p, 1, none⟩ = some (.int .i64 M.steps) /\ w.cell? ⟨p, 2, none⟩ = some (.int .i64 M.left) /\ w.cell? ⟨p, 3, none⟩ = some (.bool M.co) := dY h.at_
theorem qC (h : bQ (ct D) w p v Fs ps M) :
  Calls prog 41 #[.pointer (some ⟨p, 0, none⟩)] w fun e w' => e = .returned (.int .i64 (M.ds.length : Int)) /\ w = w' := by
 obtain ⟨g, c, rfl, _, _⟩ := h.slice;obtain ⟨c0, c1, c2, c3⟩ := h.mG;go_enter func41, ntmps41;go_wp2;go_ret;exact ⟨rfl, rfl⟩
theorem aaR (h : bQ (ct D) w p v Fs ps M) :
  Calls prog 62 #[.pointer (some ⟨p, 0, none⟩)] w fun e w' => e = .returned (.bool true) /\ w = w' := by
 have h1 : 0 < M.ds.length := h.one;go_enter func62, ntmps62;go_wp2_with fail;refine (qC h).mono ?_;rintro e w1 ⟨rfl, rfl⟩;go_wp2_with fail;go_ret;exact ⟨rfl, rfl⟩
theorem wI (h : bQ (ct D) w p v Fs ps M) :
  Calls prog 137 #[.pointer (some ⟨p, 0, none⟩)] w fun e w' => e = .returned (.bool M.co) /\ w = w' := by
 obtain ⟨c0, c1, c2, c3⟩ := h.mG;go_enter func137, ntmps137;go_wp2;go_ret;exact ⟨rfl, rfl⟩
theorem iv (h : bQ (ct D) w p v Fs ps M) {d : Int} (hd : ¬(0 <= d /\ d < M.ds.length)) :
  Calls prog 28 #[.pointer (some ⟨p, 0, none⟩), .int .i64 d] w fun e w' => e = .returned (.tuple #[.pointer none, .int .i64 2]) /\ w = w' := by
 have hm := ae (aaR h);obtain ⟨g, c, rfl, _, _⟩ := h.slice;obtain ⟨c0, c1, c2, c3⟩ := h.mG;clear h;by_cases h0 : d < 0
 ·clear hd;go_enter func28, ntmps28;go_wp2_with fail;refine hm.out.mono ?_;rintro e w1 ⟨rfl, rfl⟩;go_wp2_with fail;go_ret2;exact ⟨rfl, rfl⟩
 ·have h1 : ¬(d < (M.ds.length : Int)) := by omega
  clear hd;go_enter func28, ntmps28;go_wp2_with fail;refine hm.out.mono ?_;rintro e w1 ⟨rfl, rfl⟩;go_wp2_with fail;go_ret2;exact ⟨rfl, rfl⟩
theorem iB (h : bQ (ct D) w p v Fs ps M) {k : Nat} (hk : k < M.ds.length) :
  Calls prog 28 #[.pointer (some ⟨p, 0, none⟩), .int .i64 k] w fun e w' => e = .returned (.tuple #[.pointer (some ⟨ps.getD k 0, 0, none⟩), .int .i64 0]) /\ w = w' := by
 have hm := ae (aaR h);obtain ⟨g, c, rfl, _, _⟩ := h.slice;obtain ⟨c0, c1, c2, c3⟩ := h.mG;have hc := h.cell hk;generalize ps.getD k 0 = q at *;clear h;go_enter func28, ntmps28;go_wp2_with fail;refine hm.out.mono ?_;rintro e w1 ⟨rfl, rfl⟩;go_wp2_with fail;go_ret2;exact ⟨rfl, rfl⟩
theorem oS (h : bQ (ct D) w p v Fs ps M) {d : Int} (hd : gu M d ≠ 0) :
  Calls prog 105 #[.pointer (some ⟨p, 0, none⟩), .int .i64 d] w fun e w' => e = .returned (.tuple #[.pointer none, .int .i64 (gu M d)]) /\ w = w' := by
 have hm := ae (wI h);rcases fD M d with ⟨e, hdk⟩ | ⟨e, hdk, ho⟩ | ⟨e, _⟩
 ·rw [e];have HD := ae hdk;clear e hdk hd h;go_enter func105, ntmps105;go_wp2_with fail;refine hm.out.mono ?_;rintro e w1 ⟨rfl, rfl⟩;rw [HD.out];go_wp2_with fail;go_ret2;exact ⟨rfl, rfl⟩
 ·rw [e];have HD := ae hdk;have HO := ae (iv h ho);clear e hdk hd h ho;go_enter func105, ntmps105;go_wp2_with fail;refine hm.out.mono ?_;rintro e w1 ⟨rfl, rfl⟩;rw [HD.out];go_wp2_with fail;refine HO.out.mono ?_;rintro e w1 ⟨rfl, rfl⟩;go_wp2_with fail;go_ret2;exact ⟨rfl, rfl⟩
 ·exact absurd e hd
theorem jU (h : bQ (ct D) w p v Fs ps M) {k : Nat} (hdk : M.co = false) (hk : k < M.ds.length) :
  Calls prog 105 #[.pointer (some ⟨p, 0, none⟩), .int .i64 k] w fun e w' => e = .returned (.tuple #[.pointer (some ⟨ps.getD k 0, 0, none⟩), .int .i64 0]) /\ w = w' := by
 have hm := ae (wI h);have HD := ae hdk;have HO := ae (iB h hk);clear hdk h;generalize ps.getD k 0 = q at *;go_enter func105, ntmps105;go_wp2_with fail;refine hm.out.mono ?_;rintro e w1 ⟨rfl, rfl⟩;rw [HD.out];go_wp2_with fail;refine HO.out.mono ?_;rintro e w1 ⟨rfl, rfl⟩;go_wp2_with fail;go_ret2;exact ⟨rfl, rfl⟩
end
section
variable {D : Dev} {w w' : World} {p : Nat} {v : Value} {Fs : Nat -> Nat -> Prop} {ps : List Nat} {M : aV}
theorem zP (d : Int) (h : bQ (ct D) w p v Fs ps M) :
  Calls prog 81 #[.pointer (some ⟨p, 0, none⟩), .int .i64 d] w fun e w' => e = .returned (.int .i64 (ia M d)) /\ Below w.heap.size w w' := by
 rcases lN M d with ⟨e, ho⟩ | ⟨e, k, rfl, hk⟩
 ·have HS : Hid (ia M d = 0) := ae (by unfold ia; rw [if_neg (by omega)]);have HO := ae (iv h ho);clear e h ho;go_enter func81, ntmps81;go_wp2_with fail;refine HO.out.mono ?_;rintro e w1 ⟨rfl, rfl⟩;go_wp2_with fail;refine (z6 (.inl rfl)).mono ?_;rintro e w2 ⟨rfl, hb⟩;go_wp2_with fail;go_ret;exact ⟨dk HS.out.symm, hb⟩
 ·obtain ⟨x, hx⟩ : ∃ x, M.ds.getD k bI = x := ⟨_, rfl⟩;have hat := h.devs.at_ k hk;rw [hx] at hat
  have HS : Hid (ia M (k : Int) = (x.S.length : Int)) := ae (by unfold ia; rw [if_pos e, M.nO, hx]);have HO := ae (iB h hk);have HD := ae (D.fG hat);clear e h hat hx;generalize ps.getD k 0 = q at *;go_enter func81, ntmps81;go_wp2_with fail;refine HO.out.mono ?_;rintro e w1 ⟨rfl, rfl⟩;go_wp2_with fail;refine HD.out.mono ?_;rintro e w2 ⟨rfl, hb⟩;go_wp2_with fail;go_ret;exact ⟨dk HS.out.symm, hb⟩
theorem agp (d : Int) (h : bQ (ct D) w p v Fs ps M) :
  Calls prog 9 #[.pointer (some ⟨p, 0, none⟩), .int .i64 d] w fun e w' => e = .returned (.int .i64 (lM M d)) /\ Left (ct D) w p v Fs ps M.ds.length (aal M d) w' := by
 rcases lN M d with ⟨e, ho⟩ | ⟨e, k, rfl, hk⟩
 ·have HL := ae (Left.same h (M' := aal M d) (by unfold aal; rw [if_neg (by omega)]));have HO := ae (iv h ho);have HE := ae e;clear e h ho;go_enter func9, ntmps9;go_wp2_with fail;refine HO.out.mono ?_;rintro e w1 ⟨rfl, rfl⟩;go_wp2_with fail;go_ret;exact ⟨dk HE.out.symm, HL⟩
 ·obtain ⟨x, hx⟩ : ∃ x, M.ds.getD k bI = x := ⟨_, rfl⟩;have hat := h.devs.at_ k hk;rw [hx] at hat
  have HS : Hid (aal M (k : Int) = M.put k ⟨x.S, [], true⟩) := ae (by unfold aal; rw [if_pos e, <- hx]; rfl);have HO := ae (iB h hk);have HD := ae (D.fail hat);have HE := ae e;have HH := ae h;clear e h hat hx;go_enter func9, ntmps9;go_wp2_with fail;refine HO.out.mono ?_;rintro e w1 ⟨rfl, rfl⟩;go_wp2_with fail;refine HD.out.mono ?_;rintro e w2 ⟨rfl, F', h1, h2, h3⟩;go_wp2_with fail;go_ret;exact ⟨dk HE.out.symm, Left.turn HH hk h2 h3 (d := ⟨x.S, [], true⟩) h1 HS⟩
theorem n9 (f : Value) (h : bQ (ct D) w p v Fs ps M) (hl : M.left = 1) :
  Calls prog 107 #[.pointer (some ⟨p, 0, none⟩), f] w fun e w' => e = .returned (.int .i64 8) /\ bQ (ct D) w' p v Fs ps M.night /\ Only (fun b => b = p) w w' := by
 obtain ⟨c0, c1, c2, c3⟩ := h.mG;have f3 := frozen_of_row w p 3 _ _ h.at_;rw [hl] at c2;have HH := ae h;have HL := ae hl;clear h hl;go_enter func107, ntmps107;go_wp2_with fail;go_ret;have ho := jS w p 3 (.bool true);refine ⟨rfl, HH.out.obj _ _ _ ho ?_, ho⟩;have := heap_setCell_same w p 3 _ _ (.bool true) HH.out.at_
 simpa [ct] using this
theorem ab5 (h : bQ (ct D) w p v Fs ps M) (h2 : 1 < M.left) : bQ (ct D) ((w.setCell ⟨p, 2, none⟩ (.int .i64 ((M.left : Int) - 1))).setCell ⟨p, 1, none⟩ (.int .i64 ((M.steps : Int) + 1))) p v Fs ps M.done /\ Only (fun b => b = p) w ((w.setCell ⟨p, 2, none⟩ (.int .i64 ((M.left : Int) - 1))).setCell ⟨p, 1, none⟩ (.int .i64 ((M.steps : Int) + 1))) := by
 have ho := (jS w p 2 (.int .i64 ((M.left : Int) - 1))).setCell (p := ⟨p, 1, none⟩) (.inl rfl) (.int .i64 ((M.steps : Int) + 1));refine ⟨h.obj _ _ _ ho ?_, ho⟩;have h3 := heap_setCell_same _ p 1 _ _ (.int .i64 ((M.steps : Int) + 1)) (heap_setCell_same w p 2 _ _ (.int .i64 ((M.left : Int) - 1)) h.at_);have e : ((M.left - 1 : Nat) : Int) = (M.left : Int) - 1 := by omega
 simpa [ct, e] using h3
theorem zX (h : bQ (ct D) w p v Fs ps M) (h2 : M.left = 0) : bQ (ct D) (w.setCell ⟨p, 1, none⟩ (.int .i64 ((M.steps : Int) + 1))) p v Fs ps M.done /\ Only (fun b => b = p) w (w.setCell ⟨p, 1, none⟩ (.int .i64 ((M.steps : Int) + 1))) := by
 have ho := jS w p 1 (.int .i64 ((M.steps : Int) + 1));refine ⟨h.obj _ _ _ ho ?_, ho⟩;have h3 := heap_setCell_same w p 1 _ _ (.int .i64 ((M.steps : Int) + 1)) h.at_
 simpa [ct, h2] using h3
theorem qz (fid : FuncId) (bs cs : Array Value) (h : bQ (ct D) w p v Fs ps M) (hl : M.left ≠ 1) (hs : M.steps < 1000000) (hll : M.left < 9223372036854775808) (hf : ∀ (args : Array Value) (w : World), (callFunc fid args).run prog w = .ok (.enter fid args) w) (Q : Int -> World -> Prop)
  (hdo : ∀ w1, bQ (ct D) w1 p v Fs ps M.done -> Only (fun b => b = p) w w1 -> Calls prog fid (bs ++ cs) w1 fun e w2 => ∃ x, e = .returned (.int .i64 x) /\ Q x w2) :
  Calls prog 107 #[.pointer (some ⟨p, 0, none⟩), .func (.func fid) bs cs] w fun e w2 => ∃ x, e = .returned (.int .i64 x) /\ Q x w2 := by
 obtain ⟨c0, c1, c2, c3⟩ := h.mG;have f2 := frozen_of_row w p 2 _ _ h.at_;have f1 := frozen_of_row w p 1 _ _ h.at_;have HH := ae h;clear h;have hl1 : ((M.left : Int) == 1) = false := by simpa using (by omega : ¬ (M.left : Int) = 1)
 by_cases h2 : 1 < M.left
 ·have HT := ae (ab5 HH h2);go_enter func107, ntmps107;go_wp2_with fail;refine (hdo _ HT.out.1 HT.out.2).mono ?_;rintro e w3 ⟨x, rfl, hq⟩;go_wp2_with fail;go_ret;exact ⟨x, rfl, hq⟩
 ·have hl0 : M.left = 0 := by omega
  have HT := ae (zX HH hl0);rw [hl0] at c2;clear hl1 hl hll h2 hl0;go_enter func107, ntmps107;go_wp2_with fail;refine (hdo _ HT.out.1 HT.out.2).mono ?_;rintro e w3 ⟨x, rfl, hq⟩;go_wp2_with fail;go_ret;exact ⟨x, rfl, hq⟩
end
section
variable {D : Dev} {w w' : World} {p : Nat} {v : Value} {Fs : Nat -> Nat -> Prop} {ps : List Nat} {M : aV}
theorem ahx (d n : Int) (h : bQ (ct D) w p v Fs ps M) :
  Calls prog 141 #[.pointer (some ⟨p, 0, none⟩), .int .i64 d, .int .i64 n] w fun e w' => e = .returned (.tuple #[blk (gq M d n), .int .i64 (di M d n)]) /\ Below w.heap.size w w' := by
 have hA := (Below.refl w.heap.size w).alloc aj (.cells (cel aI).toArray 44);have h1 := h.below hA;have HT := ae (fq w aI 44);have HA := ae hA;by_cases hl : gu M d = 0
 ·rcases fD M d with ⟨e, _⟩ | ⟨e, _⟩ | ⟨e, hdk, k, rfl, hk⟩
  ·omega
  ·omega
  obtain ⟨x, hx⟩ : ∃ x, M.ds.getD k bI = x := ⟨_, rfl⟩;have hat := h1.devs.at_ k hk;rw [hx] at hat
  have HB : Hid (gq M (k : Int) n = jc x.S x.L x.g n) := ae (by unfold gq; rw [if_pos e, <- hx]; rfl);have HE : Hid (di M (k : Int) n = dH x.S x.g n) := ae (by unfold di; rw [if_pos e, <- hx]; rfl);have HO := ae (jU h1 hdk hk);have HD := ae (D.read n hat);have HSZ := ae (World.size_alloc w (.cells (cel aI).toArray 44));clear e h h1 hat hx hdk hA hl;rw [HB.out, HE.out];clear HB HE;generalize jc x.S x.L x.g n = y at *;generalize dH x.S x.g n = z at *;generalize ps.getD k 0 = q at *;go_enter func141, ntmps141;go_wp2_with (first | (refine ay rfl (bW rfl) ?_) | fail);refine HO.out.mono ?_;rintro e w1 ⟨rfl, rfl⟩;go_wp2_with fail;refine HD.out.mono ?_;rintro e w2 ⟨rfl, hb⟩;have HT2 := ae (cd HT (by rw [HSZ.out]; omega) hb);have HB2 := ae (HA.out.trans (hb.mono (by rw [HSZ.out]; omega)));clear hb;go_wp2_with (first | (refine bK rfl (bP rfl rfl rfl HT2.out) ?_) | fail);exact bodyPost_ret (du rfl _ _ _ rfl (World.rangeAt_setCells_same _ _ _ _ (by rw [aM]; exact HT2))) rfl ⟨rfl, below_setCells HB2 aj _⟩
 ·have HB : Hid (gq M d n = aI) := ae (by unfold gq; rw [if_neg hl]);have HE : Hid (di M d n = gu M d) := ae (by unfold di; rw [if_neg hl]);have HO := ae (oS h1 hl);clear h h1 hA;rw [HB.out, HE.out];rcases fD M d with ⟨e, _⟩ | ⟨e, _⟩ | ⟨e, _⟩
  rotate_right 1
  ·exact absurd e hl
  all_goals
   rw [e] at HO ⊢;clear e hl;go_enter func141, ntmps141;go_wp2_with (first | (refine ay rfl (bW rfl) ?_) | fail);refine HO.out.mono ?_;rintro e w1 ⟨rfl, rfl⟩;go_wp2_with (first | (refine ay rfl (dn (c := aI) (parts := []) rfl rfl) ?_) | (refine bK rfl (bP rfl rfl rfl HT.out) ?_));exact bodyPost_ret (du rfl _ _ _ rfl (World.rangeAt_setCells_same _ _ _ _ (by rw [aM]; exact HT))) rfl ⟨rfl, below_setCells HA aj _⟩
theorem agf (d n : Int) (h : bQ (ct D) w p v Fs ps M) :
  Calls prog 12 #[.pointer (some ⟨p, 0, none⟩), .int .i64 d, .int .i64 n] w fun e w' => e = .returned (.tuple #[blk (sg M d n), .int .i64 (sh M d n)]) /\ Below w.heap.size w w' := by
 have hA := (Below.refl w.heap.size w).alloc aj (.cells (cel aI).toArray 44);have h1 := h.below hA;have HT := ae (fq w aI 44);have HA := ae hA;rcases lN M d with ⟨e, ho⟩ | ⟨e, k, rfl, hk⟩
 ·have HB : Hid (sg M d n = aI) := ae (by unfold sg; rw [if_neg (by omega)]);have HE : Hid (sh M d n = 2) := ae (by unfold sh; rw [if_neg (by omega), e]);have HO := ae (iv h1 ho);clear e h h1 ho hA;rw [HB.out, HE.out];go_enter func12, ntmps12;go_wp2_with (first | (refine ay rfl (bW rfl) ?_) | fail);refine HO.out.mono ?_;rintro e w1 ⟨rfl, rfl⟩;go_wp2_with (first | (refine ay rfl (dn (c := aI) (parts := []) rfl rfl) ?_) | (refine bK rfl (bP rfl rfl rfl HT.out) ?_));exact bodyPost_ret (du rfl _ _ _ rfl (World.rangeAt_setCells_same _ _ _ _ (by rw [aM]; exact HT))) rfl ⟨rfl, below_setCells HA aj _⟩
 ·obtain ⟨x, hx⟩ : ∃ x, M.ds.getD k bI = x := ⟨_, rfl⟩;have hat := h1.devs.at_ k hk;rw [hx] at hat
  have HB : Hid (sg M (k : Int) n = iw x.S x.g n) := ae (by unfold sg; rw [if_pos e, <- hx]; rfl);have HE : Hid (sh M (k : Int) n = dH x.S x.g n) := ae (by unfold sh; rw [if_pos e, <- hx]; rfl);have HO := ae (iB h1 hk);have HD := ae (D.sure n hat);have HSZ := ae (World.size_alloc w (.cells (cel aI).toArray 44));clear e h h1 hat hx hA;rw [HB.out, HE.out];clear HB HE;generalize iw x.S x.g n = y at *;generalize dH x.S x.g n = z at *;generalize ps.getD k 0 = q at *;go_enter func12, ntmps12;go_wp2_with (first | (refine ay rfl (bW rfl) ?_) | fail);refine HO.out.mono ?_;rintro e w1 ⟨rfl, rfl⟩;go_wp2_with fail;refine HD.out.mono ?_;rintro e w2 ⟨rfl, hb⟩;have HT2 := ae (cd HT (by rw [HSZ.out]; omega) hb);have HB2 := ae (HA.out.trans (hb.mono (by rw [HSZ.out]; omega)));clear hb;go_wp2_with (first | (refine bK rfl (bP rfl rfl rfl HT2.out) ?_) | fail);exact bodyPost_ret (du rfl _ _ _ rfl (World.rangeAt_setCells_same _ _ _ _ (by rw [aM]; exact HT2))) rfl ⟨rfl, below_setCells HB2 aj _⟩
theorem vl (d : Int) (h : bQ (ct D) w p v Fs ps M) (hl : iH M d ≠ 0) :
  Calls prog 72 #[.pointer (some ⟨p, 0, none⟩), .int .i64 d] w fun e w' => e = .returned (.int .i64 (ez M d)) /\ Left (ct D) w p v Fs ps M.ds.length (fC M d) w' := by
 have HE : Hid (ez M d = iH M d) := ae (by unfold ez; rw [if_neg hl]);have HL : Hid (∀ w', Below w.heap.size w w' -> Left (ct D) w p v Fs ps M.ds.length (fC M d) w') := ae (fun w' hb => by
  have e : fC M d = M := by unfold fC; rw [if_neg hl]
  rw [e];exact ⟨Fs, ps, h.below hb, Only.of_below _ hb, Grow.same _ _⟩)
 by_cases h0 : gu M d = 0
 ·rcases fD M d with ⟨e, _⟩ | ⟨e, _⟩ | ⟨e, hdk, k, rfl, hk⟩
  ·omega
  ·omega
  obtain ⟨x, hx⟩ : ∃ x, M.ds.getD k bI = x := ⟨_, rfl⟩;have hat := h.devs.at_ k hk;rw [hx] at hat
  have hg : x.g = true := by
   cases hg : x.g
   ·exfalso; apply hl; unfold iH; rw [if_pos e, show M.dev (k : Int) = x from hx, hg, if_neg (by decide)]
   ·rfl
  have H9 : Hid (iH M (k : Int) = 9) := ae (by unfold iH; rw [if_pos e, show M.dev (k : Int) = x from hx, hg, if_pos rfl]);have HO := ae (jU h hdk hk);have HD := ae (D.dead hat);have HG := ae hg;clear e h hat hx hdk hl h0 hg;generalize ps.getD k 0 = q at *;go_enter func72, ntmps72;go_wp2_with fail;refine HO.out.mono ?_;rintro e w1 ⟨rfl, rfl⟩;go_wp2_with fail;refine HD.out.mono ?_;rintro e w2 ⟨rfl, hb⟩;rw [HG.out];have HBB := ae hb;clear hb;go_wp2_with fail;go_ret;exact ⟨dk (by rw [HE.out, H9.out]), HL.out _ HBB⟩
 ·have HA : Hid (iH M d = gu M d) := ae (by unfold iH; rw [if_neg h0]);have HO := ae (oS h h0);clear h hl;rw [HE.out, HA.out];rcases fD M d with ⟨e, _⟩ | ⟨e, _⟩ | ⟨e, _⟩
  rotate_right 1
  ·exact absurd e h0
  all_goals
   rw [e] at HO ⊢;clear e h0;go_enter func72, ntmps72;go_wp2_with fail;refine HO.out.mono ?_;rintro e w1 ⟨rfl, rfl⟩;go_wp2_with fail;go_ret;exact ⟨rfl, HL.out _ ak⟩
theorem ae9 (d : Int) (h : bQ (ct D) w p v Fs ps M) (hs : M.steps < 1000000) (hll : M.left < 9223372036854775808) :
  Calls prog 72 #[.pointer (some ⟨p, 0, none⟩), .int .i64 d] w fun e w' => e = .returned (.int .i64 (ez M d)) /\ Left (ct D) w p v Fs ps M.ds.length (fC M d) w' := by
 by_cases hl : iH M d = 0;rotate_left 1
 ·exact vl d h hl
 have hlit : gu M d = 0 := by
  unfold iH at hl;by_cases h0 : gu M d = 0
  ·exact h0
  ·rw [if_neg h0] at hl; exact hl
 rcases fD M d with ⟨e, _⟩ | ⟨e, _⟩ | ⟨e, hdk, k, rfl, hk⟩
 ·omega
 ·omega
 obtain ⟨x, hx⟩ : ∃ x, M.ds.getD k bI = x := ⟨_, rfl⟩;have hat := h.devs.at_ k hk;rw [hx] at hat
 have hg : x.g = false := by
  cases hg : x.g
  ·rfl
  ·exfalso; unfold iH at hl; rw [if_pos e, show M.dev (k : Int) = x from hx, hg, if_pos rfl] at hl; omega
 have HEE : Hid (ez M (k : Int) = M.fc) := ae (by unfold ez; rw [if_pos hl]);have HO := ae (jU h hdk hk);have HD := ae (D.dead hat);have HG := ae hg;obtain ⟨q, hq⟩ : ∃ q, ps.getD k 0 = q := ⟨_, rfl⟩;rw [hq] at HO HD;by_cases h1 : M.left = 1
 ·have HE : Hid (M.fc = 8) := ae (by unfold aV.fc; rw [if_pos h1]);have HS : Hid (fC M (k : Int) = M.night) := ae (by unfold fC; rw [if_pos hl, if_pos h1]);have HH := ae h;have H1 := ae h1;clear e h hat hx hdk hl hg h1 hlit hs hll hq;go_enter func72, ntmps72;go_wp2_with fail;refine HO.out.mono ?_;rintro e w1 ⟨rfl, rfl⟩;go_wp2_with fail;refine HD.out.mono ?_;rintro e w2 ⟨rfl, hb⟩;rw [HG.out];have HBB := ae hb;clear hb;go_wp2_with fail;refine (n9 _ (HH.out.below HBB) H1).mono ?_;rintro e w3 ⟨rfl, h3, ho3⟩;go_wp2_with fail;go_ret;refine ⟨dk (by rw [HEE.out, HE.out]), ?_⟩;rw [HS.out];exact ⟨Fs, ps, h3, (Only.of_below _ HBB).trans (mD _ ho3) fun b hb => .inl hb, Grow.same _ _⟩
 ·have HE : Hid (M.fc = 0) := ae (by unfold aV.fc; rw [if_neg h1]);have HS : Hid (fC M (k : Int) = M.done.put k ⟨flS x.S x.L, [], x.g⟩) := ae (by unfold fC; rw [if_pos hl, if_neg h1, show M.dev (k : Int) = x from hx]; rfl);have HH := ae h;have H1 := ae h1;have HX := ae hx;have HSS := ae hs;have HLL := ae hll;have HQ := ae hq;clear e h hat hx hdk hl hg h1 hlit hs hll hq;go_enter func72, ntmps72;go_wp2_with fail;refine HO.out.mono ?_;rintro e w1 ⟨rfl, rfl⟩;go_wp2_with fail;refine HD.out.mono ?_;rintro e w2 ⟨rfl, hb⟩;rw [HG.out];have HBB := ae hb;clear hb;go_wp2_with fail;refine (qz 108 #[.pointer (some ⟨q, 0, none⟩)] #[] (HH.out.below HBB) H1 HSS HLL call108 (fun z w3 => z = 0 /\ Left (ct D) w2 p v Fs ps M.ds.length (fC M (k : Int)) w3) ?_).mono ?_
  ·intro w3 h3 ho3;have hat3 := h3.devs.at_ k hk;rw [show M.done.ds.getD k bI = x from HX.out, HG.out, HQ.out] at hat3;refine (D.flush hat3).mono ?_;rintro e w4 ⟨he, F', g1, g2, g3⟩;refine ⟨0, by simpa using he, rfl, Left.behind ho3 (Left.turn h3 hk g2 g3 (d := ⟨flS x.S x.L, [], x.g⟩) (show D.Dv _ _ _ _ _ _ by rw [HG.out, HQ.out]; simpa using g1) HS)⟩
  ·rintro e w4 ⟨z, rfl, rfl, Fs', ps', h4, ho4, hg4⟩;go_wp2_with fail;go_ret;refine ⟨dk (by rw [HEE.out, HE.out]), Fs', ps', h4, (Only.of_below _ HBB).trans ho4 fun b hb => .inl hb, fun b hb => ?_⟩;rcases hg4 b hb with e | e
   ·exact .inl e
   ·exact .inr (aq HBB.out.size e)
end
section
variable {D : Dev} {w w' : World} {p : Nat} {v : Value} {Fs : Nat -> Nat -> Prop} {ps : List Nat} {M : aV}
def wr3 (w : World) (n : Int) (b : Blk) (q : Option Addr) : World := ((w.alloc (.cells #[.int .i64 n] 3)).alloc (.cells (cel b).toArray 44)).alloc (.cells #[.pointer q] 83)
theorem mI (w : World) (n : Int) (b : Blk) (q : Option Addr) : Below w.heap.size w (wr3 w n b q) /\ (wr3 w n b q).heap[w.heap.size]? = some (.cells #[.int .i64 n] 3) /\ (wr3 w n b q).heap[w.heap.size + 1]? = some (.cells (cel b).toArray 44) /\ (wr3 w n b q).heap[w.heap.size + 1 + 1]? = some (.cells #[.pointer q] 83) /\ (wr3 w n b q).heap.size = w.heap.size + 1 + 1 + 1 := by
 unfold wr3;have e1 := World.size_alloc (w := w) (o := .cells #[.int .i64 n] 3);have e2 := World.size_alloc (w := w.alloc (.cells #[.int .i64 n] 3)) (o := .cells (cel b).toArray 44);have e3 := World.size_alloc (w := (w.alloc (.cells #[.int .i64 n] 3)).alloc (.cells (cel b).toArray 44)) (o := .cells #[.pointer q] 83);have n1 := ly w #[.int .i64 n] 3;have n2 := ly (w.alloc (.cells #[.int .i64 n] 3)) (cel b).toArray 44;have n3 := ly ((w.alloc (.cells #[.int .i64 n] 3)).alloc (.cells (cel b).toArray 44)) #[.pointer q] 83;rw [e2, e1] at n3;rw [e1] at n2;refine ⟨(((Below.refl _ w).alloc aj _).alloc (by omega) _).alloc (by omega) _, br (br n1 _) _, br n2 _, n3, by omega⟩
theorem aiZ {q a b c : Nat} {n : Int} {x : Blk} {F : Nat -> Prop} {S : List Blk} {L : List (Int × Blk)} {g : Bool} (h : D.Dv w F q S L g) (hL : L.length < 1000000) (hq : w.heap[a]? = some (.cells #[.pointer (some ⟨q, 0, none⟩)] 83)) (hn : w.heap[b]? = some (.cells #[.int .i64 n] 3)) (hx : w.heap[c]? = some (.cells (cel x).toArray 44)) :
  Calls prog 113 #[.pointer (some ⟨a, 0, none⟩), .pointer (some ⟨b, 0, none⟩), .pointer (some ⟨c, 0, none⟩)] w fun e w' => e = .returned (.int .i64 (dH S g n)) /\ ∃ F', D.Dv w' F' q S (wrL S L g n x) g /\ Only F w w' /\ Grow w F F' := by
 obtain ⟨c1, f1⟩ := one_cell hq;obtain ⟨c2, f2⟩ := one_cell hn;have HR := ae (rk hx);have HD := ae (D.write n x hL h);clear h hq hn hx;go_enter func113, ntmps113;go_wp2_with (first | (refine ay rfl (bJ rfl rfl HR) ?_) | fail);refine HD.out.mono ?_;rintro e w4 ⟨rfl, F', g1, g2, g3⟩;go_wp2_with fail;go_ret;exact ⟨rfl, F', g1, g2, g3⟩
theorem sU (d n : Int) (x : Blk) (h : bQ (ct D) w p v Fs ps M) (h0 : gu M d ≠ 0) :
  Calls prog 76 #[.pointer (some ⟨p, 0, none⟩), .int .i64 d, .int .i64 n, blk x] w fun e w' => e = .returned (.int .i64 (gu M d)) /\ Below w.heap.size w w' := by
 have hA : Below w.heap.size w ((w.alloc (.cells #[.int .i64 n] 3)).alloc (.cells (cel x).toArray 44)) := ((Below.refl _ w).alloc aj _).alloc (by rw [World.size_alloc]; omega) _;have HO := ae (oS (h.below hA) h0);have HF := ae (mI w n x none).1;clear h hA;rcases fD M d with ⟨e, _⟩ | ⟨e, _⟩ | ⟨e, _⟩
 rotate_right 1
 ·exact absurd e h0
 all_goals
  rw [e] at HO ⊢;clear e h0;go_enter func76, ntmps76;go_wp2_with (first | (refine ay rfl (cP rfl rfl) ?_) | fail);refine HO.out.mono ?_;rintro e w1 ⟨rfl, rfl⟩;go_wp2_with fail;go_ret;exact ⟨rfl, HF⟩
end
section
variable {D : Dev} {w w' : World} {p : Nat} {v : Value} {Fs : Nat -> Nat -> Prop} {ps : List Nat} {M : aV}
theorem tq (n : Int) (x : Blk) (h : bQ (ct D) w p v Fs ps M) {k : Nat} (hdk : M.co = false) (hk : k < M.ds.length) (he : dH (M.ds.getD k bI).S (M.ds.getD k bI).g n ≠ 0) :
  Calls prog 76 #[.pointer (some ⟨p, 0, none⟩), .int .i64 k, .int .i64 n, blk x] w fun e w' => e = .returned (.int .i64 (dH (M.ds.getD k bI).S (M.ds.getD k bI).g n)) /\ Below w.heap.size w w' := by
 obtain ⟨y, hy⟩ : ∃ y, M.ds.getD k bI = y := ⟨_, rfl⟩;obtain ⟨q, hq⟩ : ∃ q, ps.getD k 0 = q := ⟨_, rfl⟩;have hA : Below w.heap.size w ((w.alloc (.cells #[.int .i64 n] 3)).alloc (.cells (cel x).toArray 44)) := ((Below.refl _ w).alloc aj _).alloc (by rw [World.size_alloc]; omega) _;have HO := ae (jU (h.below hA) hdk hk);obtain ⟨hB, k0, k1, k2, hsz⟩ := mI w n x (some ⟨q, 0, none⟩);have hat := (h.below hB).devs.at_ k hk;rw [hy, hq] at hat
 rw [hy] at he ⊢;rw [hq] at HO;have HD := ae (D.sure n hat);have HB := ae hB;obtain ⟨c0, f0⟩ := one_cell k0;obtain ⟨c2, f2⟩ := one_cell k2;rcases iz (S := y.S) (g := y.g) (n := n) with e | e | ⟨e, _⟩
 rotate_right 1
 ·exact absurd e he
 all_goals
  rw [e] at HD ⊢;clear e he h hA hB k0 k1 k2 hat hy hq hdk;go_enter func76, ntmps76;unfold wr3 at *;go_wp2_with (first | (refine ay rfl (cP rfl rfl) ?_) | fail);refine HO.out.mono ?_;rintro e w1 ⟨rfl, rfl⟩;go_wp2_with fail;refine HD.out.mono ?_;rintro e w2 ⟨rfl, hb⟩;have HBB := ae (HB.out.trans (hb.mono (by rw [hsz]; omega)));clear hb;go_wp2_with (first | (refine ay rfl (bW rfl) ?_) | (refine bK rfl (mn rfl rfl rfl) ?_) | fail);go_ret;exact ⟨rfl, HBB.out.alloc HBB.out.size _⟩
theorem vv (n : Int) (x : Blk) (h : bQ (ct D) w p v Fs ps M) {k : Nat} (hdk : M.co = false) (hk : k < M.ds.length) (he : dH (M.ds.getD k bI).S (M.ds.getD k bI).g n = 0) (hs : M.steps < 1000000) (hll : M.left < 9223372036854775808) (hL : (M.ds.getD k bI).L.length < 1000000) :
  Calls prog 76 #[.pointer (some ⟨p, 0, none⟩), .int .i64 k, .int .i64 n, blk x] w fun e w' => e = .returned (.int .i64 M.fc) /\ Left (ct D) w p v Fs ps M.ds.length (dP M (k : Int) n x) w' := by
 obtain ⟨y, hy⟩ : ∃ y, M.ds.getD k bI = y := ⟨_, rfl⟩;obtain ⟨q, hq⟩ : ∃ q, ps.getD k 0 = q := ⟨_, rfl⟩;have hA : Below w.heap.size w ((w.alloc (.cells #[.int .i64 n] 3)).alloc (.cells (cel x).toArray 44)) := ((Below.refl _ w).alloc aj _).alloc (by rw [World.size_alloc]; omega) _;have HO := ae (jU (h.below hA) hdk hk);obtain ⟨hB, k0, k1, k2, hsz⟩ := mI w n x (some ⟨q, 0, none⟩);have hat := (h.below hB).devs.at_ k hk;have hr0 : di M (k : Int) n = 0 := by unfold di; rw [if_pos (lL hdk hk), M.nO]; exact he
 rw [hy, hq] at hat
 rw [hy] at he hL;rw [hq] at HO;have HD := ae (D.sure n hat);have HB := ae hB;have HH := ae h;have HK0 := ae k0;have HK1 := ae k1;have HK2 := ae k2;have HE := ae he;have HSS := ae hs;have HLL := ae hll;have HL := ae hL;have HY := ae hy;have HQ := ae hq;have HR := ae hr0;obtain ⟨c0, f0⟩ := one_cell k0;obtain ⟨c2, f2⟩ := one_cell k2;rw [he] at HD;by_cases h1 : M.left = 1
 all_goals
  have H1 := ae h1;clear h1 he h hA hB k0 k1 k2 hat hy hq hdk hs hll hL hr0;go_enter func76, ntmps76;unfold wr3 at *;go_wp2_with (first | (refine ay rfl (cP rfl rfl) ?_) | fail);refine HO.out.mono ?_;rintro e w1 ⟨rfl, rfl⟩;go_wp2_with fail;refine HD.out.mono ?_;rintro e w2 ⟨rfl, hb⟩;have hb2 := HB.out.trans (hb.mono (by rw [hsz]; omega));have HBB := ae (hb2.alloc hb2.size (.cells (cel (iw y.S y.g n)).toArray 44));have HA0 := ae (br (aB HK0 hb) (.cells (cel (iw y.S y.g n)).toArray 44));have HA1 := ae (br (aB HK1 hb) (.cells (cel (iw y.S y.g n)).toArray 44));have HA2 := ae (br (aB HK2 hb) (.cells (cel (iw y.S y.g n)).toArray 44));clear hb hb2 c0 c2 f0 f2 hsz;generalize iw y.S y.g n = z at *;go_wp2_with (first | (refine ay rfl (bW rfl) ?_) | (refine bK rfl (mn rfl rfl rfl) ?_) | fail);generalize w2.alloc (.cells (cel z).toArray 44) = w3 at *
 ·refine (n9 _ (HH.out.below HBB) H1).mono ?_;rintro e w4 ⟨rfl, h4, ho4⟩;go_wp2_with fail;go_ret;refine ⟨dk (by unfold aV.fc; rw [if_pos H1.out]), ?_⟩;rw [show dP M (k : Int) n x = M.night from by unfold dP; rw [if_pos HR.out, if_pos H1.out]];exact Left.above HBB (Left.obj h4 ho4 rfl)
 ·refine (qz 113 #[] _ (HH.out.below HBB) H1 HSS HLL call113 (fun z w4 => z = 0 /\ Left (ct D) w3 p v Fs ps M.ds.length (dP M (k : Int) n x) w4) ?_).mono ?_
  ·intro w4 h4 ho4;have hat4 := h4.devs.at_ k hk;rw [show M.done.ds.getD k bI = y from HY.out, HQ.out] at hat4;have hne : ∀ j, j < 3 -> w.heap.size + j ≠ p := fun j _ e => by have := aT HH.out.at_; omega
   refine (aiZ hat4 HL (ho4.keep HA2 (hne 2 (by omega))) (ho4.keep HA0 (hne 0 (by omega))) (ho4.keep HA1 (hne 1 (by omega)))).mono ?_;rintro e w5 ⟨he5, F', g1, g2, g3⟩;refine ⟨_, he5, HE, Left.behind ho4 (Left.turn h4 hk g2 g3 (d := ⟨y.S, wrL y.S y.L y.g n x, y.g⟩) (show D.Dv _ _ _ _ _ _ by rw [HQ.out]; exact g1) ?_)⟩;unfold dP;rw [if_pos HR.out, if_neg H1.out, show M.dev (k : Int) = y from HY.out]
   rfl
  ·rintro e w5 ⟨z, rfl, rfl, hl5⟩;have HL5 := ae (Left.above HBB hl5);clear hl5;go_wp2_with fail;go_ret;exact ⟨dk (by unfold aV.fc; rw [if_neg H1.out]), HL5⟩
theorem aey (d n : Int) (x : Blk) (h : bQ (ct D) w p v Fs ps M) (hr : ∀ i, i < M.ds.length -> (M.ds.getD i bI).L.length < 1000000) (hs : M.steps < 1000000) (hll : M.left < 9223372036854775808) :
  Calls prog 76 #[.pointer (some ⟨p, 0, none⟩), .int .i64 d, .int .i64 n, blk x] w fun e w' => e = .returned (.int .i64 (ex M d n)) /\ Left (ct D) w p v Fs ps M.ds.length (dP M d n x) w' := by
 by_cases h0 : gu M d = 0
 ·rcases fD M d with ⟨e, _⟩ | ⟨e, _⟩ | ⟨e, hdk, k, rfl, hk⟩
  ·omega
  ·omega
  have hr0 : di M (k : Int) n = dH (M.ds.getD k bI).S (M.ds.getD k bI).g n := by unfold di; rw [if_pos e, M.nO]
  by_cases he : dH (M.ds.getD k bI).S (M.ds.getD k bI).g n = 0
  ·refine (vv n x h hdk hk he hs hll (hr k hk)).mono ?_;rintro e w' ⟨rfl, hl⟩;exact ⟨by unfold ex; rw [hr0, if_pos he], hl⟩
  ·refine (tq n x h hdk hk he).mono ?_;rintro e w' ⟨rfl, hb⟩;exact ⟨by unfold ex; rw [hr0, if_neg he], Left.abC h hb (by unfold dP; rw [hr0, if_neg he])⟩
 ·refine (sU d n x h h0).mono ?_;rintro e w' ⟨rfl, hb⟩;have hr0 : di M d n = gu M d := by unfold di; rw [if_neg h0]
  exact ⟨by unfold ex; rw [hr0, if_neg h0], Left.abC h hb (by unfold dP; rw [hr0, if_neg h0])⟩
end
section
variable {D : Dev} {w w' : World}
theorem aiv {A : Option Addr} {n c : Nat} {ks : List Int} (hl : RdE bN w w.heap.size A n ks) (hnc : n <= c) (hc : c <= maxLen) :
  Calls prog 14 #[.slice A n c] w (fj (ct D) w ks) := by
 have hlen : ks.length = n := hl.1;unfold maxLen at hc;by_cases h1 : n < 1
 ·have HN := ae (show ¬ i8 ks from fun h => by have := h.1; omega);have h0 : n = 0 := by omega
  subst h0;clear hl hlen h1;go_enter func14, ntmps14;go_wp2;go_ret2;exact fj.no ak HN rfl
 by_cases h2 : 17 < n
 ·have HN := ae (show ¬ i8 ks from fun h => by have := h.2.1; omega);have h1' : ¬((n : Int) < 1) := by omega
  have h2' : ((n : Int) > 17) := by omega
  clear hl hlen h1 h2;go_enter func14, ntmps14;go_wp2;go_ret2;exact fj.no ak HN rfl
 have h1' : ¬((n : Int) < 1) := by omega
 have h2' : ¬((n : Int) > 17) := by omega
 have h3' : ¬(17 < (n : Int)) := by omega
 have HL := ae hl;have HLEN := ae hlen;have HMK := ae (show Making (ct D) w (w.alloc (.cells #[.slice none 0 0, .int .i64 0, .int .i64 0, .bool false] 95)) (.slice none 0 0) (fun _ _ => False) [] [] 0 false 0 from
  ⟨heap_alloc_new w _, aO.nil _ _, ⟨rfl, fun i hi => absurd hi (Nat.not_lt_zero i), fun i j hi => absurd hi (Nat.not_lt_zero i)⟩, fun i hi => absurd hi (Nat.not_lt_zero i), (Below.refl _ w).alloc aj _⟩)
 clear hl hlen;go_enter func14, ntmps14;go_wp2_with fail;generalize w.alloc (.cells #[.slice none 0 0, .int .i64 0, .int .i64 0, .bool false] 95) = w0 at *;clear h1' h2' h3'
 go_loopw [21] (fun i wr => ∃ (j : Nat) (v : Value) (Fs : Nat -> Nat -> Prop) (ps : List Nat), j <= n /\ i = .int .i64 j /\ Making (ct D) w wr v Fs ps ((ks.take j).map nV) 0 false 0 /\ ∀ q, q < j -> 1 <= ks.getD q 0 /\ ks.getD q 0 <= 512) (fun i _ => n - (intOf i).toNat)
 case atStart => exact ⟨0, _, _, _, Nat.zero_le _, rfl, HMK, fun q hq => absurd hq (Nat.not_lt_zero q)⟩
 case round =>
  obtain ⟨j, v, Fs, ps, hj, rfl, hmk, hall⟩ := hrel;have HALL := ae hall;clear hall HMK;by_cases hlt : j < n
  ·have hlj : (j : Int) < (n : Int) := by omega
   obtain ⟨bA, oA, rfl, hbA, hcA⟩ := (HL.out.below hmk.below).int hlt;have HM := ae hmk;obtain ⟨AS, cS, rfl, hs1, hs2⟩ := hmk.row.form;unfold maxLen at hs2;have hpl : ps.length = j := by have := hmk.devs.len; rw [List.length_map, List.length_take] at this; have := HLEN.out; omega
   have HPL := ae hpl;obtain ⟨z, hz⟩ : ∃ z, ks.getD j 0 = z := ⟨_, rfl⟩;rw [hz] at hcA;have HZ := ae hz;clear hmk hz hpl;by_cases hok : 1 <= z /\ z <= 512
   ·obtain ⟨k, rfl⟩ : ∃ k : Nat, z = k := ⟨z.toNat, by omega⟩;have hk1 : 1 <= k := by omega
    have hk2 : k <= 512 := by omega
    clear hok;go_wp2_with fail;refine (D.new_ok k wr hk1 hk2).mono ?_;rintro e w1 ⟨p', F', rfl, hd1, hb1, hF1⟩;have hat1 := aB HM.out.at_ hb1;obtain ⟨c0, c1, c2, c3⟩ := dY hat1;have hrow1 := HM.out.row.below hb1;have hrow2 := hrow1.below ((Below.refl _ w1).alloc aj (.cells ((ct D).E.cel p').toArray (ct D).E.t));have HR := ae hrow2;have HNEW := ae (fI (E := (ct D).E) (l := [p']) w1 ((ct D).E.cel p').toArray (ct D).E.t (by rw [eD]; simp [cu]));have HSZ := ae (show w.heap.size <= (w1.alloc (.cells ((ct D).E.cel p').toArray (ct D).E.t)).heap.size by rw [World.size_alloc]; have := HM.out.below.size; have := hb1.size; omega);have HD1 := ae hd1;have HB1 := ae hb1;have HF1 := ae hF1;have HAT := ae hat1;have HPS := ae (show ps.length + 1 <= 34359738368 by have := HPL.out; omega);clear hd1 hb1 hF1 hat1 hrow1 hrow2;have hal : w.heap.size < w1.heap.size := aT HAT;go_wp2_with (first | (refine ay rfl (el (E := (ct D).E) (a := p') rfl rfl rfl (by decide)) ?_) | (at_builtin; refine jF (ct D).E rfl _ _ rfl w.heap.size _ _ _ _ ps [p'] _ rfl rfl HR HNEW HSZ HPS ?_) | fail);intro v' w3 hm3 hg3 ho3;have hxv : v'.ownBlock ≠ some w.heap.size := fun e => by
     rcases ho3 _ e with e' | e'
     ·exact HM.out.row.eZ HM.out.at_ (ct D).ne e'
     ·omega
    have HNX := ae (HM.out.next (fun _ _ => rfl) HB1 HF1 (d := nV k) HD1 hm3 hg3 ho3);have hvx : (Value.slice AS ps.length cS).ownBlock ≠ some w.heap.size := HM.out.row.eZ HM.out.at_ (ct D).ne;have hat3 : w3.heap[w.heap.size]? = some _ := (hg3.block w.heap.size (by rw [World.size_alloc]; omega) (fun e => hvx e.symm)).trans (br HAT _);obtain ⟨AV, cV, rfl, _, _⟩ := hm3.form;obtain ⟨d0, d1, d2, d3⟩ := dY hat3;have f0 := frozen_of_row w3 w.heap.size 0 _ _ hat3;clear hm3 hg3 ho3 hat3 c0 c1 c2 c3;go_wp2_with fail;go_roundw
    case rel =>
     refine ⟨j + 1, .slice AV (ps.length + 1) cV, upF Fs (List.map nV (List.take j ks)).length F', ps ++ [p'], by omega, by go_num, ?_, fun q hq => ?_⟩
     ·rw [kJ (by have := HLEN.out; omega), HZ.out];have h6 := HNX.out;rw [show (ps ++ [p']).length = ps.length + 1 from by simp] at h6;exact h6
     ·by_cases e : q = j
      ·subst e; rw [HZ.out]; omega
      ·exact HALL.out q (by omega)
    case measure => simp [intOf]; omega
   ·have HB := ae HM.out.below;have HN := ae (show ¬ i8 ks from fun h => hok (by have := h.2.2 z (by rw [<- HZ.out]; exact kf (by have := HLEN.out; omega)); exact this));go_wp2_with fail;refine (D.new_no z wr hok).mono ?_;rintro e w1 ⟨rfl, hb1⟩;have HB1 := ae (HB.out.trans (hb1.mono HB.out.size));clear hb1 hok;go_wp2_with fail;go_ret2;exact fj.no HB1 HN rfl
  ·have hjn : j = n := by omega
   subst hjn;have hlj : ¬((j : Int) < (j : Int)) := by omega
   have HM := ae hmk;clear hmk;go_wp2_with fail;go_ret2;have h5 := HM.out;have hLL := HLEN.out;rw [<- hLL, List.take_length] at h5;obtain ⟨g1, g2, g3⟩ := h5.done (by rw [List.length_map]; omega) (by rw [List.length_map]; omega);refine ⟨g3, .inl ⟨⟨by omega, by omega, fun k hk => ?_⟩, _, _, _, _, rfl, g1, g2⟩⟩;obtain ⟨i, hi, rfl⟩ := List.getElem_of_mem hk;have := HALL.out i (by omega);rwa [List.getD_eq_getElem?_getD, List.getElem?_eq_getElem hi] at this
end
structure ahB where
 read : FuncId
 write : FuncId
 flush : FuncId
 fail : FuncId
 sure : FuncId
 devices : FuncId
 fG : FuncId
 co : FuncId
structure aV.Wf (M : aV) : Prop where
 one : 1 <= M.ds.length
 cap : M.ds.length <= 17
 len : ∀ i, i < M.ds.length -> 1 <= (M.ds.getD i bI).S.length /\ (M.ds.getD i bI).S.length <= 512
structure Ben (I : ahB) where
 Bn : World -> (Nat -> Prop) -> Nat -> aV -> Prop
 lt : ∀ {w F p M}, Bn w F p M -> ∀ b, F b -> b < w.heap.size
 only : ∀ {w w' F G p M}, Bn w F p M -> Only G w w' -> (∀ b, F b -> ¬ G b) -> Bn w' F p M
 wf : ∀ {w F p M}, Bn w F p M -> M.Wf
 read : ∀ {w F p M} (d n : Int), Bn w F p M -> Calls prog I.read #[.pointer (some ⟨p, 0, none⟩), .int .i64 d, .int .i64 n] w fun e w' => e = .returned (.tuple #[blk (gq M d n), .int .i64 (di M d n)]) /\ Below w.heap.size w w'
 sure : ∀ {w F p M} (d n : Int), Bn w F p M -> Calls prog I.sure #[.pointer (some ⟨p, 0, none⟩), .int .i64 d, .int .i64 n] w fun e w' => e = .returned (.tuple #[blk (sg M d n), .int .i64 (sh M d n)]) /\ Below w.heap.size w w'
 write : ∀ {w F p M} (d n : Int) (b : Blk), Room M 1 -> Bn w F p M -> Calls prog I.write #[.pointer (some ⟨p, 0, none⟩), .int .i64 d, .int .i64 n, blk b] w fun e w' => e = .returned (.int .i64 (ex M d n)) /\ ∃ F', Bn w' F' p (dP M d n b) /\ Only F w w' /\ Grow w F F'
 flush : ∀ {w F p M} (d : Int), Room M 1 -> Bn w F p M -> Calls prog I.flush #[.pointer (some ⟨p, 0, none⟩), .int .i64 d] w fun e w' => e = .returned (.int .i64 (ez M d)) /\ ∃ F', Bn w' F' p (fC M d) /\ Only F w w' /\ Grow w F F'
 fail : ∀ {w F p M} (d : Int), Bn w F p M -> Calls prog I.fail #[.pointer (some ⟨p, 0, none⟩), .int .i64 d] w fun e w' => e = .returned (.int .i64 (lM M d)) /\ ∃ F', Bn w' F' p (aal M d) /\ Only F w w' /\ Grow w F F'
 devices : ∀ {w F p M}, Bn w F p M -> Calls prog I.devices #[.pointer (some ⟨p, 0, none⟩)] w fun e w' => e = .returned (.int .i64 (M.ds.length : Int)) /\ Below w.heap.size w w'
 fG : ∀ {w F p M} (d : Int), Bn w F p M -> Calls prog I.fG #[.pointer (some ⟨p, 0, none⟩), .int .i64 d] w fun e w' => e = .returned (.int .i64 (ia M d)) /\ Below w.heap.size w w'
 co : ∀ {w F p M}, Bn w F p M -> Calls prog I.co #[.pointer (some ⟨p, 0, none⟩)] w fun e w' => e = .returned (.bool M.co) /\ Below w.heap.size w w'
theorem Ben.below {I : ahB} (R : Ben I) {w w' : World} {F : Nat -> Prop} {p : Nat} {M : aV} (h : R.Bn w F p M) (k : Below w.heap.size w w') : R.Bn w' F p M := R.only h (Only.of_below (fun _ => False) k) fun _ _ e => e
section
variable {k : ig} {w w' : World} {F G : Nat -> Prop} {p : Nat} {M M' : aV}
def ahu (Bn : World -> (Nat -> Prop) -> Nat -> aV -> Prop) (w : World) (ks : List Int) (e : Ending) (w' : World) : Prop :=
 Below w.heap.size w w' /\ ((i8 ks /\ ∃ p F, e = .returned (.tuple #[.pointer (some ⟨p, 0, none⟩), .int .i64 0]) /\ Bn w' F p (fe ks) /\ ∀ b, F b -> w.heap.size <= b) \/ (¬ i8 ks /\ e = .returned (.tuple #[.pointer none, .int .i64 2])))
def InB (k : ig) (w : World) (F : Nat -> Prop) (p : Nat) (M : aV) : Prop := ∃ v Fs ps, F = ir p v Fs M.ds.length /\ bQ k w p v Fs ps M
theorem InB.lt (h : InB k w F p M) : ∀ b, F b -> b < w.heap.size := by
 obtain ⟨v, Fs, ps, rfl, h⟩ := h;exact h.lt
theorem InB.only (h : InB k w F p M) (ho : Only G w w') (hn : ∀ b, F b -> ¬ G b) : InB k w' F p M := by
 obtain ⟨v, Fs, ps, rfl, h⟩ := h;exact ⟨v, Fs, ps, rfl, h.only ho hn⟩
theorem Left.out {v : Value} {Fs : Nat -> Nat -> Prop} {ps : List Nat} (h : Left k w p v Fs ps M.ds.length M' w') : ∃ F', InB k w' F' p M' /\ Only (ir p v Fs M.ds.length) w w' /\ Grow w (ir p v Fs M.ds.length) F' := by
 obtain ⟨Fs', ps', h1, h2, h3⟩ := h;exact ⟨_, ⟨v, Fs', ps', rfl, h1⟩, h2, h3⟩
end
def aiF : ahB where
 read := 141
 write := 76
 flush := 72
 fail := 9
 sure := 12
 devices := 41
 fG := 81
 co := 137
theorem Dev.aiG {D : Dev} {w : World} {p : Nat} {v : Value} {Fs : Nat -> Nat -> Prop} {ps : List Nat} {M : aV} (h : bQ (ct D) w p v Fs ps M) : M.Wf :=
 ⟨h.one, h.cap, fun i hi => ⟨(D.fit (h.devs.at_ i hi)).2, D.cap (h.devs.at_ i hi)⟩⟩
def ai9 (D : Dev) : Ben aiF where
 Bn := InB (ct D)
 lt := InB.lt
 only := InB.only
 wf := fun ⟨_, _, _, _, h⟩ => D.aiG h
 read := fun d n ⟨_, _, _, _, h⟩ => ahx d n h
 sure := fun d n ⟨_, _, _, _, h⟩ => agf d n h
 write := fun d n b hr ⟨_, _, _, e, h⟩ => by
  subst e;exact (aey d n b h (fun i hi => hr.at_ hi) (by have := hr.1; omega) hr.2.1).mono fun e w' ⟨h1, h2⟩ => ⟨h1, h2.out⟩
 flush := fun d hr ⟨_, _, _, e, h⟩ => by
  subst e;exact (ae9 d h (by have := hr.1; omega) hr.2.1).mono fun e w' ⟨h1, h2⟩ => ⟨h1, h2.out⟩
 fail := fun d ⟨_, _, _, e, h⟩ => by
  subst e;exact (agp d h).mono fun e w' ⟨h1, h2⟩ => ⟨h1, h2.out⟩
 devices := fun ⟨_, _, _, _, h⟩ => (qC h).mono fun e w' ⟨h1, h2⟩ => ⟨h1, f8 h2⟩
 fG := fun d ⟨_, _, _, _, h⟩ => zP d h
 co := fun ⟨_, _, _, _, h⟩ => (wI h).mono fun e w' ⟨h1, h2⟩ => ⟨h1, f8 h2⟩
theorem fj.hid {k : ig} {w w' : World} {ks : List Int} {e : Ending} (h : fj k w ks e w') : ahu (InB k) w ks e w' := by
 obtain ⟨h1, h | h⟩ := h
 ·obtain ⟨h0, p, v, Fs, ps, h2, h3, h4⟩ := h;exact ⟨h1, .inl ⟨h0, p, _, h2, ⟨v, Fs, ps, rfl, h3⟩, h4⟩⟩
 ·exact ⟨h1, .inr h⟩
structure aiJ extends Ben aiF where
 new : ∀ {w A n c ks}, RdE bN w w.heap.size A n ks -> n <= c -> c <= maxLen -> Calls prog 14 #[.slice A n c] w (ahu Bn w ks)
def bu : aiJ where
 toBen := ai9 ahD
 new := fun h1 h2 h3 => (aiv h1 h2 h3).mono fun _ _ h => h.hid
section
variable {ρ : Operand -> Value} {o : Oper} {x y : Operand} {w : World} {a : Int}
theorem y6 {t r : TypeId} {b c : Int} (ho : o.op = .binOp .rem t x y r) (hx : ρ x = .int .u8 a) (hy : ρ y = .int .u8 b) (h0 : b ≠ 0) (h : a.tmod b = c) : (execOp ρ o).run prog w = .ok (.value (.int .u8 c)) w := by
 unfold execOp;simp [ho, hx, hy, eqGuard, binOp, Op.intDiv, h, h0]
theorem aeM (h : IntKind.i64.wrap a = a) : (convert 5 3 (.int .u8 a)).run prog w = .ok (.int .i64 a) w := by
 simp [convert, go_sem, h]
theorem aca (ho : o.op = .convert 5 3 x) (hx : ρ x = .int .u8 a) (h : IntKind.i64.wrap a = a) : (execOp ρ o).run prog w = .ok (.value (.int .i64 a)) w := by
 unfold execOp;simp only [ho, hx, Sem.run_bind, aeM h, Result.andThen_ok, Sem.run_pure]
end
theorem eW {a : Int} (h : -9223372036854775808 <= a /\ a <= 9223372036854775807) : IntKind.i64.wrap a = a := IntWalk.i64_in _ ⟨by omega, by omega⟩
def ajt : Elt (Int × Blk) := acd 141 261 underlying141 (by kernel_rfl)
structure vx (w : World) (p : Nat) (vS vL : Value) (S : List Blk) (L : List (Int × Blk)) (g : Bool) : Prop where
 at_ : w.heap[p]? = some (.cells #[vS, vL, .bool g] 143)
 S_ : aO oD w 0 vS S
 L_ : aO ajt w 0 vL L
section
variable {w w' : World} {p : Nat} {vS vL : Value} {S : List Blk} {L : List (Int × Blk)} {g : Bool} {F : Nat -> Prop}
theorem vx.lt (h : vx w p vS vL S L g) : ∀ k, foot p vS vL k -> k < w.heap.size := by
 intro k hk;rcases hk with rfl | hk | hk
 ·exact (Array.getElem?_eq_some_iff.1 h.at_).1
 ·exact h.S_.jM k hk
 ·exact h.L_.jM k hk
theorem vx.only (h : vx w p vS vL S L g) (k : Only F w w') (hn : ∀ b, foot p vS vL b -> ¬ F b) : vx w' p vS vL S L g :=
 ⟨k.keep h.at_ (hn p (.inl rfl)), h.S_.only k fun b hb => hn b (.inr (.inl hb)), h.L_.only k fun b hb => hn b (.inr (.inr hb))⟩
end
theorem adf (k : Nat) (w : World) (h1 : 1 <= k) (h2 : k <= 512) :
  Calls prog 39 #[.int .i64 k] w fun e w' => ∃ p vS, e = .returned (.tuple #[.pointer (some ⟨p, 0, none⟩), .int .i64 0]) /\ vx w' p vS (.slice none 0 0) (List.replicate k aI) [] false /\ Below w.heap.size w w' /\ ∀ b, foot p vS (.slice none 0 0) b -> w.heap.size <= b := by
 go_enter func39, ntmps39;have HM := ae (heap_alloc_new w (.cells (madeCells (cel aI).toArray (k * 64)) 44));have HB := ae ((Below.refl w.heap.size w).alloc aj (.cells (madeCells (cel aI).toArray (k * 64)) 44));have HSZ := ae (World.size_alloc w (.cells (madeCells (cel aI).toArray (k * 64)) 44));go_wp2_with (first | (refine ay rfl (qn (n := k) rfl rfl rfl (by omega)) ?_));generalize w.alloc (.cells (madeCells (cel aI).toArray (k * 64)) 44) = w1 at *;go_ret2;have hS : aO oD w1 0 (.slice (some ⟨w.heap.size, 0, none⟩) k k) (List.replicate k aI) := aO.of_block (E := oD) HM (by rw [<- pP]; rfl) (Nat.zero_le _) (by simp) (by unfold maxLen; omega);have hnw := heap_alloc_new w1 (.cells #[.slice (some ⟨w.heap.size, 0, none⟩) k k, .slice none 0 0, .bool false] 143);rw [HSZ.out] at hnw;refine ⟨w.heap.size + 1, _, rfl, ⟨hnw, hS.below (ak.alloc aj _), aO.nil _ _⟩, HB.out.alloc HB.out.size _, fun b hb => ?_⟩;rcases hb with rfl | hb | hb
 ·omega
 ·simp [Value.ownBlock] at hb; omega
 ·simp [Value.ownBlock] at hb
theorem abq (n : Int) (w : World) (h : ¬(1 <= n /\ n <= 512)) :
  Calls prog 39 #[.int .i64 n] w fun e w' => e = .returned (.tuple #[.pointer none, .int .i64 2]) /\ w = w' := by
 have hor : n < 1 \/ (1 <= n /\ 512 < n) := by omega
 clear h;rcases hor with h | ⟨h, h'⟩
 all_goals
  go_enter func39, ntmps39;go_wp2;go_ret2;exact ⟨rfl, rfl⟩
end Go.Proofs.YtlmdklakcmnaiaaGreatDoor
