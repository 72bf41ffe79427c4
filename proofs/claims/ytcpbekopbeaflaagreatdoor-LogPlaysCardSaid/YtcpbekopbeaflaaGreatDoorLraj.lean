import Derived.Test.YtcpbekopbeaflaaGreatDoorLraf
import Derived.Laws.CopyRow
import Derived.RangeFuncNested
import Derived.RangeFuncBound
import Derived.RangeFuncCalls
import Derived.RangeFuncLeaves
import Derived.Shelf.Abstract
import Derived.Shelf.RegionOpen
import Derived.OwnWalkIn
import Derived.TacticsInMore
import Derived.LoopNIn
import Derived.LoopIn
namespace Go.Proofs.YtcpbekopbeaflaaGreatDoor
set_option maxHeartbeats 8000000
open Go.Proofs.Tryz
open Go.RowKit
set_option linter.unusedVariables false
set_option maxRecDepth 100000
def LwE : Elt (Int × Blk) := um 136 152 underlying136 (by kernel_rfl)
theorem dQ {w : World} {b : Nat} {t : TypeId} {x y z u : Value} (h : w.heap[b]? = some (.cells #[x, y, z, u] t (0, 0))) : w.cell? ⟨b, 0, none⟩ = some x /\ w.cell? ⟨b, 1, none⟩ = some y /\ w.cell? ⟨b, 2, none⟩ = some z /\ w.cell? ⟨b, 3, none⟩ = some u := by
 refine ⟨?_, ?_, ?_, ?_⟩
 ·rw [cell_of_row w b 0 _ t (0, 0) h]; rfl
 ·rw [cell_of_row w b 1 _ t (0, 0) h]; rfl
 ·rw [cell_of_row w b 2 _ t (0, 0) h]; rfl
 ·rw [cell_of_row w b 3 _ t (0, 0) h]; rfl
structure PD (w : World) (p : Nat) (vS vL : Value) (S : List Blk) (L : List (Int × Blk)) (g : Bool) : Prop where
 at_ : w.heap[p]? = some (.cells #[.int .i64 (S.length : Int), vS, vL, .bool g] 138)
 one : 1 <= S.length
 S_ : aO kV w 0 vS (if g = true then [] else S)
 L_ : aO LwE w 0 vL L
 dead : g = true -> L = []
section
variable {w w' : World} {p : Nat} {vS vL : Value} {S : List Blk} {L : List (Int × Blk)} {g : Bool} {F : Nat -> Prop}
theorem PD.lt (h : PD w p vS vL S L g) : ∀ k, foot p vS vL k -> k < w.heap.size := by
 intro k hk;rcases hk with rfl | hk | hk
 ·exact (Array.getElem?_eq_some_iff.1 h.at_).1
 ·exact h.S_.ie k hk
 ·exact h.L_.ie k hk
theorem PD.only (h : PD w p vS vL S L g) (k : Only F w w') (hn : ∀ b, foot p vS vL b -> ¬ F b) : PD w' p vS vL S L g :=
 ⟨k.keep h.at_ (hn p (.inl rfl)), h.one, h.S_.only k fun b hb => hn b (.inr (.inl hb)), h.L_.only k fun b hb => hn b (.inr (.inr hb)), h.dead⟩
theorem PD.below (h : PD w p vS vL S L g) (k : Below w.heap.size w w') : PD w' p vS vL S L g := h.only (Only.of_below (fun _ => False) k) fun _ _ e => e
theorem PD.alive (h : PD w p vS vL S L false) : aO kV w 0 vS S := h.S_
end
theorem gt (p : Nat) (vS vL : Value) (S : List Blk) (L : List (Int × Blk)) (g : Bool) (w : World) (h : PD w p vS vL S L g) :
  Calls prog 129 #[.pointer (some ⟨p, 0, none⟩)] w fun e w' => e = .returned (.bool true) /\ w = w' := by
 obtain ⟨c0, c1, c2, c3⟩ := dQ h.at_;have h1 : 0 < S.length := h.one;go_enter func129, ntmps129;go_wp2;go_ret;exact ⟨rfl, rfl⟩
theorem pp (p : Nat) (vS vL : Value) (S : List Blk) (L : List (Int × Blk)) (g : Bool) (n : Int) (w : World) (h : PD w p vS vL S L g) :
  Calls prog 131 #[.pointer (some ⟨p, 0, none⟩), .int .i64 n] w fun e w' => e = .returned (.bool (decide (0 <= n /\ n < S.length))) /\ w = w' := by
 obtain ⟨c0, c1, c2, c3⟩ := dQ h.at_;by_cases h0 : 0 <= n
 ·by_cases h1 : n < S.length
  ·have HD := af (ao (p := 0 <= n /\ n < S.length) ⟨h0, h1⟩);go_enter func131, ntmps131;go_wp2;go_ret;exact ⟨bL HD.out.symm, rfl⟩
  ·have HD := af (am (p := 0 <= n /\ n < S.length) (fun e => h1 e.2));go_enter func131, ntmps131;go_wp2;go_ret;exact ⟨bL (am (by omega)).symm, rfl⟩
 ·have HD := af (am (p := 0 <= n /\ n < S.length) (fun e => h0 e.1));go_enter func131, ntmps131;go_wp2;go_ret;exact ⟨bL (by have e : decide (0 <= n) = false := am (by omega); rw [e]; rfl), rfl⟩
theorem gr (p : Nat) (vS vL : Value) (S : List Blk) (L : List (Int × Blk)) (g : Bool) (n : Int) (w : World) (h : PD w p vS vL S L g) :
  Calls prog 134 #[.pointer (some ⟨p, 0, none⟩), .int .i64 n] w fun e w' => e = .returned (.int .i64 (dm S g n)) /\ w = w' := by
 obtain ⟨c0, c1, c2, c3⟩ := dQ h.at_;by_cases h1 : 0 <= n /\ n < S.length
 ·have HD := af (ao h1);cases g
  ·have HE := af (lz h1);clear h1;go_enter func134, ntmps134;go_wp2_with fail;refine (gt p vS vL S L false w h).mono ?_;rintro e w1 ⟨rfl, rfl⟩;go_wp2_with fail;refine (pp p vS vL S L false n w h).mono ?_;rintro e w1 ⟨rfl, rfl⟩;rw [HD.out];go_wp2_with fail;go_ret;exact ⟨br HE.out.symm, rfl⟩
  ·have HE := af (rU h1);clear h1;go_enter func134, ntmps134;go_wp2_with fail;refine (gt p vS vL S L true w h).mono ?_;rintro e w1 ⟨rfl, rfl⟩;go_wp2_with fail;refine (pp p vS vL S L true n w h).mono ?_;rintro e w1 ⟨rfl, rfl⟩;rw [HD.out];go_wp2_with fail;go_ret;exact ⟨br HE.out.symm, rfl⟩
 ·have HD := af (am h1);have HE := af (qF g h1);clear h1;go_enter func134, ntmps134;go_wp2_with fail;refine (gt p vS vL S L g w h).mono ?_;rintro e w1 ⟨rfl, rfl⟩;go_wp2_with fail;refine (pp p vS vL S L g n w h).mono ?_;rintro e w1 ⟨rfl, rfl⟩;rw [HD.out];go_wp2_with fail;go_ret;exact ⟨br HE.out.symm, rfl⟩
theorem zx (p : Nat) (vS vL : Value) (S : List Blk) (L : List (Int × Blk)) (g : Bool) (w : World) (h : PD w p vS vL S L g) :
  Calls prog 80 #[.pointer (some ⟨p, 0, none⟩)] w fun e w' => e = .returned (.int .i64 (S.length : Int)) /\ w = w' := by
 obtain ⟨c0, c1, c2, c3⟩ := dQ h.at_;go_enter func80, ntmps80;go_wp2_with fail;refine (gt p vS vL S L g w h).mono ?_;rintro e w1 ⟨rfl, rfl⟩;go_wp2_with fail;go_ret;exact ⟨rfl, rfl⟩
theorem ahu (p : Nat) (vS vL : Value) (S : List Blk) (L : List (Int × Blk)) (g : Bool) (w : World) (h : PD w p vS vL S L g) :
  Calls prog 79 #[.pointer (some ⟨p, 0, none⟩)] w fun e w' => e = .returned (.bool g) /\ w = w' := by
 obtain ⟨c0, c1, c2, c3⟩ := dQ h.at_;go_enter func79, ntmps79;go_wp2_with fail;refine (gt p vS vL S L g w h).mono ?_;rintro e w1 ⟨rfl, rfl⟩;go_wp2_with fail;go_ret;exact ⟨rfl, rfl⟩
theorem ahJ (p : Nat) (vS vL : Value) (S : List Blk) (L : List (Int × Blk)) (g : Bool) (n : Int) (w : World) (h : PD w p vS vL S L g) :
  Calls prog 86 #[.pointer (some ⟨p, 0, none⟩), .int .i64 n] w fun e w' => e = .returned (.tuple #[blk (gp S g n), .int .i64 (dm S g n)]) /\ Below w.heap.size w w' := by
 have hA := (Below.refl w.heap.size w).alloc aj (.cells (cel aE).toArray 64);have h1 := h.below hA;have HT := af (dj w aE 64);have HA := af hA;clear hA;rcases ft (S := S) (g := g) (n := n) with he | he | ⟨he, rfl, k, rfl, hk⟩
 ·have HS := af (mA (S := S) (g := g) (n := n) (by omega));have HE := af he;clear he;go_enter func86, ntmps86;go_wp2_with (first | (refine ax rfl (aV rfl) ?_) | fail);refine (gr p vS vL S L g n _ h1).mono ?_;rintro e w1 ⟨rfl, rfl⟩;rw [HE.out];go_wp2_with (first | (refine ax rfl (ca (c := aE) (parts := []) rfl rfl) ?_) | (refine aW rfl (aX rfl rfl rfl HT.out) ?_));refine bodyPost_ret (b9 rfl _ _ _ rfl (World.rangeAt_setCells_same _ _ _ _ (by rw [aG]; exact HT))) rfl ⟨by rw [HS.out, HE.out]; rfl, below_setCells HA aj _⟩
 ·have HS := af (mA (S := S) (g := g) (n := n) (by omega));have HE := af he;clear he;go_enter func86, ntmps86;go_wp2_with (first | (refine ax rfl (aV rfl) ?_) | fail);refine (gr p vS vL S L g n _ h1).mono ?_;rintro e w1 ⟨rfl, rfl⟩;rw [HE.out];go_wp2_with (first | (refine ax rfl (ca (c := aE) (parts := []) rfl rfl) ?_) | (refine aW rfl (aX rfl rfl rfl HT.out) ?_));refine bodyPost_ret (b9 rfl _ _ _ rfl (World.rangeAt_setCells_same _ _ _ _ (by rw [aG]; exact HT))) rfl ⟨by rw [HS.out, HE.out]; rfl, below_setCells HA aj _⟩
 ·have HS := af (vi he);have HE := af he;clear he;obtain ⟨A, c, rfl, hrd, hc1, hc2⟩ := h1.alive.open_ rfl;obtain ⟨b, off, rfl, hb, hr⟩ := hrd.blk hk;obtain ⟨c0, c1, c2, c3⟩ := dQ h1.at_;generalize S.getD k aE = x at *;have HR := af hr;clear hr hrd;go_enter func86, ntmps86;go_wp2_with (first | (refine ax rfl (aV rfl) ?_) | fail);refine (gr p _ vL S L false k _ h1).mono ?_;rintro e w1 ⟨rfl, rfl⟩;rw [HE.out];go_wp2_with (first | (refine ax rfl (aU rfl rfl HR.out) ?_) | (refine aW rfl (aX rfl rfl rfl HT.out) ?_));refine bodyPost_ret (b9 rfl _ _ _ rfl (World.rangeAt_setCells_same _ _ _ _ (by rw [aG]; exact HT))) rfl ⟨by rw [HS.out, HE.out]; rfl, below_setCells HA aj _⟩
section
variable {w w' : World} {p : Nat} {vS vL : Value} {S : List Blk} {L : List (Int × Blk)} {g : Bool}
theorem x9 (hp : w.heap[p]? = some (.cells #[.int .i64 (S.length : Int), vS, vL, .bool g] 138)) (h1 : 1 <= S.length) (hS : aO kV w 0 vS (if g = true then [] else S)) {vL' : Value} {L' : List (Int × Blk)} (h' : aO LwE w 0 vL' L') (hd : g = true -> L' = []) : PD (w.setCell ⟨p, 2, none⟩ vL') p vS vL' S L' g := by
 have hO := dt w p 2 vL';refine ⟨?_, h1, hS.only hO fun b hb e => hS.dl hp (by decide) (by rw [hb, e]), h'.only hO fun b hb e => h'.dl hp (by decide) (by rw [hb, e]), hd⟩;have := heap_setCell_same w p 2 _ _ vL' hp
 simpa using this
theorem PD.sO (h : PD w p vS vL S L g) {vL' : Value} {L' : List (Int × Blk)} (h' : aO LwE w 0 vL' L') (hd : g = true -> L' = []) : PD (w.setCell ⟨p, 2, none⟩ vL') p vS vL' S L' g := x9 h.at_ h.one h.S_ h' hd
theorem aeQ {b : Nat} : (Instr.fieldAt 138 (.pointer (some ⟨b, 0, none⟩)) 1).run prog w = .ok (.pointer (some ⟨b, 1, none⟩)) w := by kernel_rfl
theorem agD {b : Nat} : (Instr.fieldAt 138 (.pointer (some ⟨b, 0, none⟩)) 2).run prog w = .ok (.pointer (some ⟨b, 2, none⟩)) w := by kernel_rfl
theorem afR {b off : Nat} : (Instr.fieldAt 152 (.pointer (some ⟨b, off, none⟩)) 0).run prog w = .ok (.pointer (some ⟨b, off, none⟩)) w := by kernel_rfl
theorem ae9 {b off : Nat} : (Instr.fieldAt 152 (.pointer (some ⟨b, off, none⟩)) 1).run prog w = .ok (.pointer (some ⟨b, off + 1, none⟩)) w := by kernel_rfl
theorem ldP {a : Addr} {A : Option Addr} {n c : Nat} (h : w.cell? a = some (.slice A n c)) : (Instr.loadAt 136 (.pointer (some a))).run prog w = .ok (.slice A n c) w := by simp [go_sem, h]
theorem stP {a : Addr} {v : Value} {A : Option Addr} {n c : Nat} (h : w.cell? a = some v) (hf : w.frozen? a = false) : (Instr.storeAt 136 (.pointer (some a)) (.slice A n c)).run prog w = .ok () (w.setCell a (.slice A n c)) := by simp [go_sem, h, hf]
theorem xk (k : Int) (b : Blk) : (Instr.build 152 #[(0, .int .i64 k), (1, blk b)]).run prog w = .ok (jo k b) w := by
 have hz := jH LwE w;have h1 := iS (place := fun i => (#[(0, 1), (1, 64)] : Array (Nat × Nat))[i]?) (i := 0) (off := 0) (size := 1) (v := .int .i64 k) (pre := []) (mid := [.int .i64 0]) (post := cel aE) (vs := [.int .i64 k]) (rest := [(1, blk b)]) rfl rfl rfl rfl rfl;have h2 := iS (place := fun i => (#[(0, 1), (1, 64)] : Array (Nat × Nat))[i]?) (i := 1) (off := 1) (size := 64) (v := blk b) (pre := [.int .i64 k]) (mid := cel aE) (post := []) (vs := cel b) (rest := []) rfl rfl (aG b) rfl (aG aE);simp only [List.nil_append, List.append_nil, List.singleton_append] at h1 h2;have h3 := h1.trans h2;have hz' : (zeroValue 152).run prog w = .ok (jo 0 aE) w := hz;have hc : (jo 0 aE).cells = (.int .i64 0 :: cel aE).toArray := rfl;simp only [Instr.build, Sem.run_bind, hz', run_underlying underlying152, Result.andThen_ok, hc];refine Eq.trans (congrArg (fun r => Result.andThen r _) (?h : _ = Result.ok #[(0, 1), (1, 64)] w)) ?_
 case h => kernel_rfl
 simp only [Result.andThen_ok];have h4 : Instr.fill (fun i => (#[(0, 1), (1, 64)] : Array (Nat × Nat))[i]?) (.int .i64 k :: cel b).toArray [] = some (.int .i64 k :: cel b).toArray := by rw [Instr.fill]
 rw [h3.trans h4]
 rfl
theorem us {ρ : Operand -> Value} {o : Oper} {x y : Operand} {k : Int} {b : Blk} (ho : o.op = .build 152 #[(0, x), (1, y)]) (hx : ρ x = .int .i64 k) (hy : ρ y = blk b) : (execOp ρ o).run prog w = .ok (.value (jo k b)) w := by
 have h := xk (w := w) k b;unfold execOp;simp only [ho, List.map_toArray, List.map_cons, List.map_nil, hx, hy, Sem.run_bind, h, Result.andThen_ok, Sem.run_pure]
theorem tY (k : Int) (b : Blk) : (jo k b).cells = (LwE.cel (k, b)).toArray := rfl
end
theorem ahV (p : Nat) (vS vL : Value) (S : List Blk) (L : List (Int × Blk)) (g : Bool) (w : World) (h : PD w p vS vL S L g) :
  Calls prog 76 #[.pointer (some ⟨p, 0, none⟩)] w fun e w' => e = .returned (.int .i64 0) /\ PD w' p (.slice none 0 0) (.slice none 0 0) S [] true /\ Only (foot p vS vL) w w' := by
 obtain ⟨c0, c1, c2, c3⟩ := dQ h.at_;have f0 := frozen_of_row w p 0 _ _ h.at_;have f1 := frozen_of_row w p 1 _ _ h.at_;have f2 := frozen_of_row w p 2 _ _ h.at_;have f3 := frozen_of_row w p 3 _ _ h.at_;have H := af h;clear h;go_enter func76, ntmps76;go_wp2_with fail;refine (gt p vS vL S L g w H).mono ?_;rintro e w1 ⟨rfl, rfl⟩;go_wp2_with fail;go_ret;refine ⟨rfl, ⟨?_, H.out.one, aO.nil _ _, aO.nil _ _, fun _ => rfl⟩, ?_⟩
 ·have h0 := H.out.at_;have h1 := heap_setCell_same w p 0 _ _ (.int .i64 (S.length : Int)) h0;have h2 := heap_setCell_same _ p 1 _ _ (.slice none 0 0) h1;have h3 := heap_setCell_same _ p 2 _ _ (.slice none 0 0) h2;have h4 := heap_setCell_same _ p 3 _ _ (.bool true) h3
  simpa using h4
 ·have hO : Only (fun b => b = p) w w := Only.refl _ _;exact ((((hO.setCell (p := ⟨p, 0, none⟩) (.inl rfl) _).setCell (p := ⟨p, 1, none⟩) (.inl rfl) _).setCell (p := ⟨p, 2, none⟩) (.inl rfl) _).setCell (p := ⟨p, 3, none⟩) (.inl rfl) _).widen fun b hb => .inl hb
theorem wG (p : Nat) (vS vL : Value) (S : List Blk) (L : List (Int × Blk)) (g : Bool) (n : Int) (b : Blk) (w : World) (h : PD w p vS vL S L g) (he0 : dm S g n ≠ 0) :
  Calls prog 170 #[.pointer (some ⟨p, 0, none⟩), .int .i64 n, blk b] w fun e w' => e = .returned (.int .i64 (dm S g n)) /\ Below w.heap.size w w' := by
 have hA := (Below.refl w.heap.size w).alloc aj (.cells (cel b).toArray 64);have h1 := h.below hA;have HA := af hA;clear hA;have H0 := af he0;rcases ft (S := S) (g := g) (n := n) with he | he | ⟨he, _⟩
 rotate_right 1
 ·exact absurd he he0
 all_goals
  have HE := af he;clear he he0;go_enter func170, ntmps170;go_wp2_with (first | (refine ax rfl (bW rfl rfl) ?_) | fail);refine (gr p vS vL S L g n _ h1).mono ?_;rintro e w1 ⟨rfl, rfl⟩;rw [HE.out];go_wp2_with fail;go_ret;exact ⟨br HE.out.symm, HA⟩
theorem wW (p k : Nat) (vS vL : Value) (S : List Blk) (L : List (Int × Blk)) (b : Blk) (w : World) (h : PD w p vS vL S L false) (hk : k < S.length) (hL : L.length < 1000000) :
  Calls prog 170 #[.pointer (some ⟨p, 0, none⟩), .int .i64 k, blk b] w fun e w' => e = .returned (.int .i64 0) /\ ∃ vL', PD w' p vS vL' S (L ++ [((k : Int), b)]) false /\ Only (foot p vS vL) w w' /\ (∀ x, vL'.ownBlock = some x -> vL.ownBlock = some x \/ w.heap.size <= x) := by
 have hA := (Below.refl w.heap.size w).alloc aj (.cells (cel b).toArray 64);have h1 := h.below hA;have HA := af hA;have HE := af (lz (S := S) (n := (k : Int)) (by omega));have HB := af (ox w (cel b).toArray 64);clear hA;obtain ⟨AL, cL, rfl, hl1, hl2⟩ := h1.L_.form;go_enter func170, ntmps170;go_wp2_with (first | (refine ax rfl (bW rfl rfl) ?_) | fail);refine (gr p vS _ S L false k _ h1).mono ?_;rintro e w1 ⟨rfl, rfl⟩;rw [HE.out];go_wp2_with fail;generalize hy : w.heap.size = y at *;generalize w.alloc (.cells (cel b).toArray 64) = w1 at *;refine bk (fun w' => w'.heap[p]? = some (.cells #[.int .i64 (S.length : Int), vS, .slice AL L.length cL, .bool false] 138) /\ w'.heap[y]? = some (.cells (cel b).toArray 64)) 12 (by kernel_rfl) ?_;change cu _ _ _ _ _ _ 13 _ _ w1.drew;have hS : w1.drew.heap[p]? = some (.cells #[.int .i64 (S.length : Int), vS, .slice AL L.length cL, .bool false] 138) /\ w1.drew.heap[y]? = some (.cells (cel b).toArray 64) := ⟨h1.at_, HB⟩;refine ak5 0 rfl (fun _ hw => aB rfl alb) hS ?_;refine ak5 1 rfl (fun _ hw => aB rfl alb) hS ?_;refine ak5 2 rfl (fun _ hw => aM rfl alb) hS ?_;refine ak5 3 rfl (fun _ hw => av rfl alb agD) hS ?_;refine ak5 4 rfl (fun _ hw => aA rfl alb (ldP (dQ hw.1).2.2.1)) hS ?_;refine ak5 5 rfl (fun _ hw => aB rfl alb) hS ?_;refine ak5 6 rfl (fun _ hw => aU rfl alb (jT hw.2)) hS ?_;refine ak5 7 rfl (fun _ hw => us rfl alb alb) hS ?_;have hr : PD w1.drew p vS (.slice AL L.length cL) S L false := ⟨h1.at_, h1.one, h1.S_, h1.L_, h1.dead⟩;have hS2 : PD (w1.drew.alloc (.cells (LwE.cel ((k : Int), b)).toArray LwE.t)) p vS (.slice AL L.length cL) S L false := hr.below (ak.alloc aj _);have hb2 := cE hS.2 (.cells (LwE.cel ((k : Int), b)).toArray LwE.t);have hnew : RdE LwE _ _ _ 1 _ := fp (E := LwE) (l := [((k : Int), b)]) w1.drew (LwE.cel ((k : Int), b)).toArray LwE.t (by rw [eH]; simp [bY]);obtain ⟨v3, w3, hrun, hm3, hg3, ho3⟩ := fq LwE _ 136 0 _ 1 1 _ _ _ _ hS2.L_ hnew (Nat.zero_le _) (by omega);have hO2 : Only (foot p vS (.slice AL L.length cL)) w (w1.drew.alloc (.cells (LwE.cel ((k : Int), b)).toArray LwE.t)) := (Only.of_below _ (hy ▸ HA.out)).drew.alloc _;have hO3 := hO2.grown hg3 (fun x hx => .inl (.inr (.inr hx)));have hp3 : w3.heap[p]? = some (.cells #[.int .i64 (S.length : Int), vS, .slice AL L.length cL, .bool false] 138) := (hg3.block p (aR hS2.at_) (fun e => hS2.L_.dl hS2.at_ (by decide) e.symm)).trans hS2.at_;have hy3 : w3.heap[y]? = some (.cells (cel b).toArray 64) := (hg3.block y (aR hb2) (fun e => hS2.L_.dl hb2 (by decide) e.symm)).trans hb2;have hSS3 := hS2.S_.kept hg3 (hS2.S_.other hS2.L_ (by decide));refine bh 8 rfl (by kernel_rfl) rfl (dZ (E := LwE) (a := ((k : Int), b)) rfl alb (tY _ _) (by decide)) (fun _ => ⟨hS2.at_, hb2⟩) ?_;simp only [aa];refine bh 9 rfl (by kernel_rfl) rfl (gC (E := LwE) rfl alb alb hrun) (fun _ => ⟨hp3, hy3⟩) ?_;simp only [aa];refine bh 10 rfl (by kernel_rfl) rfl (aM rfl alb) (fun _ => ⟨hp3, hy3⟩) ?_;simp only [aa];refine bh 11 rfl (by kernel_rfl) rfl (av rfl alb agD) (fun _ => ⟨hp3, hy3⟩) ?_;simp only [aa];obtain ⟨A3, c3, rfl, _, _⟩ := hm3.form;refine fd 12 rfl (by kernel_rfl) rfl (dU rfl (ev rfl) (ev rfl) (stP (dQ hp3).2.2.1 (frozen_of_row _ _ _ _ _ hp3))) (fun e => absurd rfl e) ?_;simp only [Act.put];refine bK (by kernel_rfl) ?_ _;go_wp2_with fail;go_ret;refine ⟨rfl, _, x9 hp3 h1.one hSS3 hm3 (fun e => absurd e (by decide)), hO3.setCell (.inl (.inl rfl)) _, fun x hx => ?_⟩;rcases ho3 x hx with e | e
 ·exact .inl e
 ·refine .inr (ap ?_ e);have := hO2.size;omega
theorem afX (p : Nat) (vS vL : Value) (S : List Blk) (L : List (Int × Blk)) (g : Bool) (n : Int) (b : Blk) (w : World) (h : PD w p vS vL S L g) (hL : L.length < 1000000) :
  Calls prog 170 #[.pointer (some ⟨p, 0, none⟩), .int .i64 n, blk b] w fun e w' => e = .returned (.int .i64 (dm S g n)) /\ ∃ vL', PD w' p vS vL' S (wrL S L g n b) g /\ Only (foot p vS vL) w w' /\ (∀ x, vL'.ownBlock = some x -> vL.ownBlock = some x \/ w.heap.size <= x) := by
 by_cases he : dm S g n = 0
 ·rcases ft (S := S) (g := g) (n := n) with h1 | h1 | ⟨_, rfl, k, rfl, hk⟩
  ·omega
  ·omega
  ·have e : wrL S L false k b = L ++ [((k : Int), b)] := by unfold wrL; rw [if_pos he]
   rw [e, he];exact wW p k vS vL S L b w h hk hL
 ·have e : wrL S L g n b = L := by unfold wrL; rw [if_neg he]
  rw [e];exact (wG p vS vL S L g n b w h he).mono fun e w' ⟨h1, h2⟩ => ⟨h1, vL, h.below h2, Only.of_below _ h2, fun x hx => .inl hx⟩
theorem akA : ∃ d, prog.underlying LwE.t = some d /\ d.isRow = true := ⟨_, underlying152, rfl⟩
section
variable {ρ : Operand -> Value} {o : Oper} {x y : Operand} {w : World} {b off : Nat} {a : Int × Blk}
theorem lT (ho : o.op = .load LwE.t x) (hx : ρ x = .pointer (some ⟨b, off, none⟩)) (hc : w.rangeAt b off (eP a)) : (execOp ρ o).run prog w = .ok (.value (.agg (eP a).toArray)) w := by
 obtain ⟨d, h1, h2⟩ := akA;exact wU (E := LwE) h1 h2 ho hx hc
theorem kN (ho : o.op = .alloc LwE.t) : (execOp ρ o).run prog w = .ok (.value (.pointer (some ⟨w.heap.size, 0, none⟩))) (w.alloc (.cells LwE.z.cells LwE.t)) := tX (E := LwE) ho
theorem mc (ho : o.op = .store LwE.t x y) (hx : ρ x = .pointer (some ⟨w.heap.size, 0, none⟩)) (hy : ρ y = .agg (eP a).toArray) : (execOp ρ o).run prog (w.alloc (.cells LwE.z.cells LwE.t)) = .ok .skip (w.alloc (.cells (eP a).toArray LwE.t)) := xd (E := LwE) ho hx hy
end
section
variable {w w' : World} {p gg n c k : Nat} {vL : Value} {S : List Blk} {L : List (Int × Blk)}
theorem PD.ab4 (h : PD w p (.slice (some ⟨gg, 0, none⟩) n c) vL S L false) (hk : k < n) (x : Blk) : PD (w.setCells gg (k * 64) (cel x)) p (.slice (some ⟨gg, 0, none⟩) n c) vL (S.set k x) L false := by
 have hO : Only (fun b => b = gg) w (w.setCells gg (k * 64) (cel x)) := (Only.refl (fun b => b = gg) w).setCells (.inl rfl) _ _;refine ⟨?_, by rw [List.length_set]; exact h.one, h.alive.store hk x, h.L_.only hO fun b hb e => ?_, fun e => absurd e (by decide)⟩
 ·rw [List.length_set];exact hO.keep h.at_ (fun e => h.S_.dl h.at_ (by decide) (by rw [e]; rfl))
 ·rcases h.L_.other h.S_ (by decide) with e' | e'
  ·rw [e'] at hb; cases hb
  ·exact e' (by rw [hb, e]; rfl)
end
theorem sw (p : Nat) (vS vL : Value) (S : List Blk) (L : List (Int × Blk)) (w : World) (h : PD w p vS vL S L true) :
  Calls prog 165 #[.pointer (some ⟨p, 0, none⟩)] w fun e w' => e = .returned (.int .i64 9) /\ w = w' := by
 obtain ⟨c0, c1, c2, c3⟩ := dQ h.at_;go_enter func165, ntmps165;go_wp2_with fail;refine (gt p vS vL S L true w h).mono ?_;rintro e w1 ⟨rfl, rfl⟩;go_wp2_with fail;go_ret;exact ⟨rfl, rfl⟩
theorem wu (p : Nat) (vS vL : Value) (S : List Blk) (L : List (Int × Blk)) (w : World) (h : PD w p vS vL S L false) (hF : Fit S L) :
  Calls prog 165 #[.pointer (some ⟨p, 0, none⟩)] w fun e w' => e = .returned (.int .i64 0) /\ PD w' p vS (.slice none 0 0) (flS S L) [] false /\ Only (foot p vS vL) w w' := by
 obtain ⟨c0, c1, c2, c3⟩ := dQ h.at_;obtain ⟨AL, cL, rfl, hl1, hl2⟩ := h.L_.form;unfold maxLen at hl2;have HH := af h;have HF := af hF;clear h hF;go_enter func165, ntmps165;go_wp2_with fail;refine (gt p vS _ S L false w HH).mono ?_;rintro e w1 ⟨rfl, rfl⟩;go_wp2_with fail;clear c0 c1 c2 c3
 go_loopw [4, 17] (fun v4 i wr => ∃ j : Nat, j <= L.length /\ i = .int .i64 j /\ PD wr p vS (.slice AL L.length cL) (flS S (L.take j)) L false /\ Only (foot p vS (.slice AL L.length cL)) w wr) (fun _ i _ => L.length - (intOf i).toNat)
 case atStart => exact ⟨0, Nat.zero_le _, rfl, HH, Only.refl _ _⟩
 case round =>
  obtain ⟨j, hj, rfl, hr, hon⟩ := hrel;by_cases hlt : j < L.length
  ·obtain ⟨k, hqk, hk⟩ := HF.out.at_ hlt;have hlenS := mJ S (L.take j);obtain ⟨gS, cS, rfl⟩ := hr.alive.slice hlenS (by omega);obtain ⟨bA, oA, hAe, hAl, rA⟩ := hr.L_.rd.pairs hlt;have HS := af (tv (S := S) hlt);rw [hqk] at HS;generalize hq : L.getD j (0, aE) = q at *;obtain ⟨q1, x⟩ := q;obtain rfl : q1 = (k : Int) := hqk;clear hq;have h1 := hr.below (ak.alloc aj (.cells (eP ((k : Int), x)).toArray LwE.t));have HON := af (hon.alloc (.cells (eP ((k : Int), x)).toArray LwE.t));have hnw := ue wr ((k : Int), x) LwE.t;have HRA := af rA;subst hAe;clear rA hr hon;have hLL : (j : Int) < (L.length : Int) := by omega
   go_wp2_with (first | (refine ax rfl (bH (E := LwE) rfl rfl rfl hlt) ?_) | (refine ax rfl (lT rfl rfl HRA.out) ?_) | (refine ax rfl (kN rfl) ?_) | (refine aW rfl (mc rfl rfl rfl) ?_) | fail);generalize hy : wr.heap.size = y at *;generalize wr.alloc (.cells (eP ((k : Int), x)).toArray LwE.t) = w1 at *;obtain ⟨c0, c1, c2, c3⟩ := dQ h1.at_;have HA := af c1;have HN := af hnw;have H1 := af h1;have HKT := af (show w1.there gS (k * 64) 64 from by
    have := H1.out.alive.there hk (j := 0) (m := 64) aj;rw [Nat.add_zero] at this;exact this)
   clear c0 c1 c2 c3 hnw h1 hlenS;refine wp_region_still_tail 9 (by kernel_rfl) (by kernel_rfl) ?_;simp only [ae];refine aJ rfl (aB rfl alb) ?_;simp only [aa];refine aJ rfl (aM rfl alb) ?_;simp only [aa];refine aJ rfl (av rfl alb aeQ) ?_;simp only [aa];refine aJ rfl (aA rfl alb (ldB HA)) ?_;simp only [aa];refine aJ rfl (av rfl alb afR) ?_;simp only [aa];refine aJ rfl (aA rfl alb (ldI HN.out.1)) ?_;simp only [aa];refine aJ rfl (av rfl alb ae9) ?_;simp only [aa];refine aJ rfl (aU rfl alb HN.out.2) ?_;simp only [aa];refine aJ rfl (eY (E := kV) rfl alb alb hk) ?_;simp only [aa];refine wpStill_nil ?_;change wpList _ _ _ _ _ w1.drew;go_wp2_with (first | (refine aW rfl (aX rfl rfl rfl HKT.out) ?_) | fail);go_roundw
   case rel =>
    have hd : PD w1.drew p (.slice (some ⟨gS, 0, none⟩) S.length cS) (.slice (some ⟨bA, oA, none⟩) L.length cL) (flS S (L.take j)) L false := ⟨H1.out.at_, H1.out.one, H1.out.S_, H1.out.L_, H1.out.dead⟩;exact ⟨j + 1, by omega, by go_num, by rw [HS.out]; exact hd.ab4 hk x, HON.out.drew.setCells (.inl (.inr (.inl rfl))) _ _⟩
   case measure => simp [intOf]; omega
  ·have hjn : j = L.length := by omega
   subst hjn;obtain ⟨c0, c1, c2, c3⟩ := dQ hr.at_;have f2 := frozen_of_row wr p 2 _ _ hr.at_;have HRr := af hr;have HON := af hon;clear hr hon;have hLL : ¬((L.length : Int) < (L.length : Int)) := by omega
   go_wp2_with fail;go_ret;have hd := HRr.out.sO (aO.nil _ _) (fun _ => rfl);rw [List.take_length] at hd;exact ⟨rfl, hd, HON.out.setCell (.inl (.inl rfl)) _⟩
section
variable {w : World} {p gg n c k i : Nat} {vL : Value} {S : List Blk} {L : List (Int × Blk)}
theorem PD.r7 (h : PD w p (.slice (some ⟨gg, 0, none⟩) n c) vL S L false) (hk : k < n) (hi : i < 64) (v : UInt8) : PD (w.setCell ⟨gg, k * 64 + i, none⟩ (.int .u8 (v.toNat : Int))) p (.slice (some ⟨gg, 0, none⟩) n c) vL (S.set k ((S.getD k aE).set i v)) L false := by
 have hO : Only (fun b => b = gg) w (w.setCell ⟨gg, k * 64 + i, none⟩ (.int .u8 (v.toNat : Int))) := dt w gg _ _;refine ⟨?_, by rw [List.length_set]; exact h.one, ?_, h.L_.only hO fun b hb e => ?_, fun e => absurd e (by decide)⟩
 ·rw [List.length_set];exact hO.keep h.at_ (fun e => h.S_.dl h.at_ (by decide) (by rw [e]; rfl))
 ·refine h.alive.put hk (j := i) (vs := [.int .u8 (v.toNat : Int)]) ((S.getD k aE).set i v) ?_ (by show i + 1 <= 64; omega)
  show cel ((S.getD k aE).set i v) = (cel (S.getD k aE)).take i ++ [_] ++ (cel (S.getD k aE)).drop (i + 1)
  rw [<- yg _ hi, List.set_eq_take_append_cons_drop, if_pos (by rw [aG]; exact hi)];simp
 ·rcases h.L_.other h.S_ (by decide) with e' | e'
  ·rw [e'] at hb; cases hb
  ·exact e' (by rw [hb, e]; rfl)
end
theorem adH (p k i : Nat) (u : UInt8) (vS vL : Value) (S : List Blk) (L : List (Int × Blk)) (w : World) (h : PD w p vS vL S L false) (hk : k < S.length) (hi : i < 64) :
  Calls prog 74 #[.pointer (some ⟨p, 0, none⟩), .int .i64 k, .int .i64 i, .int .u8 (u.toNat : Int)] w fun e w' => e = .returned (.int .i64 0) /\ PD w' p vS vL (S.set k (tc (S.getD k aE) i u)) L false /\ Only (foot p vS vL) w w' := by
 obtain ⟨c0, c1, c2, c3⟩ := dQ h.at_;obtain ⟨gS, cS, rfl⟩ := h.alive.slice rfl (by omega);obtain ⟨bS, oS, hSe, hSl, rS⟩ := h.alive.rd.blk hk;injection hSe with hSe;injection hSe with e1 e2;subst e1 e2;obtain ⟨y, hy⟩ : ∃ y, S.getD k aE = y := ⟨_, rfl⟩;have HY := af hy;rw [hy] at rS;have hc := rS i _ (fx _ hi);rw [Nat.zero_add, gK _ hi] at hc;have HD := af (ao (p := 0 <= (k : Int) /\ (k : Int) < S.length) (by omega));have hil : (i : Int) < 64 := by omega
 have HT := af (show w.there gS (k * 64 + i) 1 from h.alive.there hk (j := i) (m := 1) (by show i + 1 <= 64; omega));have hf : w.frozen? ⟨gS, k * 64 + i, none⟩ = false := by have := (HT.out 0 (by omega)).2; simpa using this
 have HH := af h;have HA := af c1;have HR : tc (S.getD k aE) i u = y.set i (y[i] ^^^ u) := by rw [hy]; unfold tc; rw [dif_pos hi]
 have HRR := af HR;have HC := af hc;clear HR rS hy h;go_enter func74, ntmps74;go_wp2_with fail;refine (gt p _ vL S L false w HH).mono ?_;rintro e w1 ⟨rfl, rfl⟩;go_wp2_with fail;refine (pp p _ vL S L false k w HH).mono ?_;rintro e w1 ⟨rfl, rfl⟩;rw [HD.out];go_wp2_with fail;refine wp_region_still_tail 13 (by kernel_rfl) (by kernel_rfl) ?_;simp only [ae];refine aJ rfl (aB rfl alb) ?_;simp only [aa];refine aJ rfl (aM rfl alb) ?_;simp only [aa];refine aJ rfl (av rfl alb aeQ) ?_;simp only [aa];refine aJ rfl (aA rfl alb (ldB HA)) ?_;simp only [aa];refine aJ rfl (aB rfl alb) ?_;simp only [aa];refine aJ rfl (aB rfl alb) ?_;simp only [aa];refine aJ rfl (iC rfl alb alb hk) ?_;simp only [aa];refine aJ rfl (dH rfl alb alb (oX hi)) ?_;simp only [aa];refine aJ rfl (aA rfl alb (ldU HC)) ?_;simp only [aa];refine aJ rfl (aB rfl alb) ?_;simp only [aa];refine aJ rfl (ro rfl alb alb) ?_;simp only [aa];refine aJ rfl (iC rfl alb alb hk) ?_;simp only [aa];refine aJ rfl (dH rfl alb alb (oX hi)) ?_;simp only [aa];refine wpStill_nil ?_;change wpList _ _ _ _ _ w.drew;have hcd : w.drew.cell? ⟨gS, k * 64 + i, none⟩ = some (.int .u8 (y[i].toNat : Int)) := HC.out;have hfd : w.drew.frozen? ⟨gS, k * 64 + i, none⟩ = false := hf;go_wp2_with fail;go_ret;refine ⟨rfl, ?_, (Only.refl _ w).drew.setCell (.inl (.inr (.inl rfl))) _⟩;rw [HRR.out];have hset := HH.out.r7 hk hi (y[i] ^^^ u);rw [HY.out] at hset;simp only [UInt8.toNat_xor] at hset;exact ⟨hset.at_, hset.one, hset.S_, hset.L_, hset.dead⟩
theorem acL (p : Nat) (n i : Int) (u : UInt8) (vS vL : Value) (S : List Blk) (L : List (Int × Blk)) (g : Bool) (w : World) (h : PD w p vS vL S L g) (he : fG S g n i ≠ 0) :
  Calls prog 74 #[.pointer (some ⟨p, 0, none⟩), .int .i64 n, .int .i64 i, .int .u8 (u.toNat : Int)] w fun e w' => e = .returned (.int .i64 (fG S g n i)) /\ w = w' := by
 obtain ⟨c0, c1, c2, c3⟩ := dQ h.at_;by_cases hn : 0 <= n /\ n < S.length
 ·have HD := af (ao hn);have hor : i < 0 \/ (0 <= i /\ 64 <= i) \/ (0 <= i /\ i < 64) := by omega
  rcases hor with h1 | ⟨h1, h2⟩ | ⟨h1, h2⟩
  rotate_right 1
  ·cases g
   ·exact absurd (show fG S false n i = 0 by unfold fG; rw [if_pos ⟨hn.1, hn.2, h1, h2⟩]; rfl) he
   ·have HE := af (show fG S true n i = 9 by unfold fG; rw [if_pos ⟨hn.1, hn.2, h1, h2⟩]; rfl);clear he hn;go_enter func74, ntmps74;go_wp2_with fail;refine (gt p vS vL S L true w h).mono ?_;rintro e w1 ⟨rfl, rfl⟩;go_wp2_with fail;refine (pp p vS vL S L true n w h).mono ?_;rintro e w1 ⟨rfl, rfl⟩;rw [HD.out];go_wp2_with fail;go_ret;exact ⟨br HE.out.symm, rfl⟩
  all_goals
   have HE := af (show fG S g n i = 2 by unfold fG; rw [if_neg (by omega)]);clear he hn;go_enter func74, ntmps74;go_wp2_with fail;refine (gt p vS vL S L g w h).mono ?_;rintro e w1 ⟨rfl, rfl⟩;go_wp2_with fail;refine (pp p vS vL S L g n w h).mono ?_;rintro e w1 ⟨rfl, rfl⟩;rw [HD.out];go_wp2_with fail;go_ret;exact ⟨br HE.out.symm, rfl⟩
 ·have HD := af (am hn);have HE := af (show fG S g n i = 2 by unfold fG; rw [if_neg (by omega)]);clear he hn;go_enter func74, ntmps74;go_wp2_with fail;refine (gt p vS vL S L g w h).mono ?_;rintro e w1 ⟨rfl, rfl⟩;go_wp2_with fail;refine (pp p vS vL S L g n w h).mono ?_;rintro e w1 ⟨rfl, rfl⟩;rw [HD.out];go_wp2_with fail;go_ret;exact ⟨br HE.out.symm, rfl⟩
theorem ajJ (p : Nat) (n i : Int) (u : UInt8) (vS vL : Value) (S : List Blk) (L : List (Int × Blk)) (g : Bool) (w : World) (h : PD w p vS vL S L g) :
  Calls prog 74 #[.pointer (some ⟨p, 0, none⟩), .int .i64 n, .int .i64 i, .int .u8 (u.toNat : Int)] w fun e w' => e = .returned (.int .i64 (fG S g n i)) /\ PD w' p vS vL (j6 S g n i u) L g /\ Only (foot p vS vL) w w' := by
 by_cases he : fG S g n i = 0
 ·have hin : 0 <= n /\ n < S.length /\ 0 <= i /\ i < 64 := by
   by_cases h0 : 0 <= n /\ n < S.length /\ 0 <= i /\ i < 64
   ·exact h0
   ·unfold fG at he; rw [if_neg h0] at he; omega
  have hg : g = false := by
   cases g
   ·rfl
   ·unfold fG at he; rw [if_pos hin] at he; simp at he
  subst hg;obtain ⟨k, rfl⟩ := Int.eq_ofNat_of_zero_le hin.1;obtain ⟨j, rfl⟩ := Int.eq_ofNat_of_zero_le hin.2.2.1;have e : j6 S false k j u = S.set k (tc (S.getD k aE) j u) := by unfold j6; rw [if_pos he]; rfl
  rw [e, he];exact adH p k j u vS vL S L w h (by omega) (by omega)
 ·have e : j6 S g n i u = S := by unfold j6; rw [if_neg he]
  rw [e];exact (acL p n i u vS vL S L g w h he).mono fun e w' ⟨h1, h2⟩ => by subst h2; exact ⟨h1, h, Only.refl _ _⟩
theorem ac9 (k : Nat) (w : World) (h1 : 1 <= k) (h2 : k <= 512) :
  Calls prog 43 #[.int .i64 k] w fun e w' => ∃ p vS, e = .returned (.tuple #[.pointer (some ⟨p, 0, none⟩), .int .i64 0]) /\ PD w' p vS (.slice none 0 0) (List.replicate k aE) [] false /\ Below w.heap.size w w' /\ ∀ b, foot p vS (.slice none 0 0) b -> w.heap.size <= b := by
 go_enter func43, ntmps43;have HM := af (heap_alloc_new w (.cells (madeCells (cel aE).toArray (k * 64)) 64));have HB := af ((Below.refl w.heap.size w).alloc aj (.cells (madeCells (cel aE).toArray (k * 64)) 64));have HSZ := af (World.size_alloc w (.cells (madeCells (cel aE).toArray (k * 64)) 64));go_wp2_with (first | (refine ax rfl (nI (n := k) rfl rfl rfl (by omega)) ?_) | fail);generalize w.alloc (.cells (madeCells (cel aE).toArray (k * 64)) 64) = w1 at *;go_ret2;have hS : aO kV w1 0 (.slice (some ⟨w.heap.size, 0, none⟩) k k) (List.replicate k aE) := aO.of_block (E := kV) HM (by rw [<- ma]; rfl) (Nat.zero_le _) (by simp) (by unfold maxLen; omega);have hnw := heap_alloc_new w1 (.cells #[.int .i64 (k : Int), .slice (some ⟨w.heap.size, 0, none⟩) k k, .slice none 0 0, .bool false] 138);rw [HSZ.out] at hnw;refine ⟨w.heap.size + 1, _, rfl, ⟨by rw [List.length_replicate]; exact hnw, by simpa using h1, hS.below (ak.alloc aj _), aO.nil _ _, fun e => absurd e (by decide)⟩, HB.out.alloc HB.out.size _, fun b hb => ?_⟩;rcases hb with rfl | hb | hb
 ·omega
 ·simp [Value.ownBlock] at hb; omega
 ·simp [Value.ownBlock] at hb
theorem adQ (n : Int) (w : World) (h : ¬(1 <= n /\ n <= 512)) :
  Calls prog 43 #[.int .i64 n] w fun e w' => e = .returned (.tuple #[.pointer none, .int .i64 2]) /\ w = w' := by
 have hor : n < 1 \/ (1 <= n /\ 512 < n) := by omega
 clear h;rcases hor with h | ⟨h, h'⟩
 all_goals
  go_enter func43, ntmps43;go_wp2;go_ret2;exact ⟨rfl, rfl⟩
section
variable {o : Oper} {a : Act} {x y : Operand} {w : World} {u v c : Int}
theorem vd {t1 t2 : TypeId} (ho : o.op = .call { callee := .builtin .min, args := #[x, y], argTypes := #[t1, t2] }) (hx : a.eval x = .int .i64 u) (hy : a.eval y = .int .i64 v) (h : (if v < u then v else u) = c) : (execOp a.eval o).run prog w = .ok (.value (.int .i64 c)) w := by
 subst h;have hrun := run_min_int2 (P := prog) (w := w) #[t1, t2] o.type .i64 .i64 u v;simp [execOp, ho, resolve, invoke, builtin, hx, hy, hrun, Result.andThen]
theorem ab5 {t1 t2 : TypeId} (ho : o.op = .call { callee := .builtin .max, args := #[x, y], argTypes := #[t1, t2] }) (hx : a.eval x = .int .i64 u) (hy : a.eval y = .int .i64 v) (h : (if v > u then v else u) = c) : (execOp a.eval o).run prog w = .ok (.value (.int .i64 c)) w := by
 subst h;have hrun : (Builtin.max_ #[t1, t2] o.type #[.int .i64 u, .int .i64 v]).run prog w = .ok (.int .i64 (if v > u then v else u)) w := by simp [Builtin.max_, Builtin.max2]
 simp [execOp, ho, resolve, invoke, builtin, hx, hy, hrun, Result.andThen]
end
def aal (A : Option Addr) (c : Nat) : Option Addr := if c = 0 then A else A.map (·.add 0)
theorem zH (b off c : Nat) : aal (some ⟨b, off, none⟩) c = some ⟨b, off, none⟩ := by
 unfold aal
 split
 ·rfl
 ·simp [add_mid]
section
variable {ρ : Operand -> Value} {o : Oper} {x y : Operand} {w : World} {A : Option Addr} {n c t b off : Nat}
theorem adO (h : t <= c) : (Instr.sliceAt 36 (.slice A n c) none (some (.int .i64 (t : Int))) none).run prog w = .ok (.slice (aal A c) t c) w := by
 simp [Instr.sliceAt, Instr.slice, Instr.sliceBounds, Instr.sliceBound, asIntOf, run_underlying underlying36, aal];intro hh; omega
theorem ze (ho : o.op = .slice 36 x none (some y) none) (hx : ρ x = .slice A n c) (hy : ρ y = .int .i64 (t : Int)) (h : t <= c) : (execOp ρ o).run prog w = .ok (.value (.slice (aal A c) t c)) w := by
 have h1 := adO (A := A) (n := n) (w := w) h;unfold execOp;simp only [ho, hx, hy, Option.map_some, Option.map_none, Sem.run_bind, h1, Result.andThen_ok, Sem.run_pure]
theorem abV {j : Nat} (ho : o.op = .indexAddr dw.s x y) (hx : ρ x = .slice (some ⟨b, off, none⟩) n c) (hy : ρ y = .int .i64 (j : Int)) (hj : j < n) : (execOp ρ o).run prog w = .ok (.value (.pointer (some ⟨b, off + j, none⟩))) w := by
 have h := bH (E := dw) (w := w) ho hx hy hj;rwa [show dw.n = 1 from rfl, Nat.mul_one] at h
theorem aei (h : t <= 64) : (Instr.sliceAt 64 (.pointer (some ⟨b, off, none⟩)) none (some (.int .i64 (t : Int))) none).run prog w = .ok (.slice (some ⟨b, off, none⟩) t 64) w := by
 simp [Instr.sliceAt, Instr.sliceBounds, Instr.sliceBound, Instr.sureAddr, asIntOf, run_underlying nD, Tryz.sizeOf5, add_mid];intro hh; omega
theorem qP (ho : o.op = .slice 64 x none (some y) none) (hx : ρ x = .pointer (some ⟨b, off, none⟩)) (hy : ρ y = .int .i64 (t : Int)) (h : t <= 64) : (execOp ρ o).run prog w = .ok (.value (.slice (some ⟨b, off, none⟩) t 64)) w := by
 have h1 := aei (b := b) (off := off) (w := w) h;unfold execOp;simp only [ho, hx, hy, Option.map_some, Option.map_none, Sem.run_bind, h1, Result.andThen_ok, Sem.run_pure]
end
theorem aaQ {w : World} {dT sT ty elem : TypeId} {g off n c m c' : Nat} {ad : Addr} {cs : List Value} (hu : prog.underlying dT = some (.slice elem)) (hs : (prog.info? elem).map (·.size) = some 1)
  (hn : cs.length = Nat.min m n) (hsrc : ∀ j v, cs[j]? = some v -> w.cell? (ad.add j) = some v) (ht : w.there g off cs.length) (h1 : ∀ v ∈ cs, v.oneCell' = true) :
  (Builtin.copy_ #[dT, sT] ty #[.slice (some ⟨g, off, none⟩) n c, .slice (some ad) m c']).run prog w = .ok (goInt cs.length) (w.setCells g off cs) := by
 have hl := run_loadCells_list (P := prog) w ad cs hsrc;have hst := run_storeCells_cells (P := prog) g off cs 0 w (fun j hj => (ht j hj).1) (fun j hj => (ht j hj).2) h1;rw [Nat.add_zero] at hst;cases hq : prog.info? elem with
 |none => simp [hq] at hs
 |some i =>
  have hi : i.size = 1 := by simpa [hq] using hs
  simp [Builtin.copy_, run_underlying hu, Builtin.lenOf, Builtin.firstCells, sizeOf, typeInfo, hq, hi, <- hn, hl, hst]
theorem xa {o : Oper} {a : Act} {x y : Operand} {w : World} {g off n c m c' : Nat} {ad : Addr} {cs : List Value} (ho : o.op = .call { callee := .builtin .copy, args := #[x, y], argTypes := #[143, 143] })
  (hx : a.eval x = .slice (some ⟨g, off, none⟩) n c) (hy : a.eval y = .slice (some ad) m c') (hn : cs.length = Nat.min m n) (hsrc : ∀ j v, cs[j]? = some v -> w.cell? (ad.add j) = some v) (ht : w.there g off cs.length) (h1 : ∀ v ∈ cs, v.oneCell' = true) :
  (execOp a.eval o).run prog w = .ok (.value (goInt cs.length)) (w.setCells g off cs) := by
 have hrun := aaQ (w := w) (dT := 143) (sT := 143) (ty := o.type) (c := c) (c' := c') underlying143 (by kernel_rfl) hn hsrc ht h1;simp [execOp, ho, resolve, invoke, builtin, hx, hy, hrun, Result.andThen]
def kp (z : Int) : Nat := (min (max z 0) 64).toNat
theorem agR (z : Int) : kp z <= 64 := by unfold kp; omega
theorem ajL (z : Int) : (if (64 : Int) < max z 0 then (64 : Int) else max z 0) = (kp z : Int) := by
 unfold kp
 split <;> omega
theorem aiI (z : Int) : (if (0 : Int) > z then (0 : Int) else z) = max z 0 := by split <;> omega
theorem acN (y x : Blk) (z : Int) : cel (qN y x z) = (cel y).take 0 ++ (cel x).take (kp z) ++ (cel y).drop (0 + ((cel x).take (kp z)).length) := by
 have hk := agR z;apply List.ext_getElem?;intro j;by_cases hj : j < 64
 ·rw [fx _ hj, uF _ _ _ hj, List.take_zero, List.nil_append, List.length_take, aG, Nat.min_eq_left hk, Nat.zero_add];by_cases h : j < kp z
  ·rw [List.getElem?_append_left (by rw [List.length_take, aG]; omega), List.getElem?_take_of_lt h, fx _ hj, if_pos (by unfold kp at h; omega)]
  ·rw [List.getElem?_append_right (by rw [List.length_take, aG]; omega), List.length_take, aG, Nat.min_eq_left hk, List.getElem?_drop, show kp z + (j - kp z) = j from by omega, fx _ hj, if_neg (by unfold kp at h; omega)]
 ·rw [List.getElem?_eq_none (by rw [aG]; omega), List.getElem?_eq_none];simp only [List.length_append, List.length_take, List.length_drop, aG];omega
section
variable {w w' : World} {p gg n c k : Nat} {vL : Value} {S : List Blk} {L : List (Int × Blk)}
theorem PD.akO (h : PD w p (.slice (some ⟨gg, 0, none⟩) n c) vL S L false) (hk : k < n) {vs : List Value} (a : Blk) (ha : cel a = (cel (S.getD k aE)).take 0 ++ vs ++ (cel (S.getD k aE)).drop (0 + vs.length)) (hj : 0 + vs.length <= 64) : PD (w.setCells gg (k * 64) vs) p (.slice (some ⟨gg, 0, none⟩) n c) vL (S.set k a) L false := by
 have hO : Only (fun b => b = gg) w (w.setCells gg (k * 64) vs) := (Only.refl (fun b => b = gg) w).setCells (.inl rfl) _ _;refine ⟨?_, by rw [List.length_set]; exact h.one, h.alive.put hk (j := 0) a ha hj, h.L_.only hO fun b hb e => ?_, fun e => absurd e (by decide)⟩
 ·rw [List.length_set];exact hO.keep h.at_ (fun e => h.S_.dl h.at_ (by decide) (by rw [e]; rfl))
 ·rcases h.L_.other h.S_ (by decide) with e' | e'
  ·rw [e'] at hb; cases hb
  ·exact e' (by rw [hb, e]; rfl)
end
theorem adA (S : List Blk) (k : Nat) : S.set k (S.getD k aE) = S := by
 apply List.ext_getElem?;intro j;rw [List.getElem?_set]
 split
 ·rename_i h
  subst h
  split
  ·rename_i h; rw [List.getD, List.getElem?_eq_getElem h]; rfl
  ·rename_i h; rw [List.getElem?_eq_none (by omega)]
 ·rfl
theorem aaU (y x : Blk) : qN y x 0 = y := Vector.ext fun i h => by rw [uW _ _ _ _ h, if_neg (by omega)]
theorem acg (S : List Blk) (L : List (Int × Blk)) (P : List Int) (i d : Nat) (h : P.length <= i) : crI S L P (i + d) = crI S L P i := by
 induction d with
 |zero => rfl
 |succ d ih =>
  have hz : P.getD (i + d) 0 = 0 := by rw [List.getD, List.getElem?_eq_none (by omega)]; rfl
  show crI S L P ((i + d) + 1) = _
  rw [crI, hz, aaU, adA, ih]
set_option maxRecDepth 100000 in
theorem aeE (p : Nat) (vS vL : Value) (S : List Blk) (L : List (Int × Blk)) (g : Bool) (A : Option Addr) (n c : Nat) (P : List Int) (w : World) (h : PD w p vS vL S L g) (hF : Fit S L) (hP : RdE dw w w.heap.size A n P) (hc1 : n <= c) (hc2 : c <= maxLen) (hN : ∀ x, A = some x -> 0 < n -> ¬ foot p vS vL x.block) :
  Calls prog 71 #[.pointer (some ⟨p, 0, none⟩), .slice A n c] w fun e w' => e = .returned (.tuple #[.int .i64 ((min L.length n : Nat) : Int), .int .i64 0]) /\ PD w' p vS (.slice none 0 0) (crI S L P L.length) [] g /\ Only (foot p vS vL) w w' := by
 obtain ⟨c0, c1, c2, c3⟩ := dQ h.at_;obtain ⟨AL, cL, rfl, hl1, hl2⟩ := h.L_.form;unfold maxLen at hl2 hc2;obtain ⟨T, hT⟩ : ∃ T, min L.length n = T := ⟨_, rfl⟩;have hTn : T <= n := by omega
 have hTL : T <= L.length := by omega
 have hTc : T <= c := by omega
 have hmin : (if (L.length : Int) < (n : Int) then (L.length : Int) else (n : Int)) = (T : Int) := by split <;> omega
 have HT := af hT;have HMIN := af hmin;have HH := af h;have HF := af hF;have HP := af hP;have HN := af hN;have HPL := af hP.1;rw [hT];clear h hF hP hN hT hmin;go_enter func71, ntmps71;go_wp2_with fail;refine (gt p vS _ S L g w HH).mono ?_;rintro e w1 ⟨rfl, rfl⟩;go_wp2_with (first | (refine ax rfl (vd rfl rfl rfl HMIN) ?_) | (refine ax rfl (ze rfl rfl rfl hTc) ?_) | fail);clear c0 c1 c2 c3;obtain ⟨A', hA'⟩ : ∃ A', aal A c = A' := ⟨_, rfl⟩;have HA' := af hA';rw [hA'];clear hA'
 go_loopw [7, 8, 9, 10, 26] (fun v7 v8 v9 v10 i wr => ∃ j : Nat, j <= T /\ i = .int .i64 j /\ PD wr p vS (.slice AL L.length cL) (crI S L P j) L g /\ Only (foot p vS (.slice AL L.length cL)) w wr) (fun _ _ _ _ i _ => T - (intOf i).toNat)
 case atStart => exact ⟨0, Nat.zero_le _, rfl, HH, Only.refl _ _⟩
 case round =>
  obtain ⟨j, hj, rfl, hr, hon⟩ := hrel;have HB := af (HP.out.only hon aj HN);by_cases hlt : j < T
  ·have hjL : j < L.length := by omega
   have hjn : j < n := by omega
   obtain rfl : g = false := by
    cases g
    ·rfl
    ·have := hr.dead rfl;subst this;simp at hjL
   obtain ⟨k, hqk, hk⟩ := HF.out.at_ hjL;have hlenS := m8 S L P j;have hstep : crI S L P (j + 1) = (crI S L P j).set k (qN ((crI S L P j).getD k aE) (L.getD j (0, aE)).2 (P.getD j 0)) := by rw [crI, hqk]; rfl
   obtain ⟨gS, cS, rfl⟩ := hr.alive.slice hlenS (by omega);obtain ⟨bA, oA, hAe, hAl, rA⟩ := hr.L_.rd.pairs hjL;obtain ⟨bP, oP, hPe, _, cP⟩ := HB.out.int hjn;have hA2 : A' = some ⟨bP, oP, none⟩ := by have := HA'.out; rw [hPe, zH] at this; exact this.symm
   generalize hq : L.getD j (0, aE) = q at *;obtain ⟨q1, x⟩ := q;obtain rfl : q1 = (k : Int) := hqk;generalize P.getD j 0 = z at *;have h1 := hr.below (ak.alloc aj (.cells (eP ((k : Int), x)).toArray LwE.t));have HON := af (hon.alloc (.cells (eP ((k : Int), x)).toArray LwE.t));have hnw := ue wr ((k : Int), x) LwE.t;obtain ⟨c0, c1, c2, c3⟩ := dQ hr.at_;have HRA := af rA;have HST := af hstep;have HKM := af (aiI z);have HKI := af (ajL z);have HKL := af (agR z);have HTC := af (fun y : Blk => acN y x z);subst hAe;subst hA2;clear rA hr hon hq hstep HA' hPe;have hLL : (j : Int) < (T : Int) := by omega
   go_wp2_with (first | (refine ax rfl (abV rfl rfl rfl hlt) ?_) | (refine ax rfl (bH (E := LwE) rfl rfl rfl hjL) ?_) | (refine ax rfl (lT rfl rfl HRA.out) ?_) | (refine ax rfl (kN rfl) ?_) | (refine aW rfl (mc rfl rfl rfl) ?_) | (refine ax rfl (ab5 rfl rfl rfl HKM.out) ?_) | (refine ax rfl (vd rfl rfl rfl HKI.out) ?_) | fail);generalize hy : wr.heap.size = y at *;generalize wr.alloc (.cells (eP ((k : Int), x)).toArray LwE.t) = w1 at *;clear c0 c1 c2 c3;obtain ⟨c0, c1, c2, c3⟩ := dQ h1.at_;have HA := af c1;have HNW := af hnw;have H1 := af h1;have hlen : ((cel x).take (kp z)).length = kp z := by rw [List.length_take, aG]; have := HKL.out; omega
   have HLEN := af hlen;have HKT := af (show w1.there gS (k * 64) ((cel x).take (kp z)).length from by
    have := H1.out.alive.there hk (j := 0) (m := ((cel x).take (kp z)).length) (by rw [hlen]; have := HKL.out; show 0 + _ <= 64; omega);rw [Nat.add_zero] at this;exact this)
   have HSRC := af (show ∀ m v, ((cel x).take (kp z))[m]? = some v -> w1.cell? ((⟨y, 1, none⟩ : Addr).add m) = some v from fun m v hm => by
    rw [add_mid];have hm2 : m < kp z := by have := (List.getElem?_eq_some_iff.1 hm).1; rwa [hlen] at this
    rw [List.getElem?_take_of_lt hm2] at hm;exact HNW.out.2 m v hm)
   have HONE := af (show ∀ v ∈ (cel x).take (kp z), v.oneCell' = true from fun v hv => je x v (List.mem_of_mem_take hv));clear c0 c1 c2 c3 hnw h1 hlenS hlen;refine wp_region_still_tail 12 (by kernel_rfl) (by kernel_rfl) ?_;simp only [ae];refine aJ rfl (aB rfl alb) ?_;simp only [aa];refine aJ rfl (aM rfl alb) ?_;simp only [aa];refine aJ rfl (av rfl alb aeQ) ?_;simp only [aa];refine aJ rfl (aA rfl alb (ldB HA)) ?_;simp only [aa];refine aJ rfl (av rfl alb afR) ?_;simp only [aa];refine aJ rfl (aA rfl alb (ldI HNW.out.1)) ?_;simp only [aa];refine aJ rfl (iC rfl alb alb hk) ?_;simp only [aa];refine aJ rfl (aB rfl alb) ?_;simp only [aa];refine aJ rfl (qP rfl alb alb HKL) ?_;simp only [aa];refine aJ rfl (av rfl alb ae9) ?_;simp only [aa];refine aJ rfl (aB rfl alb) ?_;simp only [aa];refine aJ rfl (qP rfl alb alb HKL) ?_;simp only [aa];refine wpStill_nil ?_;change wpList _ _ _ _ _ w1.drew;refine ak2 rfl (xa (cs := (cel x).take (kp z)) rfl alb alb (by rw [HLEN.out]; exact (Nat.min_self _).symm) HSRC HKT HONE) ?_;go_wp2_with fail;go_roundw
   case rel =>
    have hd : PD w1.drew p (.slice (some ⟨gS, 0, none⟩) S.length cS) (.slice (some ⟨bA, oA, none⟩) L.length cL) (crI S L P j) L false := ⟨H1.out.at_, H1.out.one, H1.out.S_, H1.out.L_, H1.out.dead⟩;exact ⟨j + 1, by omega, by go_num, by rw [HST.out]; exact hd.akO hk _ (HTC.out _) (by rw [HLEN.out]; have := HKL.out; omega), HON.out.drew.setCells (.inl (.inr (.inl rfl))) _ _⟩
   case measure => simp [intOf]; omega
  ·have hjn : j = T := by omega
   subst hjn;obtain ⟨c0, c1, c2, c3⟩ := dQ hr.at_;have f2 := frozen_of_row wr p 2 _ _ hr.at_;have HRr := af hr;have HON := af hon;clear hr hon;have hLL : ¬((j : Int) < (j : Int)) := by omega
   go_wp2_with fail;go_ret2;have hd := HRr.out.sO (aO.nil _ _) (fun _ => rfl);have hcr : crI S L P L.length = crI S L P j := by
    rcases Nat.lt_or_ge j L.length with e | e
    ·have e2 : L.length = j + (L.length - j) := by omega
     rw [e2];exact acg S L P j _ (by have := HPL.out; have := HT.out; omega)
    ·have e2 : j = L.length := by omega
     rw [<- e2]
   rw [hcr];exact ⟨rfl, hd, HON.out.setCell (.inl (.inl rfl)) _⟩
def oK (o : Oper) : Bool := match o.op with
 |.defer _ => false
 |_ => true
theorem mW {o : Oper} (h : oK o = true) : ∀ c, o.op ≠ .defer c := by
 intro c e;unfold oK at h;rw [e] at h;cases h
section
variable {F : Fence} {n : Nat} {P : Program} {ops : Array Oper} {rest : List Oper} {o : Oper} {a : Act} {w w' : World} {Q : Exit -> Act -> World -> Prop} {v : Value}
theorem ej (hg : o.guard = none) (hd : oK o = true) (ha : o.about P w a.eval = none) (h : (execOp a.eval o).run P w = .ok (.value v) w') (hr : wpListIn F n P ops Q rest (a.put o.dst v) w') : wpListIn F n P ops Q (o :: rest) a w := by
 refine wpListIn_plain hg fun K hK => ?_
 unfold Oper.wpIn;refine ⟨fun f hf => (by rw [ha] at hf; cases hf), ?_⟩;rw [Oper.semAt_plain F _ _ (mW hd), h];exact hK _ _ hr
theorem mC (hg : o.guard = none) (hd : oK o = true) (ha : o.about P w a.eval = none) (h : (execOp a.eval o).run P w = .ok .skip w') (hr : wpListIn F n P ops Q rest (a.put o.dst undef) w') : wpListIn F n P ops Q (o :: rest) a w := by
 refine wpListIn_plain hg fun K hK => ?_
 unfold Oper.wpIn;refine ⟨fun f hf => (by rw [ha] at hf; cases hf), ?_⟩;rw [Oper.semAt_plain F _ _ (mW hd), h];exact hK _ _ hr
end
open Go.RowKit Go.Shelf
attribute [local go_sem] Oper.semAt_some
def cmd (L : List (Int × Blk)) : Nat -> List (Nat × (Int × Blk))
 |0 => []
 |d + 1 => cmd L d ++ [(L.length - 1 - d, L.getD (L.length - 1 - d) (0, aE))]
theorem agk (L : List (Int × Blk)) (d : Nat) : (cmd L d).length = d := by
 induction d with
 |zero => rfl
 |succ d ih => rw [cmd, List.length_append, ih]; rfl
theorem yr (L : List (Int × Blk)) (d i : Nat) (h1 : L.length - d <= i) (h2 : i < L.length) : (i, L.getD i (0, aE)) ∈ cmd L d := by
 induction d with
 |zero => omega
 |succ d ih =>
  rw [cmd];by_cases e : L.length - d <= i
  ·exact List.mem_append.2 (.inl (ih e))
  ·have : i = L.length - 1 - d := by omega
   subst this;exact List.mem_append.2 (.inr (by simp))
def aeN (x : Nat × (Int × Blk)) : Array Value := #[.int .i64 (x.1 : Int), .agg (eP x.2).toArray]
theorem uG (F : Fence) (n : Nat) (h : F.fn 182) (hro : F.round = none) (a : Option Addr) (len cap : Nat) (w : World) :
  CallsIn F n prog 182 #[.slice a len cap] w fun e w' => e = .returned (.func (.func 194) #[] #[.pointer (some ⟨w.heap.size, 0, none⟩)]) /\ w' = w.alloc (.cells #[.slice a len cap] 136) := by
 refine callsIn_of_wp func182 rfl h ?_ hro;simp only [ntmps182, List.size_toArray, List.length_cons, List.length_nil, Nat.reduceAdd, Nat.reduceSub, Array.replicate_succ, Array.replicate_zero, List.push_toArray, List.append_toArray, List.nil_append, List.cons_append]
 gi_wp2
 go_ret;exact ⟨rfl, rfl⟩
set_option maxRecDepth 100000 in
theorem adw (F : Fence) (n : Nat) (h40 : F.fn 194) (hro : F.round = none) (hn : 1 <= n) (l Bs n₀ : Nat) (A : Option Addr) (cap : Nat) (L : List (Int × Blk)) (hLl : L.length <= 1000000) (J Jx : List (Nat × (Int × Blk)) -> World -> Prop)
  (hY : ∀ pre x W, J pre W -> pre.length < L.length -> YieldAt F (n - 1) prog l (aeN x) W fun e W' =>
   (e = .returned (.bool true) /\ J (pre ++ [x]) W' /\ Below n₀ W W') \/ (e = .returned (.bool false) /\ Jx (pre ++ [x]) W'))
  (W : World) (hBn : Bs < n₀) (hBs : W.cell? ⟨Bs, 0, none⟩ = some (.slice A L.length cap)) (hL : RdE LwE W n₀ A L.length L) (h0 : J [] W) :
  CallsIn F n prog 194 #[.func (.yield l) #[] #[], .pointer (some ⟨Bs, 0, none⟩)] W fun e W' => (∃ v, e = .returned v) /\
   ((∃ ys, ys = cmd L L.length /\ J ys W') \/ (∃ pre, (∃ d, d <= L.length /\ pre = cmd L d) /\ Jx pre W')) := by
 refine callsIn_of_wp func194 rfl h40 ?_ hro;simp only [ntmps194, List.size_toArray, List.length_cons, List.length_nil, Nat.reduceAdd, Nat.reduceSub, Array.replicate_succ, Array.replicate_zero, List.push_toArray, List.append_toArray, List.nil_append, List.cons_append]
 gi_wp2
 gi_loopw [3] (fun i wr => ∃ r : Nat, r <= L.length /\ i = .int .i64 ((r : Int) - 1) /\ J (cmd L (L.length - r)) wr /\ Below n₀ W wr)
  (fun i _ => (intOf i + 1).toNat)
 case atStart => exact ⟨L.length, aj, rfl, by rw [Nat.sub_self]; exact h0, ak⟩
 case round =>
  obtain ⟨r, hr, rfl, hJs, hnx⟩ := hrel;have hbx : wr.cell? ⟨Bs, 0, none⟩ = some (.slice A L.length cap) := (hnx.cell (p := ⟨Bs, 0, none⟩) hBn).trans hBs;have hLr := hL.below hnx;cases r with
  |zero =>
   clear hLr hbx;rw [Nat.sub_zero] at hJs;have e : ((0 : Nat) : Int) - 1 = -1 := rfl;rw [e]
   gi_wp2
   go_end0
   exact ⟨⟨_, rfl⟩, .inl ⟨_, rfl, hJs⟩⟩
  |succ m =>
   have e : ((m + 1 : Nat) : Int) - 1 = (m : Int) := by omega
   rw [e];clear e;have hlt : m < L.length := hr;obtain ⟨bA, oA, rfl, hbA, rA⟩ := RdE.pairs hLr hlt;have hnext : cmd L (L.length - m) = cmd L (L.length - (m + 1)) ++ [(m, L.getD m (0, aE))] := by
    have e1 : L.length - m = (L.length - (m + 1)) + 1 := by omega
    rw [e1, cmd];have e2 : L.length - 1 - (L.length - (m + 1)) = m := by omega
    rw [e2]
   have HNX := af hnext;obtain ⟨fn, tmps, assign, body, hy, hR⟩ := hY _ (m, L.getD m (0, aE)) wr hJs (by rw [agk]; omega);rw [<- hnext] at hR;have HRA := af rA;generalize L.getD m (0, aE) = q at *;unfold aeN at hy;dsimp only at hy;clear hnext rA hLr
   gi_wp2_with (first | (refine ej rfl rfl rfl (bH (E := LwE) rfl rfl rfl hlt) ?_) | (refine ej rfl rfl rfl (lT rfl rfl HRA) ?_) | fail)
   refine hR.mono ?_;rintro e W3 (⟨rfl, hJ3, hk3⟩ | ⟨rfl, hJx3⟩)
   ·gi_wp2
    go_roundw
    case rel => exact ⟨m, by omega, rfl, hJ3, hnx.trans hk3⟩
    case measure => simp [intOf]
   ·gi_wp2
    refine bodyPost_ret (results_none rfl _ _ _) rfl ?_;exact ⟨⟨_, rfl⟩, .inr ⟨_, ⟨L.length - m, by omega, rfl⟩, hJx3⟩⟩
theorem xe (F : Fence) (n : Nat) (h40 : F.fn 194) (hro : F.round = none) (hn : 1 <= n) (Bs : Nat) (A : Option Addr) (cap : Nat) (L : List (Int × Blk)) (hLl : L.length <= 1000000) (w : World) (hBn : Bs < w.heap.size) (hBs : w.cell? ⟨Bs, 0, none⟩ = some (.slice A L.length cap)) (hL : RdE LwE w w.heap.size A L.length L) :
  SeqStopsK F n prog 194 #[.pointer (some ⟨Bs, 0, none⟩)] aeN (Below w.heap.size) (fun ys => ys = cmd L L.length) (fun pre => ∃ d, d <= L.length /\ pre = cmd L d) L.length w := fun l J Jx W hW _ _ hY h0 =>
 adw F n h40 hro hn l Bs w.heap.size A cap L hLl J Jx hY W hBn ((hW.cell (p := ⟨Bs, 0, none⟩) hBn).trans hBs) (hL.below hW) h0
attribute [local go_sem] Oper.semAt_some
theorem p3 {fn : Func} {p u : Tmp} {c : Blk} {e : Int} (h : fn.results = #[.cell p 64, .cell u 41]) (tmps : Array Value) (w : World) (b b' : Nat) (hp : tmps.getD p undef = .pointer (some ⟨b, 0, none⟩)) (hu : tmps.getD u undef = .pointer (some ⟨b', 0, none⟩)) (hc : w.rangeAt b 0 (cel c)) (he : w.cell? ⟨b', 0, none⟩ = some (.int .i64 e)) :
  (results fn tmps).run prog w = .ok (.tuple #[blk c, .int .i64 e]) w := by
 have hl : (loadVar 64 ⟨b, 0, none⟩).run prog w = .ok (blk c) w := run_loadVar_mid w b 0 64 (cel c) _ hc nD rfl (by rw [aG]; exact rq);have hl2 : (loadVar 41 ⟨b', 0, none⟩).run prog w = .ok (.int .i64 e) w := by simp [go_sem, he]
 have hp' : tmps[p]?.getD undef = .pointer (some ⟨b, 0, none⟩) := by simpa using hp
 have hu' : tmps[u]?.getD undef = .pointer (some ⟨b', 0, none⟩) := by simpa using hu
 simp [results, h, hp', hu', asAddr, hl, hl2]
theorem kH {w : World} {b b' o i : Nat} {cs : List Value} (h : w.rangeAt b o cs) (hne : b ≠ b') (v : Value) : (w.setCell ⟨b', i, none⟩ v).rangeAt b o cs := fun j u hj => by
 rw [World.cell?_of_block (w := w) (a := ⟨b, o + j, none⟩) (heap_setCell_other w ⟨b', i, none⟩ b v hne)];exact h j u hj
def rd3 (w : World) (n : Int) : World := ((w.alloc (.cells #[.int .i64 n] 3)).alloc (.cells (cel aE).toArray 64)).alloc (.cells #[.int .i64 0] 41)
theorem qU (w : World) (n : Int) : Below w.heap.size w (rd3 w n) /\ (rd3 w n).heap[w.heap.size]? = some (.cells #[.int .i64 n] 3) /\ (rd3 w n).heap[w.heap.size + 1]? = some (.cells (cel aE).toArray 64) /\ (rd3 w n).heap[w.heap.size + 1 + 1]? = some (.cells #[.int .i64 0] 41) /\ (rd3 w n).heap.size = w.heap.size + 1 + 1 + 1 := by
 unfold rd3;have e1 := World.size_alloc (w := w) (o := .cells #[.int .i64 n] 3);have e2 := World.size_alloc (w := w.alloc (.cells #[.int .i64 n] 3)) (o := .cells (cel aE).toArray 64);have e3 := World.size_alloc (w := (w.alloc (.cells #[.int .i64 n] 3)).alloc (.cells (cel aE).toArray 64)) (o := .cells #[.int .i64 0] 41);have n1 := ox w #[.int .i64 n] 3;have n2 := ox (w.alloc (.cells #[.int .i64 n] 3)) (cel aE).toArray 64;have n3 := ox ((w.alloc (.cells #[.int .i64 n] 3)).alloc (.cells (cel aE).toArray 64)) #[.int .i64 0] 41;rw [e2, e1] at n3;rw [e1] at n2;refine ⟨(((Below.refl _ w).alloc aj _).alloc (by omega) _).alloc (by omega) _, cE (cE n1 _) _, cE n2 _, n3, by omega⟩
theorem one_cell {w : World} {b : Nat} {v : Value} {t : TypeId} (h : w.heap[b]? = some (.cells #[v] t (0, 0))) : w.cell? ⟨b, 0, none⟩ = some v /\ w.frozen? ⟨b, 0, none⟩ = false := by
 refine ⟨?_, frozen_of_row w b 0 _ t h⟩;rw [cell_of_row w b 0 _ t (0, 0) h]; rfl
theorem zQ (p : Nat) (vS vL : Value) (S : List Blk) (L : List (Int × Blk)) (g : Bool) (n : Int) (w : World) (h : PD w p vS vL S L g) (he0 : dm S g n ≠ 0) :
  Calls prog 155 #[.pointer (some ⟨p, 0, none⟩), .int .i64 n] w fun e w' => e = .returned (.tuple #[blk (gl S L g n), .int .i64 (dm S g n)]) /\ Below w.heap.size w w' := by
 obtain ⟨hA, k0, k1, k2, hsz⟩ := qU w n;have h1 := h.below hA;have HA := af hA;have HT := af (jy k1);obtain ⟨c0, f0⟩ := one_cell k0;have hO : Only (fun b => b = w.heap.size + 1) (rd3 w n) ((rd3 w n).setCells (w.heap.size + 1) 0 (cel aE)) := (Only.refl (fun b => b = w.heap.size + 1) (rd3 w n)).setCells (.inl rfl) _ _;have k2' := hO.keep k2 (by omega);obtain ⟨c2, f2⟩ := one_cell k2';have HS := af (uU (L := L) he0);clear hA k0 k1 k2 hO k2';rcases ft (S := S) (g := g) (n := n) with he | he | ⟨he, _⟩
 rotate_right 1
 ·exact absurd he he0
 all_goals
  have HE := af he;clear he he0;go_enter func155, ntmps155;unfold rd3 at *;go_wp2_with (first | (refine ax rfl (aV rfl) ?_) | fail);generalize ((w.alloc (.cells #[.int .i64 n] 3)).alloc (.cells (cel aE).toArray 64)).alloc (.cells #[.int .i64 0] 41) = w3 at *;refine (gr p vS vL S L g n w3 h1).mono ?_;rintro e w1 ⟨rfl, rfl⟩;rw [HE.out];go_wp2_with (first | (refine ax rfl (ca (c := aE) (parts := []) rfl rfl) ?_) | (refine aW rfl (aX rfl rfl rfl ?ht) ?_; (case ht => exact HT.out)) | fail);have hr1 : (w3.setCells (w.heap.size + 1) 0 (cel aE)).rangeAt (w.heap.size + 1) 0 (cel aE) := World.rangeAt_setCells_same _ _ _ _ (by rw [aG]; exact HT);have hr2 := kH (b' := w.heap.size + 1 + 1) (i := 0) hr1 (by omega);have hb2 := (below_setCells HA (show w.heap.size <= w.heap.size + 1 by omega) (o := 0) (cel aE));refine bodyPost_ret (p3 rfl _ _ _ _ rfl rfl (hr2 _) (World.cell?_setCell_same' _ _ _ (by rw [c2]; rfl))) rfl ⟨by rw [HS.out, HE.out], hb2.setCell (p := ⟨w.heap.size + 1 + 1, 0, none⟩) (by show _ <= w.heap.size + 1 + 1; omega) _⟩
end Go.Proofs.YtcpbekopbeaflaaGreatDoor
