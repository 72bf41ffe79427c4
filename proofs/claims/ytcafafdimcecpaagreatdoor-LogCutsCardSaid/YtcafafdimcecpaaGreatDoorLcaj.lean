import Derived.Test.YtcafafdimcecpaaGreatDoorLcaf
import Derived.Test.YtcafafdimcecpaaGreatDoorLcah
import Derived.Test.YtcafafdimcecpaaGreatDoorLcai
import Derived.Test.YtcafafdimcecpaaGreatDoorLcag
import Derived.Test.YtcafafdimcecpaaGreatDoorLcZ
namespace Go.Proofs.YtcafafdimcecpaaGreatDoor
open Go.RowKit
set_option linter.unusedVariables false
set_option maxRecDepth 100000
def PNew (Bn : World → (Nat → Prop) → Nat → BenS → Prop) (J : World → (Nat → Prop) → Nat → Nat → BenS → LgS → Prop) (w : World) (G : Nat → Prop) (q : Nat) (E : Int) (M' : BenS) (x : LgS) (e : Ending) (w' : World) : Prop :=
  ∃ G', Only G w w' ∧ Grow w G G' ∧ ((E = 0 ∧ ∃ p, e = .returned (.tuple #[.pointer (some ⟨p, 0, none⟩), .int .i64 0]) ∧ J w' G' q p M' x) ∨ (E ≠ 0 ∧ e = .returned (.tuple #[.pointer none, .int .i64 E]) ∧ Bn w' G' q M'))
def PTurn (J : World → (Nat → Prop) → Nat → Nat → BenS → LgS → Prop) (w : World) (G : Nat → Prop) (q p : Nat) (v : Value) (M' : BenS) (x' : LgS) (e : Ending) (w' : World) : Prop :=
  e = .returned v ∧ ∃ G', J w' G' q p M' x' ∧ Only G w w' ∧ Grow w G G'
def PRec (M : BenS) (x : LgS) (s : Nat) (w : World) (e : Ending) (w' : World) : Prop := ∃ v', e = .returned (.tuple #[v', .int .i64 (rcdE M x s)]) ∧ aA bn w' w.heap.size v' (rcdC M x s) ∧ Below w.heap.size w w'
structure LogI where
  R : BenP
  J : World → (Nat → Prop) → Nat → Nat → BenS → LgS → Prop
  lt : ∀ {w G q p M x}, J w G q p M x → ∀ b, G b → b < w.heap.size
  only : ∀ {w w' G F q p M x}, J w G q p M x → Only F w w' → (∀ b, G b → ¬ F b) → J w' G q p M x
  ben : ∀ {w G q p M x}, J w G q p M x → ∃ Gb, R.Bn w Gb q M ∧ (∀ b, Gb b → G b) ∧ ∀ w' Gb' M', R.Bn w' Gb' q M' → Only Gb w w' → Grow w Gb Gb' → ∃ G', J w' G' q p M' x ∧ Only G w w' ∧ Grow w G G' ∧ ∀ b, Gb' b → G' b
  open_ : ∀ {w G q M} (d : Int), R.Bn w G q M → TbG w G → Calls Tryz.prog 22 #[.pointer (some ⟨q, 0, none⟩), .int .i64 d] w (PNew R.Bn J w G q (opnE M d) M (opnL M d))
  lay : ∀ {w G q M} (d : Int) (id : Nat) (r : Int), R.Bn w G q M → TbG w G → Room M 13 → id < 18446744073709551616 → Calls Tryz.prog 35 #[.pointer (some ⟨q, 0, none⟩), .int .i64 d, .int .u64 (id : Nat), .int .i64 r] w (PNew R.Bn J w G q (layE M d id r) (layB M d id r) (layX d id r))
  app : ∀ {w G q p M x N} (A : Option Addr) (n c N0 : Nat) (cs : List Cl), J w G q p M x → TbG w G → LgOk M x N → Room M 40 → RdE bn w N0 A n cs → N0 ≤ w.heap.size → n ≤ maxLen → Calls Tryz.prog 19 #[.pointer (some ⟨p, 0, none⟩), .slice A n c] w (PTurn J w G q p (.tuple #[.int .u64 ((appN M x cs : Nat) : Int), .int .i64 (appE M x cs)]) (appB M x cs) (appX M x cs))
  rec_ : ∀ {w G q p M x N} (s : Nat), J w G q p M x → TbG w G → LgOk M x N → s < 18446744073709551616 → Calls Tryz.prog 24 #[.pointer (some ⟨p, 0, none⟩), .int .u64 (s : Nat)] w (PRec M x s w)
  clr : ∀ {w G q p M x N} (f : Nat), J w G q p M x → TbG w G → LgOk M x N → Room M 2 → f < 18446744073709551616 → Calls Tryz.prog 17 #[.pointer (some ⟨p, 0, none⟩), .int .u64 (f : Nat)] w (PTurn J w G q p (.int .i64 (clrE M x f)) (clrB M x f) (clrX M x f))
  live : ∀ {w G q p M x N}, J w G q p M x → LgOk M x N → Calls Tryz.prog 23 #[.pointer (some ⟨p, 0, none⟩)] w fun e w' => e = .returned (.tuple #[.int .u64 ((x.fst : Nat) : Int), .int .u64 ((x.next : Nat) : Int)]) ∧ Below w.heap.size w w'
  free : ∀ {w G q p M x N}, J w G q p M x → LgOk M x N → Calls Tryz.prog 31 #[.pointer (some ⟨p, 0, none⟩)] w fun e w' => e = .returned (.int .i64 ((x.free : Nat) : Int)) ∧ Below w.heap.size w w'
  id : ∀ {w G q p M x N}, J w G q p M x → LgOk M x N → Calls Tryz.prog 36 #[.pointer (some ⟨p, 0, none⟩)] w fun e w' => e = .returned (.int .u64 ((x.own : Nat) : Int)) ∧ Below w.heap.size w w'
  ring : ∀ {w G q p M x N}, J w G q p M x → LgOk M x N → Calls Tryz.prog 32 #[.pointer (some ⟨p, 0, none⟩)] w fun e w' => e = .returned (.int .i64 ((x.size : Nat) : Int)) ∧ Below w.heap.size w w'
theorem LogI.below (C : LogI) {w w' : World} {G : Nat → Prop} {q p : Nat} {M : BenS} {x : LgS} (h : C.J w G q p M x) (k : Below w.heap.size w w') : C.J w' G q p M x := C.only h (Only.of_below (fun _ => False) k) fun _ _ e => e
def AtK (P : World → (Nat → Prop) → Prop) (w0 : World) (B : Nat) (K : Nat → Prop) (w : World) : Prop := ∃ G, P w G ∧ (∀ b, G b → B ≤ b) ∧ Below B w0 w ∧ Bas w0 B ∧ ∀ b, K b → ¬ G b ∧ b < w.heap.size
def keptK (K : Nat → Prop) (w w' : World) : Prop := ∀ b, K b → w'.heap[b]? = w.heap[b]?
section
variable {P P' : World → (Nat → Prop) → Prop} {w0 w w' : World} {B : Nat} {K K' : Nat → Prop}
theorem AtK.bel (h : AtK P w0 B K w) : Below B w0 w := by obtain ⟨G, h1, h2, h3, h4⟩ := h; exact h3
theorem AtK.le (h : AtK P w0 B K w) : B ≤ w.heap.size := by obtain ⟨G, h1, h2, h3, h4, _⟩ := h; exact Nat.le_trans h4.le h3.size
theorem AtK.guard (hP : ∀ {w w' G}, P w G → Below w.heap.size w w' → P w' G) (hl : ∀ {w G}, P w G → ∀ b, G b → b < w.heap.size) (h : AtK P w0 B K w) (k : Below w.heap.size w w') (hK : ∀ b, K' b → K b ∨ (w.heap.size ≤ b ∧ b < w'.heap.size)) : AtK P w0 B K' w' := by
  obtain ⟨G, h1, h2, h3, h4, h5⟩ := h
  have hs := k.size
  refine ⟨G, hP h1 k, h2, h3.trans (k.mono (Nat.le_trans h4.le h3.size)), h4, fun b hb => ?_⟩
  rcases hK b hb with e | ⟨e1, e2⟩
  · obtain ⟨g1, g2⟩ := h5 b e
    exact ⟨g1, by omega⟩
  · exact ⟨fun hg => by have := hl h1 b hg; omega, e2⟩
theorem AtK.turn {G G' : Nat → Prop} (h2 : ∀ b, G b → B ≤ b) (h3 : Below B w0 w) (h4 : Bas w0 B) (h5 : ∀ b, K b → ¬ G b ∧ b < w.heap.size) (k1 : P' w' G') (k2 : Only G w w') (k3 : Grow w G G') : AtK P' w0 B K w' ∧ keptK K w w' := by
  have hs := Nat.le_trans h4.le h3.size
  have hs2 := k2.size
  refine ⟨⟨G', k1, k3.above h2 hs, h3.trans (k2.below h2 hs), h4, fun b hb => ?_⟩, fun b hb => k2.block b (h5 b hb).2 (h5 b hb).1⟩
  obtain ⟨g1, g2⟩ := h5 b hb
  refine ⟨fun hg => ?_, by omega⟩
  rcases k3 b hg with e | e
  · exact g1 e
  · omega
end
def LAt (C : LogI) (w0 : World) (B : Nat) (K : Nat → Prop) (w : World) (q p : Nat) (M : BenS) (x : LgS) : Prop := AtK (fun w G => C.J w G q p M x) w0 B K w
def BAt (C : LogI) (w0 : World) (B : Nat) (K : Nat → Prop) (w : World) (q : Nat) (M : BenS) : Prop := AtK (fun w G => C.R.Bn w G q M) w0 B K w
section
variable {C : LogI} {w0 w w' : World} {B q p N : Nat} {K K' : Nat → Prop} {M M' : BenS} {x x' : LgS}
theorem LAt.guard (h : LAt C w0 B K w q p M x) (k : Below w.heap.size w w') (hK : ∀ b, K' b → K b ∨ (w.heap.size ≤ b ∧ b < w'.heap.size)) : LAt C w0 B K' w' q p M x := AtK.guard (fun h k => C.below h k) (fun h => C.lt h) h k hK
theorem LAt.below (h : LAt C w0 B K w q p M x) (k : Below w.heap.size w w') : LAt C w0 B K w' q p M x := h.guard k fun b e => .inl e
theorem LAt.bench (h : LAt C w0 B K w q p M x) : BAt C w0 B K w q M := by
  obtain ⟨G, h1, h2, h3, h4, h5⟩ := h
  obtain ⟨Gb, b1, b2, b3⟩ := C.ben h1
  exact ⟨Gb, b1, fun b e => h2 b (b2 b e), h3, h4, fun b e => ⟨fun g => (h5 b e).1 (b2 b g), (h5 b e).2⟩⟩
theorem LAt.ben {I : FuncId} {vs : Array Value} {v : Value} (h : LAt C w0 B K w q p M x) (hc : ∀ {w F}, C.R.Bn w F q M → Calls Tryz.prog I vs w fun e w' => e = .returned v ∧ ∃ F', C.R.Bn w' F' q M' ∧ Only F w w' ∧ Grow w F F') : Calls Tryz.prog I vs w fun e w' => e = .returned v ∧ LAt C w0 B K w' q p M' x ∧ keptK K w w' := by
  obtain ⟨G, h1, h2, h3, h4, h5⟩ := h
  obtain ⟨Gb, b1, b2, b3⟩ := C.ben h1
  refine (hc b1).mono fun e w' ⟨he, F', k1, k2, k3⟩ => ?_
  obtain ⟨G', g1, g2, g3, _⟩ := b3 w' F' M' k1 k2 k3
  exact ⟨he, AtK.turn h2 h3 h4 h5 g1 g2 g3⟩
theorem LAt.app (A : Option Addr) (n c N0 : Nat) (cs : List Cl) (h : LAt C w0 B K w q p M x) (hk : LgOk M x N) (hr : Room M 40) (hc : RdE bn w N0 A n cs) (hN0 : N0 ≤ w.heap.size) (hn : n ≤ maxLen) :
    Calls Tryz.prog 19 #[.pointer (some ⟨p, 0, none⟩), .slice A n c] w fun e w' => e = .returned (.tuple #[.int .u64 ((appN M x cs : Nat) : Int), .int .i64 (appE M x cs)]) ∧ LAt C w0 B K w' q p (appB M x cs) (appX M x cs) ∧ keptK K w w' := by
  obtain ⟨G, h1, h2, h3, h4, h5⟩ := h
  exact (C.app A n c N0 cs h1 (h4.tabG h3 h2) hk hr hc hN0 hn).mono fun e w' ⟨he, G', k1, k2, k3⟩ => ⟨he, AtK.turn h2 h3 h4 h5 k1 k2 k3⟩
theorem LAt.clr (f : Nat) (h : LAt C w0 B K w q p M x) (hk : LgOk M x N) (hr : Room M 2) (hf : f < 18446744073709551616) :
    Calls Tryz.prog 17 #[.pointer (some ⟨p, 0, none⟩), .int .u64 (f : Nat)] w fun e w' => e = .returned (.int .i64 (clrE M x f)) ∧ LAt C w0 B K w' q p (clrB M x f) (clrX M x f) ∧ keptK K w w' := by
  obtain ⟨G, h1, h2, h3, h4, h5⟩ := h
  exact (C.clr f h1 (h4.tabG h3 h2) hk hr hf).mono fun e w' ⟨he, G', k1, k2, k3⟩ => ⟨he, AtK.turn h2 h3 h4 h5 k1 k2 k3⟩
theorem LAt.rec_ (s : Nat) (h : LAt C w0 B K w q p M x) (hk : LgOk M x N) (hs : s < 18446744073709551616) : Calls Tryz.prog 24 #[.pointer (some ⟨p, 0, none⟩), .int .u64 (s : Nat)] w (PRec M x s w) := by
  obtain ⟨G, h1, h2, h3, h4, _⟩ := h
  exact C.rec_ s h1 (h4.tabG h3 h2) hk hs
theorem LAt.live (h : LAt C w0 B K w q p M x) (hk : LgOk M x N) : Calls Tryz.prog 23 #[.pointer (some ⟨p, 0, none⟩)] w fun e w' => e = .returned (.tuple #[.int .u64 ((x.fst : Nat) : Int), .int .u64 ((x.next : Nat) : Int)]) ∧ Below w.heap.size w w' := by
  obtain ⟨G, h1, _⟩ := h
  exact C.live h1 hk
theorem LAt.free (h : LAt C w0 B K w q p M x) (hk : LgOk M x N) : Calls Tryz.prog 31 #[.pointer (some ⟨p, 0, none⟩)] w fun e w' => e = .returned (.int .i64 ((x.free : Nat) : Int)) ∧ Below w.heap.size w w' := by
  obtain ⟨G, h1, _⟩ := h
  exact C.free h1 hk
def QNew (C : LogI) (w0 : World) (B : Nat) (K : Nat → Prop) (w : World) (q : Nat) (E : Int) (M' : BenS) (x : LgS) (e : Ending) (w' : World) : Prop :=
  keptK K w w' ∧ ((E = 0 ∧ ∃ p, e = .returned (.tuple #[.pointer (some ⟨p, 0, none⟩), .int .i64 0]) ∧ LAt C w0 B K w' q p M' x) ∨ (E ≠ 0 ∧ e = .returned (.tuple #[.pointer none, .int .i64 E]) ∧ BAt C w0 B K w' q M'))
theorem PNew.at_ {G : Nat → Prop} {E : Int} {e : Ending} (h2 : ∀ b, G b → B ≤ b) (h3 : Below B w0 w) (h4 : Bas w0 B) (h5 : ∀ b, K b → ¬ G b ∧ b < w.heap.size) (h : PNew C.R.Bn C.J w G q E M' x e w') : QNew C w0 B K w q E M' x e w' := by
  obtain ⟨G', k2, k3, h | h⟩ := h
  · obtain ⟨e0, p, he, hj⟩ := h
    obtain ⟨g1, g2⟩ := AtK.turn (P' := fun w G => C.J w G q p M' x) h2 h3 h4 h5 hj k2 k3
    exact ⟨g2, .inl ⟨e0, p, he, g1⟩⟩
  · obtain ⟨e0, he, hb⟩ := h
    obtain ⟨g1, g2⟩ := AtK.turn (P' := fun w G => C.R.Bn w G q M') h2 h3 h4 h5 hb k2 k3
    exact ⟨g2, .inr ⟨e0, he, g1⟩⟩
theorem BAt.open_ (d : Int) (h : BAt C w0 B K w q M) : Calls Tryz.prog 22 #[.pointer (some ⟨q, 0, none⟩), .int .i64 d] w (QNew C w0 B K w q (opnE M d) M (opnL M d)) := by
  obtain ⟨F, h1, h2, h3, h4, h5⟩ := h
  exact (C.open_ d h1 (h4.tabG h3 h2)).mono fun e w' k => k.at_ h2 h3 h4 h5
theorem BAt.lay (d : Int) (id : Nat) (r : Int) (h : BAt C w0 B K w q M) (hr : Room M 13) (hid : id < 18446744073709551616) : Calls Tryz.prog 35 #[.pointer (some ⟨q, 0, none⟩), .int .i64 d, .int .u64 (id : Nat), .int .i64 r] w (QNew C w0 B K w q (layE M d id r) (layB M d id r) (layX d id r)) := by
  obtain ⟨F, h1, h2, h3, h4, h5⟩ := h
  exact (C.lay d id r h1 (h4.tabG h3 h2) hr hid).mono fun e w' k => k.at_ h2 h3 h4 h5
theorem LAt.lay (d : Int) (id : Nat) (r : Int) (h : LAt C w0 B K w q p M x) (hr : Room M 13) (hid : id < 18446744073709551616) : Calls Tryz.prog 35 #[.pointer (some ⟨q, 0, none⟩), .int .i64 d, .int .u64 (id : Nat), .int .i64 r] w fun e w' => keptK K w w' ∧
    ((layE M d id r = 0 ∧ ∃ p', e = .returned (.tuple #[.pointer (some ⟨p', 0, none⟩), .int .i64 0]) ∧ LAt C w0 B K w' q p' (layB M d id r) (layX d id r)) ∨ (layE M d id r ≠ 0 ∧ e = .returned (.tuple #[.pointer none, .int .i64 (layE M d id r)]) ∧ LAt C w0 B K w' q p (layB M d id r) x)) := by
  obtain ⟨G, h1, h2, h3, h4, h5⟩ := h
  obtain ⟨Gb, b1, b2, b3⟩ := C.ben h1
  refine (C.lay d id r b1 (h4.tabG h3 fun b e => h2 b (b2 b e)) hr hid).mono fun e w' k => ?_
  obtain ⟨G', k2, k3, k | k⟩ := k
  · obtain ⟨e0, p', he, hj⟩ := k
    obtain ⟨g1, g2⟩ := AtK.turn (P' := fun w G => C.J w G q p' (layB M d id r) (layX d id r)) (K := K) (fun b e => h2 b (b2 b e)) h3 h4 (fun b e => ⟨fun g => (h5 b e).1 (b2 b g), (h5 b e).2⟩) hj k2 k3
    exact ⟨g2, .inl ⟨e0, p', he, g1⟩⟩
  · obtain ⟨e0, he, hb⟩ := k
    obtain ⟨G2, g1, g2, g3, _⟩ := b3 w' G' _ hb k2 k3
    obtain ⟨y1, y2⟩ := AtK.turn (P' := fun w G => C.J w G q p (layB M d id r) x) (K := K) h2 h3 h4 h5 g1 g2 g3
    exact ⟨y2, .inr ⟨e0, he, y1⟩⟩
theorem QNew.yes {E : Int} {e : Ending} (h : QNew C w0 B K w q E M' x e w') (hE : E = 0) : ∃ p, e = .returned (.tuple #[.pointer (some ⟨p, 0, none⟩), .int .i64 0]) ∧ LAt C w0 B K w' q p M' x ∧ keptK K w w' := by
  rcases h with ⟨hk, ⟨_, p, h1, h2⟩ | ⟨h, _⟩⟩
  · exact ⟨p, h1, h2, hk⟩
  · exact absurd hE h
theorem QNew.no {E : Int} {e : Ending} (h : QNew C w0 B K w q E M' x e w') (hE : E ≠ 0) : e = .returned (.tuple #[.pointer none, .int .i64 E]) ∧ BAt C w0 B K w' q M' ∧ keptK K w w' := by
  rcases h with ⟨hk, ⟨h, _⟩ | ⟨_, h1, h2⟩⟩
  · exact absurd h hE
  · exact ⟨h1, h2, hk⟩
end
def solo (S : List Blk) (L : List (Int × Blk)) (left : Nat) (bY : Bool) (st : Nat) : BenS := ⟨[⟨S, L, false⟩], left, bY, st⟩
def Stp.okn (n : Nat) : Stp → Prop
  | .wr k _ => 0 ≤ k ∧ k < n
  | .fl => True
def aft : List Stp → List Blk × List (Int × Blk) → List Blk × List (Int × Blk)
  | [], z => z
  | .wr n b :: l, z => aft l (z.1, z.2 ++ [(n, b)])
  | .fl :: l, z => aft l (flS z.1 z.2, [])
theorem aft_app (a b : List Stp) : ∀ z, aft (a ++ b) z = aft b (aft a z) := by
  induction a with
  | nil => intro z; rfl
  | cons s a ih =>
    intro z
    cases s with
    | wr n x => exact ih _
    | fl => exact ih _
section
variable {S : List Blk} {L : List (Int × Blk)} {left st : Nat}
theorem solo_has (bY : Bool) : dx (solo S L left bY st) 0 = 0 := by unfold dx solo; simp
theorem solo_lit : cN (solo S L left false st) 0 = 0 := by rw [litE_light rfl]; exact solo_has _
theorem solo_se (bY : Bool) : ca (solo S L left bY st) 0 = (S.length : Int) := by unfold ca; rw [if_pos (solo_has _)]; rfl
theorem solo_rdE {n : Int} (h : 0 ≤ n ∧ n < S.length) : bX (solo S L left false st) 0 n = 0 := by
  unfold bX
  rw [if_pos solo_lit]
  exact fq h
theorem fH {k : Nat} (h : k < S.length) : cC (solo S [] left false st) 0 (k : Int) = S.getD k al := by
  unfold cC
  rw [if_pos solo_lit]
  show ed S [] false (k : Int) = _
  rw [readB_ok (fq ⟨by omega, by omega⟩)]
  rfl
theorem solo_wrE {n : Int} {b : Blk} (h : 0 ≤ n ∧ n < S.length) : stpE 0 (solo S L left false st) (.wr n b) = if left = 1 then 8 else 0 := by
  show wrE6 _ _ _ = _
  unfold wrE6
  rw [if_pos (solo_rdE h)]
  rfl
theorem solo_wrS {n : Int} {b : Blk} (h : 0 ≤ n ∧ n < S.length) (hl : left ≠ 1) : stpS 0 (solo S L left false st) (.wr n b) = solo S (L ++ [(n, b)]) (left - 1) false (st + 1) := by
  show wrS6 _ _ _ _ = _
  unfold wrS6
  rw [if_pos (solo_rdE h), if_neg (show ¬ (solo S L left false st).left = 1 from hl)]
  have e : wrL S L false n b = L ++ [(n, b)] := by unfold wrL; rw [if_pos (fq h)]
  show BenS.put _ _ ⟨S, wrL S L false n b, false⟩ = _
  rw [e]
  rfl
theorem solo_wrN {n : Int} {b : Blk} (h : 0 ≤ n ∧ n < S.length) : stpS 0 (solo S L 1 false st) (.wr n b) = solo S L 1 true st := by
  show wrS6 _ _ _ _ = _
  unfold wrS6
  rw [if_pos (solo_rdE h), if_pos (show (solo S L 1 false st).left = 1 from rfl)]
  rfl
theorem solo_flA : flA6 (solo S L left false st) 0 = 0 := by
  unfold flA6
  rw [if_pos solo_lit]
  rfl
theorem solo_flE : stpE 0 (solo S L left false st) .fl = if left = 1 then 8 else 0 := by
  show flE6 _ _ = _
  unfold flE6
  rw [if_pos solo_flA]
  rfl
theorem solo_flS (hl : left ≠ 1) : stpS 0 (solo S L left false st) .fl = solo (flS S L) [] (left - 1) false (st + 1) := by
  show flS6 _ _ = _
  unfold flS6
  rw [if_pos solo_flA, if_neg (show ¬ (solo S L left false st).left = 1 from hl)]
  rfl
theorem solo_flN : stpS 0 (solo S L 1 false st) .fl = solo S L 1 true st := by
  show flS6 _ _ = _
  unfold flS6
  rw [if_pos solo_flA, if_pos (show (solo S L 1 false st).left = 1 from rfl)]
  rfl
theorem solo_cr (bY : Bool) (P : List Int) : crS6 (solo S L left bY st) P = solo (crI S L P L.length) [] 0 false st := rfl
end
theorem solo_go (l : List Stp) : ∀ (S : List Blk) (L : List (Int × Blk)) (left st : Nat), (∀ s ∈ l, s.okn S.length) →
    ((left = 0 ∨ l.length < left) ∧ goE 0 (solo S L left false st) l = 0 ∧ goB 0 (solo S L left false st) l = solo (aft l (S, L)).1 (aft l (S, L)).2 (left - l.length) false (st + l.length)) ∨
    (1 ≤ left ∧ left ≤ l.length ∧ goE 0 (solo S L left false st) l = 8 ∧ goB 0 (solo S L left false st) l = solo (aft (l.take (left - 1)) (S, L)).1 (aft (l.take (left - 1)) (S, L)).2 1 true (st + (left - 1))) := by
  induction l with
  | nil => intro S L left st _; exact .inl ⟨by simp; omega, rfl, rfl⟩
  | cons s l ih =>
    intro S L left st hs
    by_cases h1 : left = 1
    · subst h1
      right
      have hE : stpE 0 (solo S L 1 false st) s = 8 := by
        cases s with
        | wr n b => rw [solo_wrE (hs _ (List.mem_cons_self ..))]; rfl
        | fl => rw [solo_flE]; rfl
      have hB : stpS 0 (solo S L 1 false st) s = solo S L 1 true st := by
        cases s with
        | wr n b => exact solo_wrN (hs _ (List.mem_cons_self ..))
        | fl => exact solo_flN
      refine ⟨Nat.le_refl _, by simp, ?_, ?_⟩
      · rw [(go_no (by rw [hE]; decide)).1, hE]
      · rw [(go_no (by rw [hE]; decide)).2, hB]; rfl
    · obtain ⟨S', L', hl', hE, hB, hA⟩ : ∃ S' L', S'.length = S.length ∧ stpE 0 (solo S L left false st) s = 0 ∧ stpS 0 (solo S L left false st) s = solo S' L' (left - 1) false (st + 1) ∧ ∀ l, aft (s :: l) (S, L) = aft l (S', L') := by
        cases s with
        | wr n b => exact ⟨S, L ++ [(n, b)], rfl, by rw [solo_wrE (hs _ (List.mem_cons_self ..)), if_neg h1], solo_wrS (hs _ (List.mem_cons_self ..)) h1, fun _ => rfl⟩
        | fl => exact ⟨flS S L, [], fu _ _, by rw [solo_flE, if_neg h1], solo_flS h1, fun _ => rfl⟩
      have := ih S' L' (left - 1) (st + 1) (fun t ht => by rw [hl']; exact hs t (List.mem_cons_of_mem _ ht))
      rw [(go_ok hE).1, (go_ok hE).2, hB]
      rcases this with ⟨g1, g2, g3⟩ | ⟨g1, g2, g3, g4⟩
      · left
        refine ⟨by rw [List.length_cons]; omega, g2, ?_⟩
        rw [g3, hA, List.length_cons, show left - 1 - l.length = left - (l.length + 1) from by omega, show st + 1 + l.length = st + (l.length + 1) from by omega]
      · right
        refine ⟨by omega, by rw [List.length_cons]; omega, g3, ?_⟩
        rw [g4, show left - 1 = (left - 1 - 1) + 1 from by omega, List.take_succ_cons, hA, show left - 1 - 1 + 1 - 1 = left - 1 - 1 from by omega, show st + 1 + (left - 1 - 1) = st + (left - 1 - 1 + 1) from by omega]
theorem flS_off {L : List (Int × Blk)} {j : Nat} (h : ∀ q ∈ L, q.1.toNat ≠ j) : ∀ S : List Blk, (flS S L).getD j al = S.getD j al := by
  induction L with
  | nil => intro S; rfl
  | cons q L ih =>
    intro S
    show (flS (S.set q.1.toNat q.2) L).getD j al = _
    rw [ih (fun p hp => h p (List.mem_cons_of_mem _ hp)), bu (Ne.symm (h q (List.mem_cons_self ..)))]
theorem crI_keep {S : List Blk} {L : List (Int × Blk)} {P : List Int} {j : Nat} (h : ∀ q ∈ L, q.1.toNat ≠ j) : ∀ i, i ≤ L.length → (crI S L P i).getD j al = S.getD j al
  | 0, _ => rfl
  | i + 1, hi => by
    have hm : L.getD i (0, al) ∈ L := getD_mem (by omega)
    rw [crI, bu (Ne.symm (h _ hm))]
    exact crI_keep h i (by omega)
theorem crI_one (S : List Blk) (n : Int) (b : Blk) (P : List Int) : crI S [(n, b)] P 1 = S.set n.toNat (torn (S.getD n.toNat al) b (P.getD 0 0)) := rfl
theorem Cod.torn_two {Y : Type} (C : Cod Y) {x : Y} {b d : Blk} {t : Int} (hx : C.pE x = 0) (hb : cF b.toList = agO b.toList) (hne : cF b.toList ≠ C.num x) (hd : torn b (C.pB x) t = d) : d = C.pB x ∨ d = b ∨ C.gE d ≠ 0 := by
  have a1 := C.of_pE hx
  have hnl : C.num x < 18446744073709551616 := by have := C.may_num _ a1; omega
  have pn := C.may_putE a1
  rw [C.pB_ok a1] at *
  have en := of_getE (put_getE hnl pn)
  have nn : cF (putB (C.num x) (C.body x)).toList = C.num x := by rw [← getN_of (put_getE hnl pn)]; exact put_getN hnl pn
  by_cases hg : C.gE d = 0
  · have hdd := (of_getE (C.of_gE hg).1).2.1
    rw [← hd] at hdd
    rcases torn_whole (n := t) en.2.1 hb (by rw [nn]; exact fun e => hne e.symm) hdd with h | h
    · exact .inl (by rw [← hd, h])
    · exact .inr (.inl (by rw [← hd, h]))
  · exact .inr (.inr hg)
theorem Cod.pB_num {Y : Type} (C : Cod Y) {x : Y} (hx : C.pE x = 0) : cF (C.pB x).toList = C.num x ∧ cF (C.pB x).toList = agO (C.pB x).toList := by
  have a1 := C.of_pE hx
  have hnl : C.num x < 18446744073709551616 := by have := C.may_num _ a1; omega
  have pn := C.may_putE a1
  rw [C.pB_ok a1]
  have en := of_getE (put_getE hnl pn)
  exact ⟨by rw [← getN_of (put_getE hnl pn)]; exact put_getN hnl pn, en.2.1⟩
theorem Cod.gN_le_num {Y : Type} (C : Cod Y) (b : Blk) : C.gN b ≤ cF b.toList := by
  by_cases h : C.gE b = 0
  · rw [C.gN_of h, getN_of (C.of_gE h).1]; exact Nat.le_refl _
  · rw [C.gN_no h]; exact Nat.zero_le _
theorem mod_ne {r p q : Nat} (h1 : p < q) (h2 : q < p + r) : p % r ≠ q % r := by
  intro e
  have e1 := Nat.div_add_mod p r
  have e2 := Nat.div_add_mod q r
  rw [← e] at e2
  have h3 : p / r < q / r := by
    rcases Nat.lt_or_ge (p / r) (q / r) with h | h
    · exact h
    · have := Nat.mul_le_mul_left r h
      omega
  have h4 := Nat.mul_le_mul_left r (show p / r + 1 ≤ q / r from h3)
  rw [Nat.mul_add, Nat.mul_one] at h4
  omega
theorem ee (r p : Nat) : (bV r p).toNat = 10 + p % r := by unfold bV; omega
theorem eQ {α : Type} {f : Nat → α} {n : Nat} {a : α} (h : a ∈ (List.range n).map f) : ∃ i, i < n ∧ f i = a := by
  obtain ⟨i, hi, e⟩ := List.mem_map.1 h
  exact ⟨i, List.mem_range.1 hi, e⟩
theorem aft_wr (f : Nat → Int × Blk) : ∀ (n : Nat) (z : List Blk × List (Int × Blk)), aft ((List.range n).map fun i => Stp.wr (f i).1 (f i).2) z = (z.1, z.2 ++ (List.range n).map f)
  | 0, z => by simp [aft]
  | n + 1, z => by
    rw [List.range_succ, List.map_append, aft_app, aft_wr f n, List.map_append, ← List.append_assoc]
    rfl
theorem flS_rng (f : Nat → Int × Blk) (S : List Blk) : ∀ n, (∀ i, i < n → (f i).1.toNat < S.length) → (∀ i j, i < n → j < n → i ≠ j → (f i).1.toNat ≠ (f j).1.toNat) → ∀ i, i < n → (flS S ((List.range n).map f)).getD (f i).1.toNat al = (f i).2
  | 0, _, _, i, hi => by omega
  | n + 1, h1, h2, i, hi => by
    have e : flS S ((List.range (n + 1)).map f) = (flS S ((List.range n).map f)).set (f n).1.toNat (f n).2 := by
      rw [List.range_succ, List.map_append]
      unfold flS
      rw [List.foldl_append]
      rfl
    rw [e]
    by_cases hin : i = n
    · subst hin
      rw [cE (by rw [fu]; exact h1 i (by omega))]
    · rw [bu (h2 i n hi (by omega) hin)]
      exact flS_rng f S n (fun j hj => h1 j (by omega)) (fun j k hj hk => h2 j k (by omega) (by omega)) i (by omega)
theorem flS_zero {L : List (Int × Blk)} {j : Nat} (h : ∀ q ∈ L, q.2 = al) : ∀ S : List Blk, S.getD j al = al → (flS S L).getD j al = al := by
  induction L with
  | nil => intro S e; exact e
  | cons q L ih =>
    intro S e
    refine ih (fun p hp => h p (List.mem_cons_of_mem _ hp)) (S.set q.1.toNat q.2) ?_
    by_cases hj : j = q.1.toNat
    · subst hj
      by_cases hl : q.1.toNat < S.length
      · rw [cE hl]; exact h q (List.mem_cons_self ..)
      · rw [List.getD, List.getElem?_eq_none (by rw [List.length_set]; omega)]; rfl
    · rw [bu hj]; exact e
structure OnD (S : List Blk) (x : LgS) (A : Nat → List Cl) (N : Nat) : Prop where
  len : S.length = 10 + x.size
  siz : 40 ≤ x.size ∧ x.size ≤ 256
  own : x.own ≠ 0 ∧ x.own < 18446744073709551616
  dev : x.d = 0
  lim : N ≤ 1000000
  cnt : 1 ≤ x.cnt ∧ x.cnt ≤ N
  fst : 1 ≤ x.fst ∧ x.next ≤ N
  pos : x.head ≤ 34 * N
  mrk : S.getD (x.cnt % 2) al = aR.pB ⟨x.cnt, ⟨x.own, (x.size : Int), x.fst, x.pos⟩⟩
  oth : aR.gN (S.getD ((x.cnt + 1) % 2) al) < x.cnt
  eig : x.nts.length ≤ 8
  use : x.used ≤ x.size
  nts : ∀ i, i < x.nts.length → (x.nts.getD i aG).seq = x.fst + i ∧ (x.nts.getD i aG).pos = x.pos + usd (x.nts.take i) ∧ S.getD (2 + (x.fst + i) % 8) al = aT.pB (x.nts.getD i aG)
  old : ∀ j, j < 8 → aT.gN (S.getD (2 + j) al) < x.next
  rcd : ∀ i, i < x.nts.length → recE (A (x.fst + i)) = 0 ∧ (x.nts.getD i aG).cells = ((A (x.fst + i)).length : Int) ∧ (x.nts.getD i aG).sum = sumB (bE (A (x.fst + i))) ∧
    ∀ j, j < (bE (A (x.fst + i))).length → S.getD (10 + ((x.nts.getD i aG).pos + j) % x.size) al = (bE (A (x.fst + i))).getD j al
structure Twn (S : List Blk) (x : LgS) : Prop where
  mkk : cF (S.getD ((x.cnt + 1) % 2) al).toList = agO (S.getD ((x.cnt + 1) % 2) al).toList ∧ cF (S.getD ((x.cnt + 1) % 2) al).toList < x.cnt
  nt : ∀ j, j < 8 → cF (S.getD (2 + j) al).toList = agO (S.getD (2 + j) al).toList ∧ cF (S.getD (2 + j) al).toList < x.next
section
variable {S S' : List Blk} {x : LgS} {A : Nat → List Cl} {N left st : Nat}
theorem OnD.tak (h : OnD S x A N) {i : Nat} (hi : i < x.nts.length) : bf (x.nts.getD i aG) = (bE (A (x.fst + i))).length ∧ 1 ≤ (A (x.fst + i)).length ∧ (A (x.fst + i)).length ≤ 32 := by
  obtain ⟨h1, h2, _⟩ := h.rcd i hi
  obtain ⟨h3, h4, _⟩ := of_recE h1
  refine ⟨?_, h3, h4⟩
  unfold bf
  rw [h2, bL, Int.toNat_natCast]
theorem OnD.end_ (h : OnD S x A N) {i : Nat} (hi : i < x.nts.length) : usd (x.nts.take i) + bf (x.nts.getD i aG) ≤ x.used := by
  have h1 := fL hi
  have h2 := fw x.nts (i + 1)
  unfold LgS.used
  omega
theorem OnD.note_fit (h : OnD S x A N) {i : Nat} (hi : i < x.nts.length) : aT.pE (x.nts.getD i aG) = 0 ∧ (x.nts.getD i aG).fit := by
  obtain ⟨h1, h2, _⟩ := h.nts i hi
  obtain ⟨_, h4, h5, _⟩ := h.rcd i hi
  obtain ⟨h6, h7, h8⟩ := h.tak hi
  have h9 := h.end_ hi
  have hl := h.lim
  have hf := h.fst
  have hp := h.pos
  have hn : x.next = x.fst + x.nts.length := rfl
  have hh : x.head = x.pos + x.used := rfl
  have hs := sumB_lt (bE (A (x.fst + i)))
  generalize x.nts.getD i aG = n at *
  refine ⟨aT.pE_ok (decide_eq_true ⟨by omega, by omega, by omega, by omega, by omega⟩), by omega, by omega, by omega⟩
theorem OnD.mark_fit (h : OnD S x A N) {c f a : Nat} (hc : 1 ≤ c ∧ c ≤ 2000000) (hf : 1 ≤ f ∧ f ≤ 2000000) (ha : a ≤ 100000000) : aR.pE ⟨c, ⟨x.own, (x.size : Int), f, a⟩⟩ = 0 ∧ aR.fits ⟨c, ⟨x.own, (x.size : Int), f, a⟩⟩ := by
  obtain ⟨s1, s2⟩ := h.siz
  obtain ⟨o1, o2⟩ := h.own
  refine ⟨aR.pE_ok ?_, by show c < _; omega, by show x.own < _; omega, by show f < _; omega, by show a < _; omega⟩
  rw [eB, Bool.and_eq_true]
  exact ⟨decide_eq_true ⟨by omega, by omega⟩, decide_eq_true ⟨o1, by show (40 : Int) ≤ (x.size : Int); omega, by show (x.size : Int) ≤ 256; omega, by show 1 ≤ f; omega, by show f ≤ _; omega, by show a ≤ _; omega⟩⟩
theorem OnD.mark_got (h : OnD S x A N) : aR.gE (S.getD (x.cnt % 2) al) = 0 ∧ aR.gX (S.getD (x.cnt % 2) al) = ⟨x.cnt, ⟨x.own, (x.size : Int), x.fst, x.pos⟩⟩ := by
  have hl := h.lim
  have hc := h.cnt
  have hf := h.fst
  have hp := h.pos
  have hn : x.next = x.fst + x.nts.length := rfl
  have hh : x.head = x.pos + x.used := rfl
  obtain ⟨h1, h2⟩ := h.mark_fit (c := x.cnt) (f := x.fst) (a := x.pos) (by omega) (by omega) (by omega)
  rw [h.mrk]
  exact aR.put_get h2 h1
theorem OnD.newest (h : OnD S x A N) : aR.nX (S.getD 0 al) (S.getD 1 al) = ⟨x.cnt, ⟨x.own, (x.size : Int), x.fst, x.pos⟩⟩ ∧ aR.nE (S.getD 0 al) (S.getD 1 al) = 0 := by
  obtain ⟨g1, g2⟩ := h.mark_got
  have ho := h.oth
  have hc := h.cnt
  have gn : aR.gN (S.getD (x.cnt % 2) al) = x.cnt := by unfold Cod.gN; rw [g2]; rfl
  have : x.cnt % 2 = 0 ∨ x.cnt % 2 = 1 := by omega
  rcases this with e | e
  · rw [show (x.cnt + 1) % 2 = 1 from by omega] at ho
    rw [e] at g1 g2 gn
    unfold Cod.nX Cod.nE
    rw [if_neg (by omega), if_neg (by omega)]
    exact ⟨g2, rfl⟩
  · rw [show (x.cnt + 1) % 2 = 0 from by omega] at ho
    rw [e] at g1 g2 gn
    unfold Cod.nX Cod.nE
    rw [if_pos (by omega), if_neg (by omega)]
    exact ⟨g2, rfl⟩
def LgS.upto (x : LgS) (k : Nat) : LgS := { x with nts := x.nts.take k }
theorem OnD.more (h : OnD S x A N) : ∀ m k, k + m = x.nts.length → opnN (solo S [] left false st) (8 - k) (x.upto k) = x
  | 0, k, hk => by
    have hu : x.upto k = x := by unfold LgS.upto; rw [List.take_of_length_le (by omega)]
    rw [hu]
    rcases Nat.eq_zero_or_pos (8 - k) with e | e
    · rw [e]; rfl
    · rw [show 8 - k = (8 - k - 1) + 1 from by omega, opnN, if_neg]
      intro hq
      obtain ⟨q1, q2, _⟩ := of_decide_eq_true hq
      have hz : x.d = 0 := h.dev
      have hj : x.next % 8 < 8 := Nat.mod_lt _ (by omega)
      have hlen := h.len
      rw [hz, cz, show ((0 : Nat) : Int) = 0 from rfl, fH (by omega)] at q1 q2
      have := h.old _ hj
      unfold Cod.gN at this
      have e3 : aT.num (aT.gX (S.getD (2 + x.next % 8) al)) = (aT.gX (S.getD (2 + x.next % 8) al)).seq := rfl
      omega
  | m + 1, k, hk => by
    have hkl : k < x.nts.length := by omega
    have he := h.eig
    obtain ⟨n1, n2, n3⟩ := h.nts k hkl
    obtain ⟨p1, p2⟩ := h.note_fit hkl
    have hend := h.end_ hkl
    have huse := h.use
    have hlen := h.len
    have hj : (x.fst + k) % 8 < 8 := Nat.mod_lt _ (by omega)
    have hu1 : (x.upto k).next = x.fst + k := by unfold LgS.upto LgS.next; simp only [List.length_take]; omega
    have hu2 : (x.upto k).used = usd (x.nts.take k) := rfl
    have hr : cC (solo S [] left false st) ((x.upto k).d : Int) (cz (x.upto k).next) = aT.pB (x.nts.getD k aG) := by
      rw [hu1, show ((x.upto k).d : Int) = 0 from by show (x.d : Int) = 0; rw [h.dev]; rfl, cz, fH (by omega), n3]
    obtain ⟨g1, g2⟩ := aT.put_get p2 p1
    rw [show 8 - k = (8 - (k + 1)) + 1 from by omega, opnN, hr, if_pos, g2]
    · have hw : (x.upto k).with_ (x.nts.getD k aG) = x.upto (k + 1) := by
        unfold LgS.with_ LgS.upto
        rw [List.take_add_one, List.getElem?_eq_getElem hkl, List.getD, List.getElem?_eq_getElem hkl]
        rfl
      rw [hw]
      exact OnD.more h m (k + 1) (by omega)
    · refine decide_eq_true ⟨g1, by rw [g2, hu1]; exact n1, by rw [g2, n2]; rfl, ?_⟩
      rw [g2]
      unfold LgS.free
      rw [hu2]
      show _ ≤ x.size - _
      omega
theorem OnD.open_ (h : OnD S x A N) : opnE (solo S [] left false st) 0 = 0 ∧ opnL (solo S [] left false st) 0 = x := by
  obtain ⟨w1, w2⟩ := h.newest
  obtain ⟨s1, s2⟩ := h.siz
  have hl := h.lim
  have hc := h.cnt
  have hf := h.fst
  have hp := h.pos
  have hn : x.next = x.fst + x.nts.length := rfl
  have hh : x.head = x.pos + x.used := rfl
  have hlen := h.len
  have r0 : cC (solo S [] left false st) 0 0 = S.getD 0 al := fH (k := 0) (by omega)
  have r1 : cC (solo S [] left false st) 0 1 = S.getD 1 al := fH (k := 1) (by omega)
  have hy : dp (solo S [] left false st) 0 = ⟨x.cnt, ⟨x.own, (x.size : Int), x.fst, x.pos⟩⟩ := by unfold dp; rw [r0, r1, w1]
  have hQ : opnQ (solo S [] left false st) 0 = true := decide_eq_true ⟨solo_has _, by rw [solo_se]; omega⟩
  have hF : opnF (solo S [] left false st) 0 = true := by
    refine decide_eq_true ⟨by rw [r0, r1]; exact w2, ?_, ?_, ?_, ?_⟩
    · rw [hy, solo_se]; show (x.size : Int) ≤ _; omega
    · rw [hy]; show x.cnt ≤ _; omega
    · rw [hy]; show x.fst ≤ _; omega
    · rw [hy]; show x.pos ≤ _; omega
  constructor
  · unfold opnE
    rw [if_pos hQ, if_pos (solo_rdE (n := 0) (by omega)), if_pos hF]
  · have hX : opnX (solo S [] left false st) 0 = x.upto 0 := by
      unfold opnX LgS.upto
      rw [hy]
      simp only [Int.toNat_natCast, List.take_zero]
      rw [show (0 : Int).toNat = x.d from by rw [h.dev]; rfl]
    unfold opnL
    rw [hX]
    exact h.more x.nts.length 0 (by omega)
theorem OnD.record (h : OnD S x A N) {q : Nat} (hq : livQ x q = true) : rcdE (solo S [] left false st) x q = 0 ∧ rcdC (solo S [] left false st) x q = A q := by
  obtain ⟨h1, h2⟩ : x.fst ≤ q ∧ q < x.next := of_decide_eq_true hq
  have hn : x.next = x.fst + x.nts.length := rfl
  obtain ⟨i, rfl⟩ : ∃ i, q = x.fst + i := ⟨q - x.fst, by omega⟩
  have hi : i < x.nts.length := by omega
  obtain ⟨c1, c2, c3, c4⟩ := h.rcd i hi
  obtain ⟨t1, t2, t3⟩ := h.tak hi
  have hnote : x.note (x.fst + i) = x.nts.getD i aG := by unfold LgS.note; rw [show x.fst + i - x.fst = i from by omega]
  obtain ⟨s1, s2⟩ := h.siz
  have hlen := h.len
  have hsec : ∀ p, 10 + p % x.size < S.length := fun p => by have := Nat.mod_lt p (show 0 < x.size by omega); omega
  have hL : rcdL (solo S [] left false st) x (x.nts.getD i aG) = bE (A (x.fst + i)) := by
    unfold rcdL
    apply List.ext_getElem
    · rw [List.length_map, List.length_range, t1]
    · intro j hj1 hj2
      rw [List.getElem_map, List.getElem_range, h.dev, bV, show ((0 : Nat) : Int) = 0 from rfl, fH (hsec _), c4 j hj2, List.getD, List.getElem?_eq_getElem hj2]
      rfl
  have hr : bX (solo S [] left false st) (x.d : Int) (bV x.size (x.nts.getD i aG).pos) = 0 := by
    rw [h.dev]
    have := hsec (x.nts.getD i aG).pos
    exact solo_rdE ⟨by unfold bV; omega, by unfold bV; omega⟩
  obtain ⟨g1, g2⟩ := rec_got c1
  have hE : rcdE (solo S [] left false st) x (x.fst + i) = 0 := by
    unfold rcdE
    rw [if_pos hq, hnote, if_pos hr, hL]
    unfold rcdF
    rw [if_pos c3.symm, c2, g1]
    rfl
  refine ⟨hE, ?_⟩
  unfold rcdC
  rw [if_pos hE, hnote, hL, c2, g2]
theorem OnD.keep (h : OnD S x A N) (hl : S'.length = S.length) (hm : S'.getD (x.cnt % 2) al = S.getD (x.cnt % 2) al) (ho : aR.gN (S'.getD ((x.cnt + 1) % 2) al) < x.cnt)
    (hn : ∀ j, j < 8 → S'.getD (2 + j) al = S.getD (2 + j) al ∨ (aT.gN (S'.getD (2 + j) al) < x.next ∧ ∀ i, i < x.nts.length → (x.fst + i) % 8 ≠ j))
    (hr : ∀ p, x.pos ≤ p → p < x.head → S'.getD (10 + p % x.size) al = S.getD (10 + p % x.size) al) : OnD S' x A N where
  len := hl.trans h.len
  siz := h.siz
  own := h.own
  dev := h.dev
  lim := h.lim
  cnt := h.cnt
  fst := h.fst
  pos := h.pos
  mrk := hm.trans h.mrk
  oth := ho
  eig := h.eig
  use := h.use
  nts := fun i hi => by
    obtain ⟨h1, h2, h3⟩ := h.nts i hi
    refine ⟨h1, h2, ?_⟩
    rcases hn ((x.fst + i) % 8) (Nat.mod_lt _ (by omega)) with e | ⟨_, e⟩
    · rw [e]; exact h3
    · exact absurd rfl (e i hi)
  old := fun j hj => by
    rcases hn j hj with e | ⟨e, _⟩
    · rw [e]; exact h.old j hj
    · exact e
  rcd := fun i hi => by
    obtain ⟨h1, h2, h3, h4⟩ := h.rcd i hi
    refine ⟨h1, h2, h3, fun j hj => ?_⟩
    obtain ⟨n1, n2, n3⟩ := h.nts i hi
    have he := h.end_ hi
    have ht := (h.tak hi).1
    rw [hr _ (by omega) (by unfold LgS.head; omega)]
    exact h4 j hj
end
end Go.Proofs.YtcafafdimcecpaaGreatDoor
