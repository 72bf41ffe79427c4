import Derived.Test.YtcafafdimcecpaaGreatDoorLsaf
import Derived.Test.YtcafafdimcecpaaGreatDoorLsah
import Derived.Test.YtcafafdimcecpaaGreatDoorLsai
import Derived.Test.YtcafafdimcecpaaGreatDoorLsag
import Derived.Test.YtcafafdimcecpaaGreatDoorLsZ
namespace Go.Proofs.YtcafafdimcecpaaGreatDoor
open Go.RowKit
set_option linter.unusedVariables false
set_option maxRecDepth 100000
def PNew (Bn : World → (Nat → Prop) → Nat → BenS → Prop) (J : World → (Nat → Prop) → Nat → Nat → BenS → LgS → Prop) (w : World) (G : Nat → Prop) (q : Nat) (E : Int) (M' : BenS) (x : LgS) (e : Ending) (w' : World) : Prop :=
  ∃ G', Only G w w' ∧ Grow w G G' ∧ ((E = 0 ∧ ∃ p, e = .returned (.tuple #[.pointer (some ⟨p, 0, none⟩), .int .i64 0]) ∧ J w' G' q p M' x) ∨ (E ≠ 0 ∧ e = .returned (.tuple #[.pointer none, .int .i64 E]) ∧ Bn w' G' q M'))
def PTurn (J : World → (Nat → Prop) → Nat → Nat → BenS → LgS → Prop) (w : World) (G : Nat → Prop) (q p : Nat) (v : Value) (M' : BenS) (x' : LgS) (e : Ending) (w' : World) : Prop :=
  e = .returned v ∧ ∃ G', J w' G' q p M' x' ∧ Only G w w' ∧ Grow w G G'
def PRec (M : BenS) (x : LgS) (s : Nat) (w : World) (e : Ending) (w' : World) : Prop := ∃ v', e = .returned (.tuple #[v', .int .i64 (rcdE M x s)]) ∧ az bp w' w.heap.size v' (rcdC M x s) ∧ Below w.heap.size w w'
structure LogI where
  R : BenP
  J : World → (Nat → Prop) → Nat → Nat → BenS → LgS → Prop
  lt : ∀ {w G q p M x}, J w G q p M x → ∀ b, G b → b < w.heap.size
  only : ∀ {w w' G F q p M x}, J w G q p M x → Only F w w' → (∀ b, G b → ¬ F b) → J w' G q p M x
  ben : ∀ {w G q p M x}, J w G q p M x → ∃ Gb, R.Bn w Gb q M ∧ (∀ b, Gb b → G b) ∧ ∀ w' Gb' M', R.Bn w' Gb' q M' → Only Gb w w' → Grow w Gb Gb' → ∃ G', J w' G' q p M' x ∧ Only G w w' ∧ Grow w G G' ∧ ∀ b, Gb' b → G' b
  open_ : ∀ {w G q M} (d : Int), R.Bn w G q M → TbG w G → Calls Tryz.prog 22 #[.pointer (some ⟨q, 0, none⟩), .int .i64 d] w (PNew R.Bn J w G q (opnE M d) M (opnL M d))
  lay : ∀ {w G q M} (d : Int) (id : Nat) (r : Int), R.Bn w G q M → TbG w G → Room M 13 → id < 18446744073709551616 → Calls Tryz.prog 35 #[.pointer (some ⟨q, 0, none⟩), .int .i64 d, .int .u64 (id : Nat), .int .i64 r] w (PNew R.Bn J w G q (layE M d id r) (layB M d id r) (layX d id r))
  app : ∀ {w G q p M x N} (A : Option Addr) (n c N0 : Nat) (cs : List Cl), J w G q p M x → TbG w G → LgOk M x N → Room M 40 → RdE bp w N0 A n cs → N0 ≤ w.heap.size → n ≤ maxLen → Calls Tryz.prog 19 #[.pointer (some ⟨p, 0, none⟩), .slice A n c] w (PTurn J w G q p (.tuple #[.int .u64 ((appN M x cs : Nat) : Int), .int .i64 (appE M x cs)]) (appB M x cs) (appX M x cs))
  rec_ : ∀ {w G q p M x N} (s : Nat), J w G q p M x → TbG w G → LgOk M x N → s < 18446744073709551616 → Calls Tryz.prog 24 #[.pointer (some ⟨p, 0, none⟩), .int .u64 (s : Nat)] w (PRec M x s w)
  clr : ∀ {w G q p M x N} (f : Nat), J w G q p M x → TbG w G → LgOk M x N → Room M 2 → f < 18446744073709551616 → Calls Tryz.prog 17 #[.pointer (some ⟨p, 0, none⟩), .int .u64 (f : Nat)] w (PTurn J w G q p (.int .i64 (clrE M x f)) (clrB M x f) (clrX M x f))
  live : ∀ {w G q p M x N}, J w G q p M x → LgOk M x N → Calls Tryz.prog 23 #[.pointer (some ⟨p, 0, none⟩)] w fun e w' => e = .returned (.tuple #[.int .u64 ((x.fst : Nat) : Int), .int .u64 ((x.next : Nat) : Int)]) ∧ Below w.heap.size w w'
  free : ∀ {w G q p M x N}, J w G q p M x → LgOk M x N → Calls Tryz.prog 31 #[.pointer (some ⟨p, 0, none⟩)] w fun e w' => e = .returned (.int .i64 ((x.free : Nat) : Int)) ∧ Below w.heap.size w w'
  id : ∀ {w G q p M x N}, J w G q p M x → LgOk M x N → Calls Tryz.prog 36 #[.pointer (some ⟨p, 0, none⟩)] w fun e w' => e = .returned (.int .u64 ((x.own : Nat) : Int)) ∧ Below w.heap.size w w'
  ring : ∀ {w G q p M x N}, J w G q p M x → LgOk M x N → Calls Tryz.prog 32 #[.pointer (some ⟨p, 0, none⟩)] w fun e w' => e = .returned (.int .i64 ((x.size : Nat) : Int)) ∧ Below w.heap.size w w'
theorem LogI.below (C : LogI) {w w' : World} {G : Nat → Prop} {q p : Nat} {M : BenS} {x : LgS} (h : C.J w G q p M x) (k : Below w.heap.size w w') : C.J w' G q p M x := C.only h (Only.of_below (fun _ => False) k) fun _ _ e => e
def AtK (P : World → (Nat → Prop) → Prop) (w0 : World) (B : Nat) (K : Nat → Prop) (w : World) : Prop := ∃ G, P w G ∧ (∀ b, G b → B ≤ b) ∧ Below B w0 w ∧ Bas w0 B ∧ ∀ b, K b → ¬ G b ∧ b < w.heap.size
def keptK (K : Nat → Prop) (w w' : World) : Prop := ∀ b, K b → w'.heap[b]? = w.heap[b]?
section
variable {P P' : World → (Nat → Prop) → Prop} {w0 w w' : World} {B : Nat} {K K' : Nat → Prop}
theorem AtK.bel (h : AtK P w0 B K w) : Below B w0 w := by obtain ⟨G, h1, h2, h3, h4⟩ := h; exact h3
theorem AtK.le (h : AtK P w0 B K w) : B ≤ w.heap.size := by obtain ⟨G, h1, h2, h3, h4, _⟩ := h; exact Nat.le_trans h4.le h3.size
theorem AtK.guard (hP : ∀ {w w' G}, P w G → Below w.heap.size w w' → P w' G) (hl : ∀ {w G}, P w G → ∀ b, G b → b < w.heap.size) (h : AtK P w0 B K w) (k : Below w.heap.size w w') (hK : ∀ b, K' b → K b ∨ (w.heap.size ≤ b ∧ b < w'.heap.size)) : AtK P w0 B K' w' := by
  obtain ⟨G, h1, h2, h3, h4, h5⟩ := h
  have hs := k.size
  refine ⟨G, hP h1 k, h2, h3.trans (k.mono (Nat.le_trans h4.le h3.size)), h4, fun b hb => ?_⟩
  rcases hK b hb with e | ⟨e1, e2⟩
  · obtain ⟨g1, g2⟩ := h5 b e
    exact ⟨g1, by omega⟩
  · exact ⟨fun hg => by have := hl h1 b hg; omega, e2⟩
theorem AtK.turn {G G' : Nat → Prop} (h2 : ∀ b, G b → B ≤ b) (h3 : Below B w0 w) (h4 : Bas w0 B) (h5 : ∀ b, K b → ¬ G b ∧ b < w.heap.size) (k1 : P' w' G') (k2 : Only G w w') (k3 : Grow w G G') : AtK P' w0 B K w' ∧ keptK K w w' := by
  have hs := Nat.le_trans h4.le h3.size
  have hs2 := k2.size
  refine ⟨⟨G', k1, k3.above h2 hs, h3.trans (k2.below h2 hs), h4, fun b hb => ?_⟩, fun b hb => k2.block b (h5 b hb).2 (h5 b hb).1⟩
  obtain ⟨g1, g2⟩ := h5 b hb
  refine ⟨fun hg => ?_, by omega⟩
  rcases k3 b hg with e | e
  · exact g1 e
  · omega
end
def LAt (C : LogI) (w0 : World) (B : Nat) (K : Nat → Prop) (w : World) (q p : Nat) (M : BenS) (x : LgS) : Prop := AtK (fun w G => C.J w G q p M x) w0 B K w
def BAt (C : LogI) (w0 : World) (B : Nat) (K : Nat → Prop) (w : World) (q : Nat) (M : BenS) : Prop := AtK (fun w G => C.R.Bn w G q M) w0 B K w
section
variable {C : LogI} {w0 w w' : World} {B q p N : Nat} {K K' : Nat → Prop} {M M' : BenS} {x x' : LgS}
theorem LAt.guard (h : LAt C w0 B K w q p M x) (k : Below w.heap.size w w') (hK : ∀ b, K' b → K b ∨ (w.heap.size ≤ b ∧ b < w'.heap.size)) : LAt C w0 B K' w' q p M x := AtK.guard (fun h k => C.below h k) (fun h => C.lt h) h k hK
theorem LAt.below (h : LAt C w0 B K w q p M x) (k : Below w.heap.size w w') : LAt C w0 B K w' q p M x := h.guard k fun b e => .inl e
theorem LAt.ben {I : FuncId} {vs : Array Value} {v : Value} (h : LAt C w0 B K w q p M x) (hc : ∀ {w F}, C.R.Bn w F q M → Calls Tryz.prog I vs w fun e w' => e = .returned v ∧ ∃ F', C.R.Bn w' F' q M' ∧ Only F w w' ∧ Grow w F F') : Calls Tryz.prog I vs w fun e w' => e = .returned v ∧ LAt C w0 B K w' q p M' x ∧ keptK K w w' := by
  obtain ⟨G, h1, h2, h3, h4, h5⟩ := h
  obtain ⟨Gb, b1, b2, b3⟩ := C.ben h1
  refine (hc b1).mono fun e w' ⟨he, F', k1, k2, k3⟩ => ?_
  obtain ⟨G', g1, g2, g3, _⟩ := b3 w' F' M' k1 k2 k3
  exact ⟨he, AtK.turn h2 h3 h4 h5 g1 g2 g3⟩
theorem LAt.app (A : Option Addr) (n c N0 : Nat) (cs : List Cl) (h : LAt C w0 B K w q p M x) (hk : LgOk M x N) (hr : Room M 40) (hc : RdE bp w N0 A n cs) (hN0 : N0 ≤ w.heap.size) (hn : n ≤ maxLen) :
    Calls Tryz.prog 19 #[.pointer (some ⟨p, 0, none⟩), .slice A n c] w fun e w' => e = .returned (.tuple #[.int .u64 ((appN M x cs : Nat) : Int), .int .i64 (appE M x cs)]) ∧ LAt C w0 B K w' q p (appB M x cs) (appX M x cs) ∧ keptK K w w' := by
  obtain ⟨G, h1, h2, h3, h4, h5⟩ := h
  exact (C.app A n c N0 cs h1 (h4.tabG h3 h2) hk hr hc hN0 hn).mono fun e w' ⟨he, G', k1, k2, k3⟩ => ⟨he, AtK.turn h2 h3 h4 h5 k1 k2 k3⟩
theorem LAt.clr (f : Nat) (h : LAt C w0 B K w q p M x) (hk : LgOk M x N) (hr : Room M 2) (hf : f < 18446744073709551616) :
    Calls Tryz.prog 17 #[.pointer (some ⟨p, 0, none⟩), .int .u64 (f : Nat)] w fun e w' => e = .returned (.int .i64 (clrE M x f)) ∧ LAt C w0 B K w' q p (clrB M x f) (clrX M x f) ∧ keptK K w w' := by
  obtain ⟨G, h1, h2, h3, h4, h5⟩ := h
  exact (C.clr f h1 (h4.tabG h3 h2) hk hr hf).mono fun e w' ⟨he, G', k1, k2, k3⟩ => ⟨he, AtK.turn h2 h3 h4 h5 k1 k2 k3⟩
theorem LAt.rec_ (s : Nat) (h : LAt C w0 B K w q p M x) (hk : LgOk M x N) (hs : s < 18446744073709551616) : Calls Tryz.prog 24 #[.pointer (some ⟨p, 0, none⟩), .int .u64 (s : Nat)] w (PRec M x s w) := by
  obtain ⟨G, h1, h2, h3, h4, _⟩ := h
  exact C.rec_ s h1 (h4.tabG h3 h2) hk hs
theorem LAt.live (h : LAt C w0 B K w q p M x) (hk : LgOk M x N) : Calls Tryz.prog 23 #[.pointer (some ⟨p, 0, none⟩)] w fun e w' => e = .returned (.tuple #[.int .u64 ((x.fst : Nat) : Int), .int .u64 ((x.next : Nat) : Int)]) ∧ Below w.heap.size w w' := by
  obtain ⟨G, h1, _⟩ := h
  exact C.live h1 hk
theorem LAt.free (h : LAt C w0 B K w q p M x) (hk : LgOk M x N) : Calls Tryz.prog 31 #[.pointer (some ⟨p, 0, none⟩)] w fun e w' => e = .returned (.int .i64 ((x.free : Nat) : Int)) ∧ Below w.heap.size w w' := by
  obtain ⟨G, h1, _⟩ := h
  exact C.free h1 hk
def QNew (C : LogI) (w0 : World) (B : Nat) (K : Nat → Prop) (w : World) (q : Nat) (E : Int) (M' : BenS) (x : LgS) (e : Ending) (w' : World) : Prop :=
  keptK K w w' ∧ ((E = 0 ∧ ∃ p, e = .returned (.tuple #[.pointer (some ⟨p, 0, none⟩), .int .i64 0]) ∧ LAt C w0 B K w' q p M' x) ∨ (E ≠ 0 ∧ e = .returned (.tuple #[.pointer none, .int .i64 E]) ∧ BAt C w0 B K w' q M'))
theorem PNew.at_ {G : Nat → Prop} {E : Int} {e : Ending} (h2 : ∀ b, G b → B ≤ b) (h3 : Below B w0 w) (h4 : Bas w0 B) (h5 : ∀ b, K b → ¬ G b ∧ b < w.heap.size) (h : PNew C.R.Bn C.J w G q E M' x e w') : QNew C w0 B K w q E M' x e w' := by
  obtain ⟨G', k2, k3, h | h⟩ := h
  · obtain ⟨e0, p, he, hj⟩ := h
    obtain ⟨g1, g2⟩ := AtK.turn (P' := fun w G => C.J w G q p M' x) h2 h3 h4 h5 hj k2 k3
    exact ⟨g2, .inl ⟨e0, p, he, g1⟩⟩
  · obtain ⟨e0, he, hb⟩ := h
    obtain ⟨g1, g2⟩ := AtK.turn (P' := fun w G => C.R.Bn w G q M') h2 h3 h4 h5 hb k2 k3
    exact ⟨g2, .inr ⟨e0, he, g1⟩⟩
theorem BAt.open_ (d : Int) (h : BAt C w0 B K w q M) : Calls Tryz.prog 22 #[.pointer (some ⟨q, 0, none⟩), .int .i64 d] w (QNew C w0 B K w q (opnE M d) M (opnL M d)) := by
  obtain ⟨F, h1, h2, h3, h4, h5⟩ := h
  exact (C.open_ d h1 (h4.tabG h3 h2)).mono fun e w' k => k.at_ h2 h3 h4 h5
theorem BAt.lay (d : Int) (id : Nat) (r : Int) (h : BAt C w0 B K w q M) (hr : Room M 13) (hid : id < 18446744073709551616) : Calls Tryz.prog 35 #[.pointer (some ⟨q, 0, none⟩), .int .i64 d, .int .u64 (id : Nat), .int .i64 r] w (QNew C w0 B K w q (layE M d id r) (layB M d id r) (layX d id r)) := by
  obtain ⟨F, h1, h2, h3, h4, h5⟩ := h
  exact (C.lay d id r h1 (h4.tabG h3 h2) hr hid).mono fun e w' k => k.at_ h2 h3 h4 h5
theorem LAt.lay (d : Int) (id : Nat) (r : Int) (h : LAt C w0 B K w q p M x) (hr : Room M 13) (hid : id < 18446744073709551616) : Calls Tryz.prog 35 #[.pointer (some ⟨q, 0, none⟩), .int .i64 d, .int .u64 (id : Nat), .int .i64 r] w fun e w' => keptK K w w' ∧
    ((layE M d id r = 0 ∧ ∃ p', e = .returned (.tuple #[.pointer (some ⟨p', 0, none⟩), .int .i64 0]) ∧ LAt C w0 B K w' q p' (layB M d id r) (layX d id r)) ∨ (layE M d id r ≠ 0 ∧ e = .returned (.tuple #[.pointer none, .int .i64 (layE M d id r)]) ∧ LAt C w0 B K w' q p (layB M d id r) x)) := by
  obtain ⟨G, h1, h2, h3, h4, h5⟩ := h
  obtain ⟨Gb, b1, b2, b3⟩ := C.ben h1
  refine (C.lay d id r b1 (h4.tabG h3 fun b e => h2 b (b2 b e)) hr hid).mono fun e w' k => ?_
  obtain ⟨G', k2, k3, k | k⟩ := k
  · obtain ⟨e0, p', he, hj⟩ := k
    obtain ⟨g1, g2⟩ := AtK.turn (P' := fun w G => C.J w G q p' (layB M d id r) (layX d id r)) (K := K) (fun b e => h2 b (b2 b e)) h3 h4 (fun b e => ⟨fun g => (h5 b e).1 (b2 b g), (h5 b e).2⟩) hj k2 k3
    exact ⟨g2, .inl ⟨e0, p', he, g1⟩⟩
  · obtain ⟨e0, he, hb⟩ := k
    obtain ⟨G2, g1, g2, g3, _⟩ := b3 w' G' _ hb k2 k3
    obtain ⟨y1, y2⟩ := AtK.turn (P' := fun w G => C.J w G q p (layB M d id r) x) (K := K) h2 h3 h4 h5 g1 g2 g3
    exact ⟨y2, .inr ⟨e0, he, y1⟩⟩
theorem QNew.yes {E : Int} {e : Ending} (h : QNew C w0 B K w q E M' x e w') (hE : E = 0) : ∃ p, e = .returned (.tuple #[.pointer (some ⟨p, 0, none⟩), .int .i64 0]) ∧ LAt C w0 B K w' q p M' x ∧ keptK K w w' := by
  rcases h with ⟨hk, ⟨_, p, h1, h2⟩ | ⟨h, _⟩⟩
  · exact ⟨p, h1, h2, hk⟩
  · exact absurd hE h
theorem QNew.no {E : Int} {e : Ending} (h : QNew C w0 B K w q E M' x e w') (hE : E ≠ 0) : e = .returned (.tuple #[.pointer none, .int .i64 E]) ∧ BAt C w0 B K w' q M' ∧ keptK K w w' := by
  rcases h with ⟨hk, ⟨h, _⟩ | ⟨_, h1, h2⟩⟩
  · exact absurd h hE
  · exact ⟨h1, h2, hk⟩
end
def solo (S : List Blk) (L : List (Int × Blk)) (left : Nat) (ce : Bool) (st : Nat) : BenS := ⟨[⟨S, L, false⟩], left, ce, st⟩
def Stp.okn (n : Nat) : Stp → Prop
  | .wr k _ => 0 ≤ k ∧ k < n
  | .fl => True
def aft : List Stp → List Blk × List (Int × Blk) → List Blk × List (Int × Blk)
  | [], z => z
  | .wr n b :: l, z => aft l (z.1, z.2 ++ [(n, b)])
  | .fl :: l, z => aft l (flS z.1 z.2, [])
theorem aft_app (a b : List Stp) : ∀ z, aft (a ++ b) z = aft b (aft a z) := by
  induction a with
  | nil => intro z; rfl
  | cons s a ih =>
    intro z
    cases s with
    | wr n x => exact ih _
    | fl => exact ih _
section
variable {S : List Blk} {L : List (Int × Blk)} {left st : Nat}
theorem solo_has (ce : Bool) : dx (solo S L left ce st) 0 = 0 := by unfold dx solo; simp
theorem solo_lit : cR (solo S L left false st) 0 = 0 := by rw [litE_light rfl]; exact solo_has _
theorem solo_se (ce : Bool) : ca (solo S L left ce st) 0 = (S.length : Int) := by unfold ca; rw [if_pos (solo_has _)]; rfl
theorem fA {n : Int} (h : 0 ≤ n ∧ n < S.length) : bW (solo S L left false st) 0 n = 0 := by
  unfold bW
  rw [if_pos solo_lit]
  exact fp h
theorem solo_rdB {k : Nat} (h : k < S.length) : cO (solo S [] left false st) 0 (k : Int) = S.getD k al := by
  unfold cO
  rw [if_pos solo_lit]
  show ej S [] false (k : Int) = _
  rw [readB_ok (fp ⟨by omega, by omega⟩)]
  rfl
theorem solo_wrE {n : Int} {b : Blk} (h : 0 ≤ n ∧ n < S.length) : stpE 0 (solo S L left false st) (.wr n b) = if left = 1 then 8 else 0 := by
  show wrE6 _ _ _ = _
  unfold wrE6
  rw [if_pos (fA h)]
  rfl
theorem solo_wrS {n : Int} {b : Blk} (h : 0 ≤ n ∧ n < S.length) (hl : left ≠ 1) : stpS 0 (solo S L left false st) (.wr n b) = solo S (L ++ [(n, b)]) (left - 1) false (st + 1) := by
  show wrS6 _ _ _ _ = _
  unfold wrS6
  rw [if_pos (fA h), if_neg (show ¬ (solo S L left false st).left = 1 from hl)]
  have e : wrL S L false n b = L ++ [(n, b)] := by unfold wrL; rw [if_pos (fp h)]
  show BenS.put _ _ ⟨S, wrL S L false n b, false⟩ = _
  rw [e]
  rfl
theorem solo_wrN {n : Int} {b : Blk} (h : 0 ≤ n ∧ n < S.length) : stpS 0 (solo S L 1 false st) (.wr n b) = solo S L 1 true st := by
  show wrS6 _ _ _ _ = _
  unfold wrS6
  rw [if_pos (fA h), if_pos (show (solo S L 1 false st).left = 1 from rfl)]
  rfl
theorem solo_flA : flA6 (solo S L left false st) 0 = 0 := by
  unfold flA6
  rw [if_pos solo_lit]
  rfl
theorem solo_flE : stpE 0 (solo S L left false st) .fl = if left = 1 then 8 else 0 := by
  show flE6 _ _ = _
  unfold flE6
  rw [if_pos solo_flA]
  rfl
theorem solo_flS (hl : left ≠ 1) : stpS 0 (solo S L left false st) .fl = solo (flS S L) [] (left - 1) false (st + 1) := by
  show flS6 _ _ = _
  unfold flS6
  rw [if_pos solo_flA, if_neg (show ¬ (solo S L left false st).left = 1 from hl)]
  rfl
theorem solo_flN : stpS 0 (solo S L 1 false st) .fl = solo S L 1 true st := by
  show flS6 _ _ = _
  unfold flS6
  rw [if_pos solo_flA, if_pos (show (solo S L 1 false st).left = 1 from rfl)]
  rfl
end
theorem solo_go (l : List Stp) : ∀ (S : List Blk) (L : List (Int × Blk)) (left st : Nat), (∀ s ∈ l, s.okn S.length) →
    ((left = 0 ∨ l.length < left) ∧ goE 0 (solo S L left false st) l = 0 ∧ goB 0 (solo S L left false st) l = solo (aft l (S, L)).1 (aft l (S, L)).2 (left - l.length) false (st + l.length)) ∨
    (1 ≤ left ∧ left ≤ l.length ∧ goE 0 (solo S L left false st) l = 8 ∧ goB 0 (solo S L left false st) l = solo (aft (l.take (left - 1)) (S, L)).1 (aft (l.take (left - 1)) (S, L)).2 1 true (st + (left - 1))) := by
  induction l with
  | nil => intro S L left st _; exact .inl ⟨by simp; omega, rfl, rfl⟩
  | cons s l ih =>
    intro S L left st hs
    by_cases h1 : left = 1
    · subst h1
      right
      have hE : stpE 0 (solo S L 1 false st) s = 8 := by
        cases s with
        | wr n b => rw [solo_wrE (hs _ (List.mem_cons_self ..))]; rfl
        | fl => rw [solo_flE]; rfl
      have hB : stpS 0 (solo S L 1 false st) s = solo S L 1 true st := by
        cases s with
        | wr n b => exact solo_wrN (hs _ (List.mem_cons_self ..))
        | fl => exact solo_flN
      refine ⟨Nat.le_refl _, by simp, ?_, ?_⟩
      · rw [(go_no (by rw [hE]; decide)).1, hE]
      · rw [(go_no (by rw [hE]; decide)).2, hB]; rfl
    · obtain ⟨S', L', hl', hE, hB, hA⟩ : ∃ S' L', S'.length = S.length ∧ stpE 0 (solo S L left false st) s = 0 ∧ stpS 0 (solo S L left false st) s = solo S' L' (left - 1) false (st + 1) ∧ ∀ l, aft (s :: l) (S, L) = aft l (S', L') := by
        cases s with
        | wr n b => exact ⟨S, L ++ [(n, b)], rfl, by rw [solo_wrE (hs _ (List.mem_cons_self ..)), if_neg h1], solo_wrS (hs _ (List.mem_cons_self ..)) h1, fun _ => rfl⟩
        | fl => exact ⟨flS S L, [], fq _ _, by rw [solo_flE, if_neg h1], solo_flS h1, fun _ => rfl⟩
      have := ih S' L' (left - 1) (st + 1) (fun t ht => by rw [hl']; exact hs t (List.mem_cons_of_mem _ ht))
      rw [(go_ok hE).1, (go_ok hE).2, hB]
      rcases this with ⟨g1, g2, g3⟩ | ⟨g1, g2, g3, g4⟩
      · left
        refine ⟨by rw [List.length_cons]; omega, g2, ?_⟩
        rw [g3, hA, List.length_cons, show left - 1 - l.length = left - (l.length + 1) from by omega, show st + 1 + l.length = st + (l.length + 1) from by omega]
      · right
        refine ⟨by omega, by rw [List.length_cons]; omega, g3, ?_⟩
        rw [g4, show left - 1 = (left - 1 - 1) + 1 from by omega, List.take_succ_cons, hA, show left - 1 - 1 + 1 - 1 = left - 1 - 1 from by omega, show st + 1 + (left - 1 - 1) = st + (left - 1 - 1 + 1) from by omega]
theorem flS_off {L : List (Int × Blk)} {j : Nat} (h : ∀ q ∈ L, q.1.toNat ≠ j) : ∀ S : List Blk, (flS S L).getD j al = S.getD j al := by
  induction L with
  | nil => intro S; rfl
  | cons q L ih =>
    intro S
    show (flS (S.set q.1.toNat q.2) L).getD j al = _
    rw [ih (fun p hp => h p (List.mem_cons_of_mem _ hp)), bl (Ne.symm (h q (List.mem_cons_self ..)))]
theorem crI_keep {S : List Blk} {L : List (Int × Blk)} {P : List Int} {j : Nat} (h : ∀ q ∈ L, q.1.toNat ≠ j) : ∀ i, i ≤ L.length → (crI S L P i).getD j al = S.getD j al
  | 0, _ => rfl
  | i + 1, hi => by
    have hm : L.getD i (0, al) ∈ L := getD_mem (by omega)
    rw [crI, bl (Ne.symm (h _ hm))]
    exact crI_keep h i (by omega)
theorem crI_one (S : List Blk) (n : Int) (b : Blk) (P : List Int) : crI S [(n, b)] P 1 = S.set n.toNat (torn (S.getD n.toNat al) b (P.getD 0 0)) := rfl
theorem Cod.torn_two {Y : Type} (C : Cod Y) {x : Y} {b d : Blk} {t : Int} (hx : C.pE x = 0) (hb : cH b.toList = agO b.toList) (hne : cH b.toList ≠ C.num x) (hd : torn b (C.pB x) t = d) : d = C.pB x ∨ d = b ∨ C.gE d ≠ 0 := by
  have a1 := C.of_pE hx
  have hnl : C.num x < 18446744073709551616 := by have := C.may_num _ a1; omega
  have pn := C.may_putE a1
  rw [C.pB_ok a1] at *
  have en := of_getE (put_getE hnl pn)
  have nn : cH (putB (C.num x) (C.body x)).toList = C.num x := by rw [← getN_of (put_getE hnl pn)]; exact put_getN hnl pn
  by_cases hg : C.gE d = 0
  · have hdd := (of_getE (C.of_gE hg).1).2.1
    rw [← hd] at hdd
    rcases torn_whole (n := t) en.2.1 hb (by rw [nn]; exact fun e => hne e.symm) hdd with h | h
    · exact .inl (by rw [← hd, h])
    · exact .inr (.inl (by rw [← hd, h]))
  · exact .inr (.inr hg)
theorem Cod.pB_num {Y : Type} (C : Cod Y) {x : Y} (hx : C.pE x = 0) : cH (C.pB x).toList = C.num x ∧ cH (C.pB x).toList = agO (C.pB x).toList := by
  have a1 := C.of_pE hx
  have hnl : C.num x < 18446744073709551616 := by have := C.may_num _ a1; omega
  have pn := C.may_putE a1
  rw [C.pB_ok a1]
  have en := of_getE (put_getE hnl pn)
  exact ⟨by rw [← getN_of (put_getE hnl pn)]; exact put_getN hnl pn, en.2.1⟩
theorem Cod.gN_le_num {Y : Type} (C : Cod Y) (b : Blk) : C.gN b ≤ cH b.toList := by
  by_cases h : C.gE b = 0
  · rw [C.gN_of h, getN_of (C.of_gE h).1]; exact Nat.le_refl _
  · rw [C.gN_no h]; exact Nat.zero_le _
theorem mod_ne {r p q : Nat} (h1 : p < q) (h2 : q < p + r) : p % r ≠ q % r := by
  intro e
  have e1 := Nat.div_add_mod p r
  have e2 := Nat.div_add_mod q r
  rw [← e] at e2
  have h3 : p / r < q / r := by
    rcases Nat.lt_or_ge (p / r) (q / r) with h | h
    · exact h
    · have := Nat.mul_le_mul_left r h
      omega
  have h4 := Nat.mul_le_mul_left r (show p / r + 1 ≤ q / r from h3)
  rw [Nat.mul_add, Nat.mul_one] at h4
  omega
theorem d7 (r p : Nat) : (bH r p).toNat = 10 + p % r := by unfold bH; omega
theorem eN {α : Type} {f : Nat → α} {n : Nat} {a : α} (h : a ∈ (List.range n).map f) : ∃ i, i < n ∧ f i = a := by
  obtain ⟨i, hi, e⟩ := List.mem_map.1 h
  exact ⟨i, List.mem_range.1 hi, e⟩
theorem aft_wr (f : Nat → Int × Blk) : ∀ (n : Nat) (z : List Blk × List (Int × Blk)), aft ((List.range n).map fun i => Stp.wr (f i).1 (f i).2) z = (z.1, z.2 ++ (List.range n).map f)
  | 0, z => by simp [aft]
  | n + 1, z => by
    rw [List.range_succ, List.map_append, aft_app, aft_wr f n, List.map_append, ← List.append_assoc]
    rfl
theorem flS_rng (f : Nat → Int × Blk) (S : List Blk) : ∀ n, (∀ i, i < n → (f i).1.toNat < S.length) → (∀ i j, i < n → j < n → i ≠ j → (f i).1.toNat ≠ (f j).1.toNat) → ∀ i, i < n → (flS S ((List.range n).map f)).getD (f i).1.toNat al = (f i).2
  | 0, _, _, i, hi => by omega
  | n + 1, h1, h2, i, hi => by
    have e : flS S ((List.range (n + 1)).map f) = (flS S ((List.range n).map f)).set (f n).1.toNat (f n).2 := by
      rw [List.range_succ, List.map_append]
      unfold flS
      rw [List.foldl_append]
      rfl
    rw [e]
    by_cases hin : i = n
    · subst hin
      rw [cz (by rw [fq]; exact h1 i (by omega))]
    · rw [bl (h2 i n hi (by omega) hin)]
      exact flS_rng f S n (fun j hj => h1 j (by omega)) (fun j k hj hk => h2 j k (by omega) (by omega)) i (by omega)
theorem flS_zero {L : List (Int × Blk)} {j : Nat} (h : ∀ q ∈ L, q.2 = al) : ∀ S : List Blk, S.getD j al = al → (flS S L).getD j al = al := by
  induction L with
  | nil => intro S e; exact e
  | cons q L ih =>
    intro S e
    refine ih (fun p hp => h p (List.mem_cons_of_mem _ hp)) (S.set q.1.toNat q.2) ?_
    by_cases hj : j = q.1.toNat
    · subst hj
      by_cases hl : q.1.toNat < S.length
      · rw [cz hl]; exact h q (List.mem_cons_self ..)
      · rw [List.getD, List.getElem?_eq_none (by rw [List.length_set]; omega)]; rfl
    · rw [bl hj]; exact e
structure OnD (S : List Blk) (x : LgS) (A : Nat → List Cl) (N : Nat) : Prop where
  len : S.length = 10 + x.size
  siz : 40 ≤ x.size ∧ x.size ≤ 256
  own : x.own ≠ 0 ∧ x.own < 18446744073709551616
  dev : x.d = 0
  lim : N ≤ 1000000
  cnt : 1 ≤ x.cnt ∧ x.cnt ≤ N
  fst : 1 ≤ x.fst ∧ x.next ≤ N
  pos : x.head ≤ 34 * N
  mrk : S.getD (x.cnt % 2) al = aO.pB ⟨x.cnt, ⟨x.own, (x.size : Int), x.fst, x.pos⟩⟩
  oth : aO.gN (S.getD ((x.cnt + 1) % 2) al) < x.cnt
  eig : x.nts.length ≤ 8
  use : x.used ≤ x.size
  nts : ∀ i, i < x.nts.length → (x.nts.getD i aB).seq = x.fst + i ∧ (x.nts.getD i aB).pos = x.pos + usd (x.nts.take i) ∧ S.getD (2 + (x.fst + i) % 8) al = aU.pB (x.nts.getD i aB)
  old : ∀ j, j < 8 → aU.gN (S.getD (2 + j) al) < x.next
  rcd : ∀ i, i < x.nts.length → recE (A (x.fst + i)) = 0 ∧ (x.nts.getD i aB).cells = ((A (x.fst + i)).length : Int) ∧ (x.nts.getD i aB).sum = sumB (bE (A (x.fst + i))) ∧
    ∀ j, j < (bE (A (x.fst + i))).length → S.getD (10 + ((x.nts.getD i aB).pos + j) % x.size) al = (bE (A (x.fst + i))).getD j al
structure Twn (S : List Blk) (x : LgS) : Prop where
  mkk : cH (S.getD ((x.cnt + 1) % 2) al).toList = agO (S.getD ((x.cnt + 1) % 2) al).toList ∧ cH (S.getD ((x.cnt + 1) % 2) al).toList < x.cnt
  nt : ∀ j, j < 8 → cH (S.getD (2 + j) al).toList = agO (S.getD (2 + j) al).toList ∧ cH (S.getD (2 + j) al).toList < x.next
section
variable {S S' : List Blk} {x : LgS} {A : Nat → List Cl} {N left st : Nat}
theorem OnD.tak (h : OnD S x A N) {i : Nat} (hi : i < x.nts.length) : aN (x.nts.getD i aB) = (bE (A (x.fst + i))).length ∧ 1 ≤ (A (x.fst + i)).length ∧ (A (x.fst + i)).length ≤ 32 := by
  obtain ⟨h1, h2, _⟩ := h.rcd i hi
  obtain ⟨h3, h4, _⟩ := of_recE h1
  refine ⟨?_, h3, h4⟩
  unfold aN
  rw [h2, bz, Int.toNat_natCast]
theorem OnD.end_ (h : OnD S x A N) {i : Nat} (hi : i < x.nts.length) : usd (x.nts.take i) + aN (x.nts.getD i aB) ≤ x.used := by
  have h1 := dA hi
  have h2 := ee x.nts (i + 1)
  unfold LgS.used
  omega
theorem OnD.note_fit (h : OnD S x A N) {i : Nat} (hi : i < x.nts.length) : aU.pE (x.nts.getD i aB) = 0 ∧ (x.nts.getD i aB).fit := by
  obtain ⟨h1, h2, _⟩ := h.nts i hi
  obtain ⟨_, h4, h5, _⟩ := h.rcd i hi
  obtain ⟨h6, h7, h8⟩ := h.tak hi
  have h9 := h.end_ hi
  have hl := h.lim
  have hf := h.fst
  have hp := h.pos
  have hn : x.next = x.fst + x.nts.length := rfl
  have hh : x.head = x.pos + x.used := rfl
  have hs := sumB_lt (bE (A (x.fst + i)))
  generalize x.nts.getD i aB = n at *
  refine ⟨aU.pE_ok (decide_eq_true ⟨by omega, by omega, by omega, by omega, by omega⟩), by omega, by omega, by omega⟩
theorem OnD.mark_fit (h : OnD S x A N) {c f a : Nat} (hc : 1 ≤ c ∧ c ≤ 2000000) (hf : 1 ≤ f ∧ f ≤ 2000000) (ha : a ≤ 100000000) : aO.pE ⟨c, ⟨x.own, (x.size : Int), f, a⟩⟩ = 0 ∧ aO.fits ⟨c, ⟨x.own, (x.size : Int), f, a⟩⟩ := by
  obtain ⟨s1, s2⟩ := h.siz
  obtain ⟨o1, o2⟩ := h.own
  refine ⟨aO.pE_ok ?_, by show c < _; omega, by show x.own < _; omega, by show f < _; omega, by show a < _; omega⟩
  rw [er, Bool.and_eq_true]
  exact ⟨decide_eq_true ⟨by omega, by omega⟩, decide_eq_true ⟨o1, by show (40 : Int) ≤ (x.size : Int); omega, by show (x.size : Int) ≤ 256; omega, by show 1 ≤ f; omega, by show f ≤ _; omega, by show a ≤ _; omega⟩⟩
theorem OnD.mark_got (h : OnD S x A N) : aO.gE (S.getD (x.cnt % 2) al) = 0 ∧ aO.gX (S.getD (x.cnt % 2) al) = ⟨x.cnt, ⟨x.own, (x.size : Int), x.fst, x.pos⟩⟩ := by
  have hl := h.lim
  have hc := h.cnt
  have hf := h.fst
  have hp := h.pos
  have hn : x.next = x.fst + x.nts.length := rfl
  have hh : x.head = x.pos + x.used := rfl
  obtain ⟨h1, h2⟩ := h.mark_fit (c := x.cnt) (f := x.fst) (a := x.pos) (by omega) (by omega) (by omega)
  rw [h.mrk]
  exact aO.put_get h2 h1
theorem OnD.record (h : OnD S x A N) {q : Nat} (hq : livQ x q = true) : rcdE (solo S [] left false st) x q = 0 ∧ rcdC (solo S [] left false st) x q = A q := by
  obtain ⟨h1, h2⟩ : x.fst ≤ q ∧ q < x.next := of_decide_eq_true hq
  have hn : x.next = x.fst + x.nts.length := rfl
  obtain ⟨i, rfl⟩ : ∃ i, q = x.fst + i := ⟨q - x.fst, by omega⟩
  have hi : i < x.nts.length := by omega
  obtain ⟨c1, c2, c3, c4⟩ := h.rcd i hi
  obtain ⟨t1, t2, t3⟩ := h.tak hi
  have hnote : x.note (x.fst + i) = x.nts.getD i aB := by unfold LgS.note; rw [show x.fst + i - x.fst = i from by omega]
  obtain ⟨s1, s2⟩ := h.siz
  have hlen := h.len
  have hsec : ∀ p, 10 + p % x.size < S.length := fun p => by have := Nat.mod_lt p (show 0 < x.size by omega); omega
  have hL : rcdL (solo S [] left false st) x (x.nts.getD i aB) = bE (A (x.fst + i)) := by
    unfold rcdL
    apply List.ext_getElem
    · rw [List.length_map, List.length_range, t1]
    · intro j hj1 hj2
      rw [List.getElem_map, List.getElem_range, h.dev, bH, show ((0 : Nat) : Int) = 0 from rfl, solo_rdB (hsec _), c4 j hj2, List.getD, List.getElem?_eq_getElem hj2]
      rfl
  have hr : bW (solo S [] left false st) (x.d : Int) (bH x.size (x.nts.getD i aB).pos) = 0 := by
    rw [h.dev]
    have := hsec (x.nts.getD i aB).pos
    exact fA ⟨by unfold bH; omega, by unfold bH; omega⟩
  obtain ⟨g1, g2⟩ := rec_got c1
  have hE : rcdE (solo S [] left false st) x (x.fst + i) = 0 := by
    unfold rcdE
    rw [if_pos hq, hnote, if_pos hr, hL]
    unfold rcdF
    rw [if_pos c3.symm, c2, g1]
    rfl
  refine ⟨hE, ?_⟩
  unfold rcdC
  rw [if_pos hE, hnote, hL, c2, g2]
theorem OnD.keep (h : OnD S x A N) (hl : S'.length = S.length) (hm : S'.getD (x.cnt % 2) al = S.getD (x.cnt % 2) al) (ho : aO.gN (S'.getD ((x.cnt + 1) % 2) al) < x.cnt)
    (hn : ∀ j, j < 8 → S'.getD (2 + j) al = S.getD (2 + j) al ∨ (aU.gN (S'.getD (2 + j) al) < x.next ∧ ∀ i, i < x.nts.length → (x.fst + i) % 8 ≠ j))
    (hr : ∀ p, x.pos ≤ p → p < x.head → S'.getD (10 + p % x.size) al = S.getD (10 + p % x.size) al) : OnD S' x A N where
  len := hl.trans h.len
  siz := h.siz
  own := h.own
  dev := h.dev
  lim := h.lim
  cnt := h.cnt
  fst := h.fst
  pos := h.pos
  mrk := hm.trans h.mrk
  oth := ho
  eig := h.eig
  use := h.use
  nts := fun i hi => by
    obtain ⟨h1, h2, h3⟩ := h.nts i hi
    refine ⟨h1, h2, ?_⟩
    rcases hn ((x.fst + i) % 8) (Nat.mod_lt _ (by omega)) with e | ⟨_, e⟩
    · rw [e]; exact h3
    · exact absurd rfl (e i hi)
  old := fun j hj => by
    rcases hn j hj with e | ⟨e, _⟩
    · rw [e]; exact h.old j hj
    · exact e
  rcd := fun i hi => by
    obtain ⟨h1, h2, h3, h4⟩ := h.rcd i hi
    refine ⟨h1, h2, h3, fun j hj => ?_⟩
    obtain ⟨n1, n2, n3⟩ := h.nts i hi
    have he := h.end_ hi
    have ht := (h.tak hi).1
    rw [hr _ (by omega) (by unfold LgS.head; omega)]
    exact h4 j hj
end
section
variable {S S' : List Blk} {x : LgS} {A : Nat → List Cl} {N left st : Nat} {cs : List Cl} {f : Nat}
theorem of_appQ (h : appQ x cs = 0) : recE cs = 0 ∧ x.nts.length < 8 ∧ (bE cs).length ≤ x.free := by
  unfold appQ at h
  by_cases h1 : recE cs = 0
  · rw [if_neg (by omega)] at h
    by_cases h2 : 8 ≤ x.nts.length ∨ x.free < (bE cs).length
    · rw [if_pos h2] at h; cases h
    · exact ⟨h1, by omega, by omega⟩
  · rw [if_pos h1] at h; omega
def upA (A : Nat → List Cl) (q : Nat) (cs : List Cl) : Nat → List Cl := fun p => if p = q then cs else A p
theorem upA_at : upA A f cs f = cs := if_pos rfl
theorem upA_off {q : Nat} (h : q ≠ f) : upA A f cs q = A q := if_neg h
theorem fg : aN (cF x cs) = (bE cs).length := by unfold aN cF; rw [bz]; simp
theorem eX {α : Type} {l : List α} {a d : α} {i : Nat} (h : i < l.length) : (l ++ [a]).getD i d = l.getD i d := by simp [List.getD, List.getElem?_append_left h]
theorem fa {α : Type} {l : List α} {a d : α} : (l ++ [a]).getD l.length d = a := by simp [List.getD]
theorem lgNt_fit (h : OnD S x A N) (hq : appQ x cs = 0) (hN : N + 1 ≤ 1000000) : aU.pE (cF x cs) = 0 ∧ (cF x cs).fit := by
  obtain ⟨q1, q2, q3⟩ := of_appQ hq
  obtain ⟨r1, r2, _⟩ := of_recE q1
  have hf := h.fst
  have hp := h.pos
  have hs := sumB_lt (bE cs)
  refine ⟨aU.pE_ok (decide_eq_true ⟨?_, ?_, ?_, ?_, ?_⟩), ?_, ?_, ?_⟩
  · show 1 ≤ x.next; unfold LgS.next; omega
  · show x.next ≤ _; omega
  · show x.head ≤ _; omega
  · show (1 : Int) ≤ (cs.length : Int); omega
  · show (cs.length : Int) ≤ 32; omega
  · show x.next < _; omega
  · show x.head < _; omega
  · exact hs
theorem OnD.app (h : OnD S x A N) (hq : appQ x cs = 0) (hN : N + 1 ≤ 1000000) (hl : S'.length = S.length) (h0 : ∀ j, j < 2 → S'.getD j al = S.getD j al)
    (hn : ∀ j, j < 8 → j ≠ x.next % 8 → S'.getD (2 + j) al = S.getD (2 + j) al) (hb : S'.getD (2 + x.next % 8) al = aU.pB (cF x cs))
    (hr : ∀ p, x.pos ≤ p → p < x.head → S'.getD (10 + p % x.size) al = S.getD (10 + p % x.size) al)
    (hw : ∀ i, i < (bE cs).length → S'.getD (10 + (x.head + i) % x.size) al = (bE cs).getD i al) : OnD S' (x.with_ (cF x cs)) (upA A x.next cs) (N + 1) := by
  obtain ⟨q1, q2, q3⟩ := of_appQ hq
  obtain ⟨r1, r2, _⟩ := of_recE q1
  obtain ⟨p1, p2⟩ := lgNt_fit h hq hN
  have hnx : x.next = x.fst + x.nts.length := rfl
  have hhd : x.head = x.pos + x.used := rfl
  have huse := h.use
  have hfr : x.free = x.size - x.used := rfl
  have hrl := bz cs
  have hhd2 : hd cs.length ≤ 2 := by unfold hd; omega
  have hc := h.cnt
  have hf := h.fst
  have hp := h.pos
  have hsz := h.siz
  refine ⟨hl.trans h.len, h.siz, h.own, h.dev, hN, ⟨hc.1, by show x.cnt ≤ _; omega⟩, ⟨hf.1, by rw [with_next]; omega⟩, ?_, (h0 _ (Nat.mod_lt _ (by omega))).trans h.mrk, ?_, ?_, ?_, ?_, ?_, ?_⟩
  · rw [with_head, fg]; omega
  · show aO.gN (S'.getD ((x.cnt + 1) % 2) al) < x.cnt
    rw [h0 _ (Nat.mod_lt _ (by omega))]; exact h.oth
  · show (x.nts ++ [cF x cs]).length ≤ 8
    rw [List.length_append, List.length_singleton]; omega
  · rw [with_used, fg]; show _ ≤ x.size; omega
  · intro i hi
    have hi' : i < x.nts.length + 1 := by have : i < (x.nts ++ [cF x cs]).length := hi; rwa [List.length_append, List.length_singleton] at this
    show ((x.nts ++ [cF x cs]).getD i aB).seq = x.fst + i ∧ ((x.nts ++ [cF x cs]).getD i aB).pos = x.pos + usd ((x.nts ++ [cF x cs]).take i) ∧ S'.getD (2 + (x.fst + i) % 8) al = aU.pB ((x.nts ++ [cF x cs]).getD i aB)
    by_cases e : i = x.nts.length
    · subst e
      rw [fa, List.take_append_of_le_length (Nat.le_refl _), List.take_length]
      exact ⟨rfl, rfl, hb⟩
    · have hlt : i < x.nts.length := by omega
      obtain ⟨n1, n2, n3⟩ := h.nts i hlt
      rw [eX hlt, List.take_append_of_le_length (by omega), hn _ (Nat.mod_lt _ (by omega)) (by omega)]
      exact ⟨n1, n2, n3⟩
  · intro j hj
    rw [with_next]
    by_cases e : j = x.next % 8
    · subst e
      rw [hb, aU.put_gN p2 p1]
      show x.next < _
      omega
    · rw [hn j hj e]
      have := h.old j hj
      omega
  · intro i hi
    have hi' : i < x.nts.length + 1 := by have : i < (x.nts ++ [cF x cs]).length := hi; rwa [List.length_append, List.length_singleton] at this
    show recE (upA A x.next cs (x.fst + i)) = 0 ∧ ((x.nts ++ [cF x cs]).getD i aB).cells = ((upA A x.next cs (x.fst + i)).length : Int) ∧ ((x.nts ++ [cF x cs]).getD i aB).sum = sumB (bE (upA A x.next cs (x.fst + i))) ∧
      ∀ j, j < (bE (upA A x.next cs (x.fst + i))).length → S'.getD (10 + (((x.nts ++ [cF x cs]).getD i aB).pos + j) % x.size) al = (bE (upA A x.next cs (x.fst + i))).getD j al
    by_cases e : i = x.nts.length
    · subst e
      rw [fa, ← hnx, upA_at]
      exact ⟨q1, rfl, rfl, hw⟩
    · have hlt : i < x.nts.length := by omega
      obtain ⟨n1, n2, n3⟩ := h.nts i hlt
      obtain ⟨c1, c2, c3, c4⟩ := h.rcd i hlt
      have he := h.end_ hlt
      have ht := (h.tak hlt).1
      rw [eX hlt, upA_off (by omega)]
      refine ⟨c1, c2, c3, fun j hj => ?_⟩
      rw [hr _ (by omega) (by omega)]
      exact c4 j hj
theorem Twn.app (h : OnD S x A N) (t : Twn S x) (hq : appQ x cs = 0) (hN : N + 1 ≤ 1000000) (h0 : ∀ j, j < 2 → S'.getD j al = S.getD j al)
    (hn : ∀ j, j < 8 → j ≠ x.next % 8 → S'.getD (2 + j) al = S.getD (2 + j) al) (hb : S'.getD (2 + x.next % 8) al = aU.pB (cF x cs)) : Twn S' (x.with_ (cF x cs)) := by
  obtain ⟨p1, p2⟩ := lgNt_fit h hq hN
  refine ⟨?_, fun j hj => ?_⟩
  · show cH (S'.getD ((x.cnt + 1) % 2) al).toList = agO (S'.getD ((x.cnt + 1) % 2) al).toList ∧ cH (S'.getD ((x.cnt + 1) % 2) al).toList < x.cnt
    rw [h0 _ (Nat.mod_lt _ (by omega))]
    exact t.mkk
  · rw [with_next]
    by_cases e : j = x.next % 8
    · subst e
      rw [hb]
      obtain ⟨e1, e2⟩ := aU.pB_num p1
      refine ⟨e2, ?_⟩
      rw [e1]
      show x.next < _
      omega
    · rw [hn j hj e]
      obtain ⟨e1, e2⟩ := t.nt j hj
      exact ⟨e1, by omega⟩
theorem drop_getD {α : Type} (l : List α) (g i : Nat) (d : α) : (l.drop g).getD i d = l.getD (g + i) d := by simp [List.getD, List.getElem?_drop]
theorem OnD.clr (h : OnD S x A N) (hq : clrQ x f = true) (hN : N + 1 ≤ 1000000) (hl : S'.length = S.length) (hm : S'.getD ((x.cnt + 1) % 2) al = aO.pB ⟨x.cnt + 1, ⟨x.own, (x.size : Int), f, x.at_ f⟩⟩)
    (ho : S'.getD (x.cnt % 2) al = S.getD (x.cnt % 2) al) (hr : ∀ j, 2 ≤ j → S'.getD j al = S.getD j al) : OnD S' (x.cut f) A (N + 1) := by
  obtain ⟨f1, f2⟩ := of_clrQ hq
  have hnx : x.next = x.fst + x.nts.length := rfl
  obtain ⟨g, rfl⟩ : ∃ g, f = x.fst + g := ⟨f - x.fst, by omega⟩
  have hg : x.fst + g - x.fst = g := by omega
  have hc := h.cnt
  have hf := h.fst
  have hp := h.pos
  have heig := h.eig
  have hcl : (x.cut (x.fst + g)).nts = x.nts.drop g := by unfold LgS.cut; simp only [hg]
  have hat : x.at_ (x.fst + g) = x.pos + usd (x.nts.take g) := by unfold LgS.at_; rw [hg]
  have husd : ∀ i, usd (x.nts.take (g + i)) = usd (x.nts.take g) + usd ((x.nts.drop g).take i) := fun i => by rw [List.take_add, fy]
  refine ⟨hl.trans h.len, h.siz, h.own, h.dev, hN, ⟨by show 1 ≤ x.cnt + 1; omega, by show x.cnt + 1 ≤ _; omega⟩, ⟨by show 1 ≤ x.fst + g; omega, by rw [cut_next hq]; omega⟩, by rw [cut_head hq]; omega, hm, ?_, ?_, Nat.le_trans (cut_used hq) h.use, ?_, ?_, ?_⟩
  · show aO.gN (S'.getD ((x.cnt + 1 + 1) % 2) al) < x.cnt + 1
    rw [show (x.cnt + 1 + 1) % 2 = x.cnt % 2 from by omega, ho]
    unfold Cod.gN
    rw [h.mark_got.2]
    show x.cnt < _
    omega
  · rw [hcl, List.length_drop]; omega
  · rw [hcl]
    intro i hi
    rw [List.length_drop] at hi
    have hlt : g + i < x.nts.length := by omega
    obtain ⟨n1, n2, n3⟩ := h.nts (g + i) hlt
    rw [drop_getD]
    refine ⟨by show _ = x.fst + g + i; omega, ?_, ?_⟩
    · show _ = x.at_ (x.fst + g) + _
      rw [n2, hat, husd]; omega
    · show S'.getD (2 + (x.fst + g + i) % 8) al = _
      rw [hr _ (by omega), show x.fst + g + i = x.fst + (g + i) from by omega]
      exact n3
  · intro j hj
    rw [hr _ (by omega), cut_next hq]
    exact h.old j hj
  · rw [hcl]
    intro i hi
    rw [List.length_drop] at hi
    have hlt : g + i < x.nts.length := by omega
    obtain ⟨c1, c2, c3, c4⟩ := h.rcd (g + i) hlt
    rw [drop_getD]
    show recE (A (x.fst + g + i)) = 0 ∧ _ = ((A (x.fst + g + i)).length : Int) ∧ _ = sumB (bE (A (x.fst + g + i))) ∧ ∀ j, j < (bE (A (x.fst + g + i))).length → S'.getD (10 + (_ + j) % x.size) al = (bE (A (x.fst + g + i))).getD j al
    rw [show x.fst + g + i = x.fst + (g + i) from by omega]
    refine ⟨c1, c2, c3, fun j hj => ?_⟩
    rw [hr _ (by omega)]
    exact c4 j hj
theorem Twn.clr (h : OnD S x A N) (t : Twn S x) (hq : clrQ x f = true) (hr : ∀ j, 2 ≤ j → S'.getD j al = S.getD j al) (ho : S'.getD (x.cnt % 2) al = S.getD (x.cnt % 2) al) : Twn S' (x.cut f) := by
  refine ⟨?_, fun j hj => ?_⟩
  · show cH (S'.getD ((x.cnt + 1 + 1) % 2) al).toList = agO (S'.getD ((x.cnt + 1 + 1) % 2) al).toList ∧ cH (S'.getD ((x.cnt + 1 + 1) % 2) al).toList < x.cnt + 1
    rw [show (x.cnt + 1 + 1) % 2 = x.cnt % 2 from by omega, ho, h.mrk]
    have hl := h.lim
    have hc := h.cnt
    have hf := h.fst
    have hp := h.pos
    have hn : x.next = x.fst + x.nts.length := rfl
    have hh : x.head = x.pos + x.used := rfl
    obtain ⟨e1, e2⟩ := aO.pB_num (h.mark_fit (c := x.cnt) (f := x.fst) (a := x.pos) (by omega) (by omega) (by omega)).1
    refine ⟨e2, ?_⟩
    rw [e1]
    show x.cnt < _
    omega
  · rw [hr _ (by omega), cut_next hq]
    exact t.nt j hj
end
section
variable {S : List Blk} {x : LgS} {A : Nat → List Cl} {N left st : Nat} {cs : List Cl} {f : Nat}
def appF (x : LgS) (cs : List Cl) (i : Nat) : Int × Blk := (bH x.size (x.head + i), (bE cs).getD i al)
theorem recT_eq : recT x.size x.head (bE cs) = (List.range (bE cs).length).map fun i => Stp.wr (appF x cs i).1 (appF x cs i).2 := rfl
theorem appT_len : (appT x cs).length = (bE cs).length + 3 := by unfold appT; rw [recT_eq]; simp
theorem appT_ok (h : OnD S x A N) : ∀ s ∈ appT x cs, s.okn S.length := by
  have hlen := h.len
  have hsz := h.siz
  intro s hs
  unfold appT at hs
  rcases List.mem_append.1 hs with hs | hs
  · obtain ⟨i, hi, rfl⟩ := eN hs
    have := Nat.mod_lt (x.head + i) (show 0 < x.size by omega)
    exact ⟨by unfold bH; omega, by unfold bH; omega⟩
  · simp only [List.mem_cons, List.not_mem_nil, or_false] at hs
    rcases hs with rfl | rfl | rfl
    · trivial
    · have := Nat.mod_lt x.next (show 0 < 8 by omega)
      exact ⟨by unfold cT; omega, by unfold cT; omega⟩
    · trivial
theorem app_off (h : OnD S x A N) (hq : appQ x cs = 0) {V : List (Int × Blk)} (hV : ∀ q ∈ V, ∃ i, i < (bE cs).length ∧ q.1 = bH x.size (x.head + i)) :
    (∀ j, j < 10 → ∀ q ∈ V, q.1.toNat ≠ j) ∧ ∀ p, x.pos ≤ p → p < x.head → ∀ q ∈ V, q.1.toNat ≠ 10 + p % x.size := by
  obtain ⟨_, _, q3⟩ := of_appQ hq
  have huse := h.use
  have hfr : x.free = x.size - x.used := rfl
  have hhd : x.head = x.pos + x.used := rfl
  constructor
  · intro j hj q hm
    obtain ⟨i, _, e⟩ := hV q hm
    rw [e, d7]
    omega
  · intro p h1 h2 q hm
    obtain ⟨i, hi, e⟩ := hV q hm
    rw [e, d7]
    have := mod_ne (r := x.size) (p := p) (q := x.head + i) (by omega) (by omega)
    omega
theorem app_in {k : Nat} (hk : k ≤ (bE cs).length) : ∀ q ∈ (List.range k).map (appF x cs), ∃ i, i < (bE cs).length ∧ q.1 = bH x.size (x.head + i) := by
  intro q hm
  obtain ⟨i, hi, rfl⟩ := eN hm
  exact ⟨i, by omega, rfl⟩
def appR (S : List Blk) (x : LgS) (cs : List Cl) : List Blk := flS S ((List.range (bE cs).length).map (appF x cs))
theorem appR_is (h : OnD S x A N) (hq : appQ x cs = 0) : (appR S x cs).length = S.length ∧ (∀ j, j < 10 → (appR S x cs).getD j al = S.getD j al) ∧
    (∀ p, x.pos ≤ p → p < x.head → (appR S x cs).getD (10 + p % x.size) al = S.getD (10 + p % x.size) al) ∧ ∀ i, i < (bE cs).length → (appR S x cs).getD (10 + (x.head + i) % x.size) al = (bE cs).getD i al := by
  obtain ⟨o1, o2⟩ := app_off h hq (app_in (x := x) (cs := cs) (Nat.le_refl _))
  obtain ⟨_, _, q3⟩ := of_appQ hq
  have huse := h.use
  have hfr : x.free = x.size - x.used := rfl
  have hsz := h.siz
  have hlen := h.len
  refine ⟨fq _ _, fun j hj => flS_off (o1 j hj) S, fun p h1 h2 => flS_off (o2 p h1 h2) S, fun i hi => ?_⟩
  have := flS_rng (appF x cs) S (bE cs).length (fun i hi => by
      show (bH x.size (x.head + i)).toNat < _
      rw [d7]
      have := Nat.mod_lt (x.head + i) (show 0 < x.size by omega)
      omega) (fun i j hi hj hne => by
      show (bH x.size (x.head + i)).toNat ≠ (bH x.size (x.head + j)).toNat
      rw [d7, d7]
      rcases Nat.lt_or_ge i j with hlt | hge
      · have := mod_ne (r := x.size) (p := x.head + i) (q := x.head + j) (by omega) (by omega)
        omega
      · have := mod_ne (r := x.size) (p := x.head + j) (q := x.head + i) (by omega) (by omega)
        omega) i hi
  rw [show (appF x cs i).1.toNat = 10 + (x.head + i) % x.size from d7 _ _] at this
  exact this
theorem app_aft (h : OnD S x A N) : aft (appT x cs) (S, []) = ((appR S x cs).set (2 + x.next % 8) (aU.pB (cF x cs)), []) := by
  unfold appT
  rw [aft_app, recT_eq, aft_wr, List.nil_append]
  show (flS (appR S x cs) [(cT x.next, aU.pB (cF x cs))], []) = _
  rfl
theorem app_done (h : OnD S x A N) (t : Twn S x) (hq : appQ x cs = 0) (hN : N + 1 ≤ 1000000) {S' : List Blk} (hl : S'.length = S.length) (hr : ∀ j, j ≠ 2 + x.next % 8 → S'.getD j al = (appR S x cs).getD j al) (hb : S'.getD (2 + x.next % 8) al = aU.pB (cF x cs)) :
    OnD S' (x.with_ (cF x cs)) (upA A x.next cs) (N + 1) ∧ Twn S' (x.with_ (cF x cs)) := by
  obtain ⟨_, r1, r2, r3⟩ := appR_is h hq
  have hm := Nat.mod_lt x.next (show 0 < 8 by omega)
  have a0 : ∀ j, j < 2 → S'.getD j al = S.getD j al := fun j hj => by rw [hr j (by omega), r1 j (by omega)]
  have a1 : ∀ j, j < 8 → j ≠ x.next % 8 → S'.getD (2 + j) al = S.getD (2 + j) al := fun j hj hne => by rw [hr _ (by omega), r1 _ (by omega)]
  exact ⟨h.app hq hN hl a0 a1 hb (fun p h1 h2 => by rw [hr _ (by omega), r2 p h1 h2]) (fun i hi => by rw [hr _ (by omega), r3 i hi]), Twn.app h t hq hN a0 a1 hb⟩
theorem app_same (h : OnD S x A N) (hq : appQ x cs = 0) {S' : List Blk} (hl : S'.length = S.length) (h0 : ∀ j, j < 10 → j ≠ 2 + x.next % 8 → S'.getD j al = S.getD j al) (hb : S'.getD (2 + x.next % 8) al = S.getD (2 + x.next % 8) al ∨ aU.gN (S'.getD (2 + x.next % 8) al) < x.next)
    (hr : ∀ p, x.pos ≤ p → p < x.head → S'.getD (10 + p % x.size) al = S.getD (10 + p % x.size) al) : OnD S' x A N := by
  obtain ⟨_, q2, _⟩ := of_appQ hq
  have hnx : x.next = x.fst + x.nts.length := rfl
  have h2 : ∀ a : Nat, a % 2 < 2 := fun a => Nat.mod_lt _ (by omega)
  refine h.keep hl (h0 _ (by have := h2 x.cnt; omega) (by have := h2 x.cnt; omega)) ?_ (fun j hj => ?_) hr
  · rw [h0 _ (by have := h2 (x.cnt + 1); omega) (by have := h2 (x.cnt + 1); omega)]
    exact h.oth
  · by_cases e : j = x.next % 8
    · subst e
      rcases hb with e | e
      · exact .inl e
      · exact .inr ⟨e, fun i hi => by omega⟩
    · exact .inl (h0 _ (by omega) (by omega))
theorem app_go (h : OnD S x A N) (t : Twn S x) (hq : appQ x cs = 0) (hN : N + 1 ≤ 1000000) :
    ((left = 0 ∨ (bE cs).length + 3 < left) ∧ appE (solo S [] left false st) x cs = 0 ∧ ∃ S', appB (solo S [] left false st) x cs = solo S' [] (left - ((bE cs).length + 3)) false (st + ((bE cs).length + 3)) ∧ OnD S' (x.with_ (cF x cs)) (upA A x.next cs) (N + 1) ∧ Twn S' (x.with_ (cF x cs))) ∨
    (1 ≤ left ∧ appE (solo S [] left false st) x cs = 8 ∧ ∃ S1 L1 st', appB (solo S [] left false st) x cs = solo S1 L1 1 true st' ∧ st' ≤ st + ((bE cs).length + 3) ∧ L1.length ≤ 40 ∧ ∀ P, OnD (crI S1 L1 P L1.length) x A N ∨ OnD (crI S1 L1 P L1.length) (x.with_ (cF x cs)) (upA A x.next cs) (N + 1)) := by
  obtain ⟨rl, r1, r2, r3⟩ := appR_is h hq
  obtain ⟨e0, _, _⟩ := of_appQ hq
  obtain ⟨c1, c2, _⟩ := of_recE e0
  have hrl := bz cs
  have hhd2 : hd cs.length ≤ 2 := by unfold hd; omega
  have hm := Nat.mod_lt x.next (show 0 < 8 by omega)
  have hlen := h.len
  have hsz := h.siz
  unfold appE appB
  rw [if_pos hq, if_pos hq, h.dev]
  rcases solo_go (appT x cs) S [] left st (appT_ok h) with ⟨g1, g2, g3⟩ | ⟨g1, g2, g3, g4⟩
  · left
    rw [appT_len] at g1 g3
    refine ⟨g1, g2, _, by rw [show ((0 : Nat) : Int) = 0 from rfl, g3, app_aft h], ?_⟩
    exact app_done h t hq hN (by rw [List.length_set, rl]) (fun j hj => bl hj) (cz (by rw [rl]; omega))
  · right
    rw [appT_len] at g2
    refine ⟨g1, g3, _, _, _, g4, by omega, ?_, ?_⟩
    · have hlw : ∀ (l : List Stp) (z : List Blk × List (Int × Blk)), (aft l z).2.length ≤ z.2.length + l.length := by
        intro l
        induction l with
        | nil => intro z; exact Nat.le_refl _
        | cons s l ih =>
          intro z
          cases s with
          | wr n b => have := ih (z.1, z.2 ++ [(n, b)]); rw [List.length_append] at this; rw [List.length_cons]; show (aft l _).2.length ≤ _; simp only [List.length_singleton] at this; omega
          | fl => have := ih (flS z.1 z.2, []); rw [List.length_cons]; show (aft l _).2.length ≤ _; simp only [List.length_nil] at this; omega
      have := hlw ((appT x cs).take (left - 1)) (S, [])
      rw [List.length_take] at this
      simp only [List.length_nil] at this
      have hal := appT_len (x := x) (cs := cs)
      omega
    · intro P
      have hn := bz cs
      by_cases k1 : left - 1 ≤ (bE cs).length
      ·
        have e : aft ((appT x cs).take (left - 1)) (S, []) = (S, (List.range (left - 1)).map (appF x cs)) := by
          unfold appT
          rw [List.take_append_of_le_length (by rw [recT_eq, List.length_map, List.length_range]; exact k1), recT_eq, ← List.map_take, List.take_range, Nat.min_eq_left k1, aft_wr, List.nil_append]
        rw [e]
        obtain ⟨o1, o2⟩ := app_off h hq (app_in (x := x) (cs := cs) k1)
        exact .inl (app_same h hq (crI_len _ _ _ _) (fun j hj _ => crI_keep (o1 j hj) _ (Nat.le_refl _)) (.inl (crI_keep (o1 _ (by omega)) _ (Nat.le_refl _))) (fun p h1 h2 => crI_keep (o2 p h1 h2) _ (Nat.le_refl _)))
      · by_cases k2 : left - 1 = (bE cs).length + 1
        · have e : aft ((appT x cs).take (left - 1)) (S, []) = (appR S x cs, []) := by
            unfold appT
            rw [List.take_append, k2, recT_eq, List.length_map, List.length_range, List.take_of_length_le (by rw [List.length_map, List.length_range]; omega), show (bE cs).length + 1 - (bE cs).length = 1 from by omega, aft_app, aft_wr, List.nil_append]
            rfl
          rw [e]
          exact .inl (app_same h hq rl (fun j hj _ => r1 j hj) (.inl (r1 _ (by omega))) r2)
        · have k3 : left - 1 = (bE cs).length + 2 := by omega
          have e : aft ((appT x cs).take (left - 1)) (S, []) = (appR S x cs, [(cT x.next, aU.pB (cF x cs))]) := by
            unfold appT
            rw [List.take_append, k3, recT_eq, List.length_map, List.length_range, List.take_of_length_le (by rw [List.length_map, List.length_range]; omega), show (bE cs).length + 2 - (bE cs).length = 2 from by omega, aft_app, aft_wr, List.nil_append]
            rfl
          rw [e]
          show OnD (crI (appR S x cs) [(cT x.next, aU.pB (cF x cs))] P 1) x A N ∨ OnD (crI (appR S x cs) [(cT x.next, aU.pB (cF x cs))] P 1) _ _ _
          rw [crI_one, show (cT x.next).toNat = 2 + x.next % 8 from by unfold cT; omega]
          obtain ⟨d, hd⟩ : ∃ d, torn ((appR S x cs).getD (2 + x.next % 8) al) (aU.pB (cF x cs)) (P.getD 0 0) = d := ⟨_, rfl⟩
          rw [hd]
          have hlt : 2 + x.next % 8 < (appR S x cs).length := by rw [rl]; omega
          have hat : ((appR S x cs).set (2 + x.next % 8) d).getD (2 + x.next % 8) al = d := cz hlt
          have hoff : ∀ j, j ≠ 2 + x.next % 8 → ((appR S x cs).set (2 + x.next % 8) d).getD j al = (appR S x cs).getD j al := fun j hj => bl hj
          obtain ⟨u1, u2⟩ := t.nt _ hm
          rw [r1 _ (by omega)] at hd
          rcases aU.torn_two (lgNt_fit h hq hN).1 u1 (by show _ ≠ x.next; omega) hd with e | e | e
          · right
            exact (app_done h t hq hN (by rw [List.length_set, rl]) hoff (by rw [hat, e])).1
          · left
            exact app_same h hq (by rw [List.length_set, rl]) (fun j hj hne => by rw [hoff j hne, r1 j hj]) (.inl (by rw [hat, e])) (fun p h1 h2 => by rw [hoff _ (by omega), r2 p h1 h2])
          · left
            exact app_same h hq (by rw [List.length_set, rl]) (fun j hj hne => by rw [hoff j hne, r1 j hj]) (.inr (by rw [hat, aU.gN_no e]; have := h.fst; unfold LgS.next; omega)) (fun p h1 h2 => by rw [hoff _ (by omega), r2 p h1 h2])
end
section
variable {S : List Blk} {x : LgS} {A : Nat → List Cl} {N left st : Nat} {f : Nat}
theorem clr_go (h : OnD S x A N) (t : Twn S x) (hq : clrQ x f = true) (hN : N + 1 ≤ 1000000) :
    ((left = 0 ∨ 2 < left) ∧ clrE (solo S [] left false st) x f = 0 ∧ ∃ S', clrB (solo S [] left false st) x f = solo S' [] (left - 2) false (st + 2) ∧ OnD S' (x.cut f) A (N + 1) ∧ Twn S' (x.cut f)) ∨
    (1 ≤ left ∧ clrE (solo S [] left false st) x f = 8 ∧ ∃ S1 L1 st', clrB (solo S [] left false st) x f = solo S1 L1 1 true st' ∧ st' ≤ st + 2 ∧ L1.length ≤ 40 ∧ ∀ P, OnD (crI S1 L1 P L1.length) x A N ∨ OnD (crI S1 L1 P L1.length) (x.cut f) A (N + 1)) := by
  obtain ⟨f1, f2⟩ := of_clrQ hq
  have hlen := h.len
  have hsz := h.siz
  have hl := h.lim
  have hc := h.cnt
  have hf := h.fst
  have hp := h.pos
  have hat : x.at_ f ≤ x.head := by
    unfold LgS.at_ LgS.head LgS.used
    have := ee x.nts (f - x.fst)
    omega
  have h2 : (x.cnt + 1) % 2 < 2 := Nat.mod_lt _ (by omega)
  have hne : x.cnt % 2 ≠ (x.cnt + 1) % 2 := by omega
  obtain ⟨p1, p2⟩ := h.mark_fit (c := x.cnt + 1) (f := f) (a := x.at_ f) (by omega) (by omega) (by omega)
  obtain ⟨mb, hmb⟩ : ∃ mb, aO.pB ⟨x.cnt + 1, ⟨x.own, (x.size : Int), f, x.at_ f⟩⟩ = mb := ⟨_, rfl⟩
  have hok : ∀ s ∈ mkT x.own x.size (x.cnt + 1) f (x.at_ f), s.okn S.length := by
    intro s hs
    unfold mkT at hs
    simp only [List.mem_cons, List.not_mem_nil, or_false] at hs
    rcases hs with rfl | rfl
    · exact ⟨by unfold eh; omega, by unfold eh; omega⟩
    · trivial
  unfold clrE clrB
  rw [if_pos hq, if_pos hq, h.dev, show ((0 : Nat) : Int) = 0 from rfl]
  have hlt : (x.cnt + 1) % 2 < S.length := by omega
  have hto : (eh (x.cnt + 1)).toNat = (x.cnt + 1) % 2 := by unfold eh; omega
  have done : ∀ d, d = mb → OnD (S.set ((x.cnt + 1) % 2) d) (x.cut f) A (N + 1) ∧ Twn (S.set ((x.cnt + 1) % 2) d) (x.cut f) := fun d e => by
    subst e
    exact ⟨h.clr hq hN (List.length_set ..) (by rw [cz hlt, hmb]) (bl hne) (fun j hj => bl (by omega)), Twn.clr h t hq (fun j hj => bl (by omega)) (bl hne)⟩
  rcases solo_go (mkT x.own x.size (x.cnt + 1) f (x.at_ f)) S [] left st hok with ⟨g1, g2, g3⟩ | ⟨g1, g2, g3, g4⟩
  · left
    refine ⟨g1, g2, S.set ((x.cnt + 1) % 2) mb, ?_, done mb rfl⟩
    rw [g3]
    show solo (flS S [(eh (x.cnt + 1), aO.pB _)]) [] _ _ _ = _
    rw [hmb]
    show solo (S.set (eh (x.cnt + 1)).toNat mb) [] _ _ _ = _
    rw [hto]
    rfl
  · right
    have g2' : left ≤ 2 := g2
    refine ⟨g1, g3, _, _, _, g4, by omega, ?_, ?_⟩
    · have : left - 1 = 0 ∨ left - 1 = 1 := by omega
      rcases this with e | e
      · rw [e]; exact Nat.zero_le _
      · rw [e]; show 1 ≤ 40; omega
    · intro P
      have : left - 1 = 0 ∨ left - 1 = 1 := by omega
      rcases this with e | e
      · rw [e]; exact .inl h
      · rw [e]
        show OnD (crI S [(eh (x.cnt + 1), aO.pB ⟨x.cnt + 1, ⟨x.own, (x.size : Int), f, x.at_ f⟩⟩)] P 1) x A N ∨ OnD (crI S [(eh (x.cnt + 1), aO.pB ⟨x.cnt + 1, ⟨x.own, (x.size : Int), f, x.at_ f⟩⟩)] P 1) _ _ _
        rw [crI_one, hto]
        obtain ⟨d, hd⟩ : ∃ d, torn (S.getD ((x.cnt + 1) % 2) al) (aO.pB ⟨x.cnt + 1, ⟨x.own, (x.size : Int), f, x.at_ f⟩⟩) (P.getD 0 0) = d := ⟨_, rfl⟩
        rw [hd]
        obtain ⟨u1, u2⟩ := t.mkk
        have same : aO.gN d < x.cnt → OnD (S.set ((x.cnt + 1) % 2) d) x A N := fun hg =>
          h.keep (List.length_set ..) (bl hne) (by rw [cz hlt]; exact hg) (fun j hj => .inl (bl (by omega))) (fun p _ _ => bl (by omega))
        rcases aO.torn_two p1 u1 (by show _ ≠ x.cnt + 1; omega) hd with e | e | e
        · exact .inr (done d (e.trans hmb)).1
        · left; refine same ?_; rw [e]; exact h.oth
        · left; refine same ?_; rw [aO.gN_no e]; omega
end
theorem zeroB_num : cH al.toList = agO al.toList ∧ cH al.toList = 0 := by decide
theorem lay_go (id r : Nat) (st : Nat) (hid : id ≠ 0 ∧ id < 18446744073709551616) (hr : 40 ≤ r ∧ r ≤ 256) (A : Nat → List Cl) :
    layE (solo (List.replicate (10 + r) al) [] 0 false st) 0 id (r : Int) = 0 ∧ ∃ S, layB (solo (List.replicate (10 + r) al) [] 0 false st) 0 id (r : Int) = solo S [] 0 false (st + 13) ∧ OnD S (layX 0 id (r : Int)) A 1 ∧ Twn S (layX 0 id (r : Int)) := by
  have hQ : layQ (solo (List.replicate (10 + r) al) [] 0 false st) 0 id (r : Int) = true := decide_eq_true ⟨solo_has _, hid.1, by omega, by omega, by rw [solo_se, List.length_replicate]; omega⟩
  have hok : ∀ s ∈ layT id (r : Int), s.okn (List.replicate (10 + r) al).length := by
    rw [List.length_replicate]
    intro s hs
    unfold layT at hs
    rcases List.mem_append.1 hs with hs | hs
    · obtain ⟨i, hi, rfl⟩ := eN hs
      exact ⟨by omega, by omega⟩
    · unfold mkT at hs
      simp only [List.mem_cons, List.not_mem_nil, or_false] at hs
      rcases hs with rfl | rfl | rfl
      · trivial
      · exact ⟨by unfold eh; omega, by unfold eh; omega⟩
      · trivial
  unfold layE layB
  rw [if_pos hQ, if_pos hQ]
  rcases solo_go (layT id (r : Int)) _ [] 0 st hok with ⟨g1, g2, g3⟩ | ⟨g1, _⟩
  · refine ⟨g2, ?_⟩
    obtain ⟨Z, hZ⟩ : ∃ Z, flS (List.replicate (10 + r) al) ((List.range 10).map fun (i : Nat) => ((i : Int), al)) = Z := ⟨_, rfl⟩
    have hZl : Z.length = 10 + r := by rw [← hZ, fq, List.length_replicate]
    have hZz : ∀ j, Z.getD j al = al := fun j => by
      rw [← hZ]
      refine flS_zero (fun q hq => ?_) _ (by simp [List.getD, List.getElem?_replicate]; split <;> rfl)
      obtain ⟨i, _, rfl⟩ := eN hq
      rfl
    obtain ⟨mb, hmb⟩ : ∃ mb, aO.pB ⟨1, ⟨id, (r : Int), 1, 0⟩⟩ = mb := ⟨_, rfl⟩
    have ha : aft (layT id (r : Int)) (List.replicate (10 + r) al, []) = (Z.set 1 mb, []) := by
      unfold layT
      rw [aft_app]
      have : aft zerT (List.replicate (10 + r) al, []) = (List.replicate (10 + r) al, (List.range 10).map fun (i : Nat) => ((i : Int), al)) := by
        have := aft_wr (fun (i : Nat) => ((i : Int), al)) 10 (List.replicate (10 + r) al, [])
        rw [List.nil_append] at this
        exact this
      rw [this]
      show (flS (flS _ _) [(eh 1, aO.pB ⟨1, ⟨id, (((r : Int).toNat : Nat) : Int), 1, 0⟩⟩)], []) = _
      rw [hZ, Int.toNat_natCast, hmb]
      rfl
    rw [ha] at g3
    have hat : (Z.set 1 mb).getD 1 al = mb := cz (by omega)
    have hoff : ∀ j, j ≠ 1 → (Z.set 1 mb).getD j al = al := fun j hj => (bl hj).trans (hZz j)
    have gz : aO.gN al = 0 := aO.gN_no (by rw [aO.g_zero]; omega)
    have gz2 : aU.gN al = 0 := aU.gN_no (by rw [aU.g_zero]; omega)
    refine ⟨Z.set 1 mb, g3, ?_, ?_⟩
    · refine ⟨by rw [List.length_set, hZl]; rfl, by show 40 ≤ (r : Int).toNat ∧ _; rw [Int.toNat_natCast]; exact hr, hid, rfl, by omega, ⟨Nat.le_refl _, Nat.le_refl _⟩, ⟨Nat.le_refl _, Nat.le_refl _⟩, ?_, ?_, ?_, by show 0 ≤ 8; omega, ?_, fun i hi => absurd hi (by show ¬ i < 0; omega), fun j hj => ?_, fun i hi => absurd hi (by show ¬ i < 0; omega)⟩
      · show 0 + 0 ≤ _; omega
      · show (Z.set 1 mb).getD 1 al = aO.pB ⟨1, ⟨id, (((r : Int).toNat : Nat) : Int), 1, 0⟩⟩
        rw [hat, Int.toNat_natCast, hmb]
      · rw [show ((layX 0 id (r : Int)).cnt + 1) % 2 = 0 from (by show (1 + 1) % 2 = 0; decide), hoff 0 (by omega), gz]
        exact Nat.zero_lt_one
      · show 0 ≤ _; omega
      · rw [hoff _ (by omega), gz2]; show 0 < 1; omega
    · obtain ⟨z1, z2⟩ := zeroB_num
      refine ⟨?_, fun j hj => ?_⟩
      · rw [show ((layX 0 id (r : Int)).cnt + 1) % 2 = 0 from (by show (1 + 1) % 2 = 0; decide), hoff 0 (by omega)]
        exact ⟨z1, by rw [z2]; exact Nat.zero_lt_one⟩
      · rw [hoff _ (by omega)]
        exact ⟨z1, by show _ < 1; omega⟩
  · omega
theorem room_stp {d : Int} {M : BenS} {k : Nat} (h : Room M (k + 1)) (s : Stp) : Room (stpS d M s) k := by
  cases s with
  | wr n b => exact room_wr h d n b
  | fl => exact room_fl h d
end Go.Proofs.YtcafafdimcecpaaGreatDoor
