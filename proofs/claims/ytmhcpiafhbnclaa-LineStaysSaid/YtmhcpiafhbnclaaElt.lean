/-
  Rows of elements of whatever type, each of a fixed number of cells: a slice that reads as a list, a row of the call's own, append, a cell's address. An element's type is handed in ('Elt').
-/
import Derived.Test.YtmhcpiafhbnclaaReg
import Derived.Laws.AppendOwn
import Derived.Laws.OwnMore
namespace Go.Proofs.Ytmhcpiafhbnclaa
open Go.RowKit
set_option maxRecDepth 100000
set_option linter.unusedVariables false

/-- A type of elements: the slice's type and its element's, how many cells, which, and what lies in room that no one filled. -/
structure Elt (α : Type) where
  s : TypeId
  t : TypeId
  n : Nat
  by_ : Nat
  cel : α → List Value
  d : α
  z : Value
  pos : 0 < n
  small : by_ ≤ 4096
  len : ∀ a, (cel a).length = n
  one : ∀ a, ∀ v ∈ cel a, v.oneCell' = true
  und : Try.prog.underlying s = some (.slice t)
  info : (Try.prog.info? t).map (fun i => (i.zero, i.size, i.bytes)) = some (some z, n, by_)
  zc : z.cells.size = n

section
variable {α : Type} (E : Elt α)
/-- The cells of elements, one behind the other. -/
def flatE (l : List α) : List Value := l.flatMap E.cel
theorem flatE_cons (x : α) (l : List α) : flatE E (x :: l) = E.cel x ++ flatE E l := rfl
theorem flatE_append (a b : List α) : flatE E (a ++ b) = flatE E a ++ flatE E b := by simp [flatE]
theorem flatE_length (l : List α) : (flatE E l).length = l.length * E.n := by
  induction l with
  | nil => simp [flatE]
  | cons x l ih => rw [flatE_cons, List.length_append, E.len, ih, List.length_cons, Nat.add_mul]; omega
theorem flatE_at (l : List α) {k j : Nat} (hk : k < l.length) (hj : j < E.n) : (flatE E l)[k * E.n + j]? = (E.cel (l.getD k E.d))[j]? := by
  induction l generalizing k with
  | nil => simp at hk
  | cons x l ih =>
    rw [flatE_cons]
    cases k with
    | zero => rw [Nat.zero_mul, Nat.zero_add, List.getElem?_append_left (by rw [E.len]; exact hj)]; rfl
    | succ k =>
      have e : (k + 1) * E.n + j - E.n = k * E.n + j := by rw [Nat.add_mul]; omega
      rw [List.getElem?_append_right (by rw [E.len, Nat.add_mul]; omega), E.len, e, ih (by simpa using hk)]
      rfl
theorem flatE_one (l : List α) : ∀ v ∈ flatE E l, v.oneCell' = true := by
  intro v hv
  simp only [flatE, List.mem_flatMap] at hv
  obtain ⟨b, _, hb⟩ := hv
  exact E.one b v hb

/-- The slice of address A and length n reads as the list l; it lies below block B. -/
def RdE (w : World) (B : Nat) (A : Option Addr) (n : Nat) (l : List α) : Prop :=
  l.length = n ∧ ∀ k, k < n → ∃ b off, A = some ⟨b, off, none⟩ ∧ b < B ∧ w.rangeAt b (off + k * E.n) (E.cel (l.getD k E.d))
/-- A row that the call made: block g holds just the list's elements (in its first cells), none frozen. -/
def MadeE (w : World) (base : Nat) (v : Value) (l : List α) : Prop := w.ownsRow base E.t E.n v l.length (flatE E l)
end
section
variable {w w' : World} {b o B : Nat} {cs : List Value}
theorem rng_below (h : w.rangeAt b o cs) (hb : b < B) (hw : Below B w w') : w'.rangeAt b o cs := fun j v hj => by
  rw [hw.cell (p := ⟨b, o + j, none⟩) hb]; exact h j v hj
end
section
variable {α : Type} {E : Elt α} {w w' : World} {B B' n : Nat} {A : Option Addr} {l : List α} {v : Value}
theorem RdE.nil (w : World) (B : Nat) (A : Option Addr) : RdE E w B A 0 [] := ⟨rfl, fun k hk => absurd hk (by omega)⟩
theorem RdE.more (h : RdE E w B A n l) (hB : B ≤ B') : RdE E w B' A n l :=
  ⟨h.1, fun k hn => by
    obtain ⟨b, off, e, hb, hc⟩ := h.2 k hn
    exact ⟨b, off, e, by omega, hc⟩⟩
theorem RdE.below (h : RdE E w B A n l) (hb : Below B w w') : RdE E w' B A n l :=
  ⟨h.1, fun k hn => by
    obtain ⟨b, off, e, hlt, hc⟩ := h.2 k hn
    exact ⟨b, off, e, hlt, rng_below hc hlt hb⟩⟩
theorem RdE.step (h : RdE E w w.heap.size A n l) (hb : Below w.heap.size w w') : RdE E w' w'.heap.size A n l := (h.below hb).more hb.size
theorem RdE.alloc (h : RdE E w B A n l) (hN : B ≤ w.heap.size) (o : Obj) : RdE E (w.alloc o) B A n l := h.below ((Below.refl B w).alloc hN o)
theorem RdE.over {o : Obj} (h : RdE E w w.heap.size A n l) (hb : Below (w.heap.size + 1) (w.alloc o) w') : RdE E w' w'.heap.size A n l := h.step (over_alloc hb)
theorem RdE.up (h : RdE E w w.heap.size A n l) (o : Obj) : RdE E (w.alloc o) (w.heap.size + 1) A n l := (h.alloc (Nat.le_refl _) o).more (by omega)
/-- Cells that lie in a block from offset o on read as elements. -/
theorem rdE_of {g o : Nat} (hg : g < B) (h : ∀ j v, (flatE E l)[j]? = some v → w.cell? ⟨g, o + j, none⟩ = some v) : RdE E w B (some ⟨g, o, none⟩) l.length l :=
  ⟨rfl, fun k hk => ⟨g, o, rfl, hg, fun j v hj => by
    have hlt : j < E.n := by have := (List.getElem?_eq_some_iff.1 hj).1; rwa [E.len] at this
    rw [show o + k * E.n + j = o + (k * E.n + j) from by omega]
    exact h _ v (by rw [flatE_at E l hk hlt]; exact hj)⟩⟩
theorem rdE_block {g : Nat} {cs : Array Value} {t : TypeId} (hg : w.heap[g]? = some (.cells cs t (0, 0))) (h : cs.toList = flatE E l) (hB : g < B) : RdE E w B (some ⟨g, 0, none⟩) l.length l :=
  rdE_of hB fun j v hj => by
    rw [cell_of_row _ _ (0 + j) cs t (0, 0) hg, Nat.zero_add, ← Array.getElem?_toList, h]
    exact hj
theorem rdE_new (w : World) (cs : Array Value) (t : TypeId) (h : cs.toList = flatE E l) : RdE E (w.alloc (.cells cs t)) (w.heap.size + 1) (some ⟨w.heap.size, 0, none⟩) l.length l :=
  rdE_block (heap_alloc_new w _) h (by omega)
theorem cells_of_rdE {N : Nat} {ad : Addr} (h : RdE E w N (some ad) n l) : ∀ (j : Nat) (u : Value), (flatE E l)[j]? = some u → w.cell? (ad.add j) = some u := by
  intro j u hu
  have hj : j < l.length * E.n := by have := (List.getElem?_eq_some_iff.1 hu).1; rwa [flatE_length] at this
  have hk : j / E.n < l.length := Nat.div_lt_of_lt_mul (by rw [Nat.mul_comm]; exact hj)
  have hr : j % E.n < E.n := Nat.mod_lt _ E.pos
  have hd : j / E.n * E.n + j % E.n = j := Nat.div_add_mod' j E.n
  obtain ⟨b, off, e, _, hc⟩ := h.2 (j / E.n) (by have := h.1; omega)
  injection e with e
  subst e
  have hadd : (⟨b, off, none⟩ : Addr).add j = ⟨b, off + j, none⟩ := by unfold Addr.add; split <;> simp_all
  rw [hadd]
  have h2 := flatE_at E l hk (j := j % E.n) hr
  rw [hd, hu] at h2
  have h3 := hc (j % E.n) u h2.symm
  rwa [Nat.add_assoc, hd] at h3

theorem MadeE.nil (w : World) (B : Nat) : MadeE E w B (.slice none 0 0) [] := ⟨by simp [flatE], .inl ⟨rfl, rfl⟩⟩
theorem MadeE.form (h : MadeE E w B v l) : ∃ A c, v = .slice A l.length c ∧ l.length ≤ c ∧ c ≤ maxLen := by
  rcases h.2 with ⟨rfl, h0⟩ | ⟨g, cap, cur, rfl, _, _, h1, h2, _⟩
  · exact ⟨none, 0, by rw [h0], by omega, by simp [maxLen]⟩
  · exact ⟨_, cap, rfl, h1, h2⟩
theorem MadeE.rd {c : Nat} (h : MadeE E w B (.slice A n c) l) : RdE E w w.heap.size A n l := by
  rcases h.2 with ⟨hv, h0⟩ | ⟨g, cap, cur, hv, _, hg, _, _, _, ht⟩
  · have hl : l = [] := List.eq_nil_of_length_eq_zero h0
    subst hl
    injection hv with h1 h2 h3
    subst h2
    exact RdE.nil _ _ _
  · injection hv with h1 h2 h3
    subst h1 h2 h3
    refine rdE_of (Array.getElem?_eq_some_iff.1 hg).1 fun j u hu => ?_
    rw [cell_of_row w g (0 + j) cur E.t (0, 0) hg, Nat.zero_add]
    have hj : j < l.length * E.n := by have := (List.getElem?_eq_some_iff.1 hu).1; rwa [flatE_length] at this
    rw [← ht, List.getElem?_take_of_lt hj] at hu
    simpa using hu
theorem MadeE.below (h : MadeE E w B v l) (hb : Below w.heap.size w w') : MadeE E w' B v l := by
  refine ⟨h.1, ?_⟩
  rcases h.2 with hn | ⟨g, cap, cur, rfl, hbg, hg, rest⟩
  · exact .inl hn
  · exact .inr ⟨g, cap, cur, rfl, hbg, by rw [hb.block g (Array.getElem?_eq_some_iff.1 hg).1]; exact hg, rest⟩
theorem MadeE.base (h : MadeE E w B v l) (hb : B' ≤ B) : MadeE E w B' v l := by
  refine ⟨h.1, ?_⟩
  rcases h.2 with hn | ⟨g, cap, cur, rfl, hbg, rest⟩
  · exact .inl hn
  · exact .inr ⟨g, cap, cur, rfl, Nat.le_trans hb hbg, rest⟩
theorem MadeE.open_ (h : MadeE E w B v l) (hn : l.length = n) : ∃ A c, v = .slice A n c ∧ RdE E w w.heap.size A n l ∧ n ≤ c ∧ c ≤ maxLen := by
  subst hn
  obtain ⟨A, c, rfl, h1, h2⟩ := h.form
  exact ⟨A, c, rfl, h.rd, h1, h2⟩
theorem MadeE.lt_own (h : MadeE E w B v l) : ∀ k, v.ownBlock = some k → B ≤ k := by
  intro k hk
  rcases h.2 with ⟨rfl, _⟩ | ⟨g, cap, cur, rfl, hbg, _⟩
  · simp [Value.ownBlock] at hk
  · simp [Value.ownBlock] at hk; omega
/-- A block that holds the elements' cells and no more is a row of the call's own. -/
theorem MadeE.of_block {g : Nat} {cs : Array Value} (hg : w.heap[g]? = some (.cells cs E.t (0, 0))) (h : cs.toList = flatE E l) (hB : B ≤ g) (hl : l.length = n) (hm : n ≤ maxLen) : MadeE E w B (.slice (some ⟨g, 0, none⟩) n n) l := by
  subst hl
  have hsz : cs.size = l.length * E.n := by rw [← Array.length_toList, h, flatE_length]
  refine ⟨flatE_length E l, .inr ⟨g, l.length, cs, rfl, hB, hg, Nat.le_refl _, hm, hsz, ?_⟩⟩
  rw [h, List.take_of_length_le (by rw [flatE_length]; exact Nat.le_refl _)]
end

theorem MadeE.other {α β : Type} {E : Elt α} {E' : Elt β} {w : World} {B B' : Nat} {v v' : Value} {l : List α} {l' : List β} (h : MadeE E w B v l) (h' : MadeE E' w B' v' l') (hne : E.t ≠ E'.t) : v.ownBlock = none ∨ v.ownBlock ≠ v'.ownBlock := by
  rcases h.2 with ⟨rfl, _⟩ | ⟨g, cap, cur, rfl, _, hg, _⟩
  · exact .inl rfl
  · rcases h'.2 with ⟨rfl, _⟩ | ⟨g', cap', cur', rfl, _, hg', _⟩
    · exact .inr (by simp [Value.ownBlock])
    · refine .inr fun e => ?_
      simp [Value.ownBlock] at e
      subst e
      rw [hg] at hg'
      simp at hg'
      exact hne hg'.2
theorem MadeE.kept {α : Type} {E : Elt α} {w w' : World} {B : Nat} {v : Value} {l : List α} {row : Option Nat} (h : MadeE E w B v l) (hg : w.grownBy w' row) (hne : v.ownBlock = none ∨ v.ownBlock ≠ row) : MadeE E w' B v l := World.ownsRow.kept h hg hne
theorem run_appEw {α : Type} (E : Elt α) (w : World) (ty B N m c : Nat) (v : Value) (l l' : List α) (A : Option Addr) (hm : MadeE E w B v l) (hr : RdE E w N A m l') (hB : B ≤ w.heap.size) (hml : l.length + m ≤ maxLen) (hby : (l.length + m) * E.by_ ≤ 140737488355328) :
    ∃ v' w', (Builtin.append_ #[E.s, E.s] ty #[v, .slice A m c]).run Try.prog w = .ok v' w' ∧ MadeE E w' B v' (l ++ l') ∧ w.grownBy w' v.ownBlock := by
  obtain ⟨i0, hi, hz0, hz1, hz2⟩ := info_parts E.info
  rcases A with _ | ad
  · have h0 : m = 0 := by
      rcases Nat.eq_zero_or_pos m with h | h
      · exact h
      · obtain ⟨b, off, e, _⟩ := hr.2 0 h
        cases e
    subst h0
    have hn : l' = [] := List.eq_nil_of_length_eq_zero hr.1
    subst hn
    refine ⟨v, w, ?_, by rw [List.append_nil]; exact hm, World.grownBy.refl w _⟩
    rcases hm.2 with ⟨rfl, _⟩ | ⟨g, cap, cur, rfl, _, _, hnc, _⟩
    · simp [Builtin.append_, run_underlying E.und, sizeOf, typeInfo, hi, Builtin.lenOf, Builtin.firstCells]
    · simp [Builtin.append_, run_underlying E.und, sizeOf, typeInfo, hi, Builtin.lenOf, Builtin.firstCells, hnc, storeCells]
  · obtain ⟨v', w', h1, h2, h3, _⟩ := run_append_own (P := Try.prog) w B E.s ty E.t i0 E.z E.n E.by_ E.und hi hz0 hz1 hz2 E.zc E.pos v l.length _ hm ad m c (flatE E l')
      (by rw [flatE_length, hr.1]) (cells_of_rdE hr) (flatE_one E l') hml hby hB
    refine ⟨v', w', h1, ?_, h3⟩
    unfold MadeE
    rw [flatE_append, List.length_append, hr.1]
    exact h2

theorem run_appE {α : Type} (E : Elt α) (w : World) (ty B N m c : Nat) (v : Value) (l l' : List α) (A : Option Addr) (hm : MadeE E w B v l) (hr : RdE E w N A m l') (hB : B ≤ w.heap.size) (hsum : l.length + m ≤ 34359738368) :
    ∃ v' w', (Builtin.append_ #[E.s, E.s] ty #[v, .slice A m c]).run Try.prog w = .ok v' w' ∧ MadeE E w' B v' (l ++ l') ∧ w.grownBy w' v.ownBlock :=
  run_appEw E w ty B N m c v l l' A hm hr hB (by unfold maxLen; omega) (Nat.le_trans (Nat.mul_le_mul hsum E.small) (by omega))

theorem wpList_appE {α : Type} (E : Elt α) {w : World} {ops : Array Oper} {rest : List Oper} {o : Oper} {a : Act} {Q : Exit → Act → World → Prop} (hgd : o.guard = none) (s x : Operand)
    (ho : o.op = .call { callee := .builtin .append, args := #[s, x], argTypes := #[E.s, E.s] })
    (B N m c : Nat) (v : Value) (l l' : List α) (A : Option Addr) (hs : a.eval s = v) (hx : a.eval x = .slice A m c) (hm : MadeE E w B v l) (hr : RdE E w N A m l') (hB : B ≤ w.heap.size) (hsum : l.length + m ≤ 34359738368)
    (h : ∀ v' w', MadeE E w' B v' (l ++ l') → w.grownBy w' v.ownBlock → wpList Try.prog ops Q rest (a.put o.dst v') w') : wpList Try.prog ops Q (o :: rest) a w := by
  refine wpList_plain hgd fun K hK => ?_
  obtain ⟨v', w', hrun, h1, h2⟩ := run_appE E w o.type B N m c v l l' A hm hr hB hsum
  unfold Oper.wp
  simp [execOp, ho, resolve, invoke, builtin, hs, hx, hrun, Result.andThen]
  exact hK _ _ (h v' w' h1 h2)
theorem wpList_appEw {α : Type} (E : Elt α) {w : World} {ops : Array Oper} {rest : List Oper} {o : Oper} {a : Act} {Q : Exit → Act → World → Prop} (hgd : o.guard = none) (s x : Operand)
    (ho : o.op = .call { callee := .builtin .append, args := #[s, x], argTypes := #[E.s, E.s] })
    (B N m c : Nat) (v : Value) (l l' : List α) (A : Option Addr) (hs : a.eval s = v) (hx : a.eval x = .slice A m c) (hm : MadeE E w B v l) (hr : RdE E w N A m l') (hB : B ≤ w.heap.size) (hml : l.length + m ≤ maxLen) (hby : (l.length + m) * E.by_ ≤ 140737488355328)
    (h : ∀ v' w', MadeE E w' B v' (l ++ l') → w.grownBy w' v.ownBlock → wpList Try.prog ops Q rest (a.put o.dst v') w') : wpList Try.prog ops Q (o :: rest) a w := by
  refine wpList_plain hgd fun K hK => ?_
  obtain ⟨v', w', hrun, h1, h2⟩ := run_appEw E w o.type B N m c v l l' A hm hr hB hml hby
  unfold Oper.wp
  simp [execOp, ho, resolve, invoke, builtin, hs, hx, hrun, Result.andThen]
  exact hK _ _ (h v' w' h1 h2)
end Go.Proofs.Ytmhcpiafhbnclaa
