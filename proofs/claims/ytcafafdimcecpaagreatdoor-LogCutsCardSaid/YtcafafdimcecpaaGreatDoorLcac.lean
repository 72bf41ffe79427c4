import Derived.Test.YtcafafdimcecpaaGreatDoorLcab
import Derived.Test.YtcafafdimcecpaaGreatDoorLcZ
namespace Go.Proofs.YtcafafdimcecpaaGreatDoor
open Go.RowKit
set_option maxRecDepth 100000
set_option linter.unusedVariables false
def ch (w : World) (g : Nat) (bs : List Blk) : Prop := w.heap[g]? = some (.cells (flat bs).toArray 65 (0, 0))
theorem flat_split {bs : List Blk} {k : Nat} (hk : k < bs.length) : flat bs = flat (bs.take k) ++ (cel (bs.getD k al) ++ flat (bs.drop (k + 1))) := by
  have h1 : bs = bs.take k ++ (bs.getD k al :: bs.drop (k + 1)) := by
    rw [List.getD, List.getElem?_eq_getElem hk, Option.getD_some, List.getElem_cons_drop, List.take_append_drop]
  conv => lhs; rw [h1]
  rw [flat_append, fy]
theorem flat_set {bs : List Blk} {k : Nat} (hk : k < bs.length) (c : Blk) : flat (bs.set k c) = flat (bs.take k) ++ (cel c ++ flat (bs.drop (k + 1))) := by
  have h2 : bs.set k c = bs.take k ++ (c :: bs.drop (k + 1)) := List.set_eq_take_append_cons_drop.trans (by rw [if_pos hk])
  rw [h2, flat_append, fy]
theorem heap_write (g : Nat) (t : TypeId) (post : List Value) : ∀ (vs mid pre : List Value) (w : World), mid.length = vs.length → w.heap[g]? = some (.cells (pre ++ mid ++ post).toArray t (0, 0)) →
    (w.setCells g pre.length vs).heap[g]? = some (.cells (pre ++ vs ++ post).toArray t (0, 0))
  | [], mid, pre, w, h, hg => by
    have : mid = [] := List.eq_nil_of_length_eq_zero h
    subst this
    exact hg
  | v :: vs, mid, pre, w, h, hg => by
    match mid, h with
    | m :: ms, h =>
      rw [World.setCells]
      have h1 := heap_setCell_same w g pre.length _ t v hg
      have hset : (pre ++ m :: ms ++ post).toArray.setIfInBounds pre.length v = ((pre ++ [v]) ++ ms ++ post).toArray := by
        rw [List.setIfInBounds_toArray]
        congr 1
        rw [List.append_assoc, List.set_append_right _ _ (by simp), Nat.sub_self]
        simp
      rw [hset] at h1
      have := heap_write g t post vs ms (pre ++ [v]) _ (by simpa using h) h1
      rw [List.length_append, List.length_singleton] at this
      rw [this]
      simp
section
variable {w w' : World} {g k B : Nat} {bs : List Blk} {c : Blk}
theorem ch.lt (h : ch w g bs) : g < w.heap.size := (Array.getElem?_eq_some_iff.1 h).1
theorem ch.of_block (h : ch w g bs) (e : w'.heap[g]? = w.heap[g]?) : ch w' g bs := e.trans h
theorem ch.below (h : ch w g bs) (hb : Below w.heap.size w w') : ch w' g bs := h.of_block (hb.block g h.lt)
theorem ch.store (h : ch w g bs) (hk : k < bs.length) (c : Blk) : ch (w.setCells g (k * 64) (cel c)) g (bs.set k c) := by
  unfold ch at *
  rw [flat_split hk, ← List.append_assoc] at h
  have := heap_write g _ (flat (bs.drop (k + 1))) (cel c) _ _ w (by rw [ax, ax]) h
  rw [ej, List.length_take, Nat.min_eq_left (by omega)] at this
  rw [this, flat_set hk, List.append_assoc]
theorem ch.cell (h : ch w g bs) (j : Nat) : w.cell? ⟨g, j, none⟩ = (flat bs)[j]? := by
  rw [cell_of_row w g j _ _ (0, 0) h]
  simp
theorem ch.frozen (h : ch w g bs) (j : Nat) : w.frozen? ⟨g, j, none⟩ = false := frozen_of_row w g j _ _ h
theorem ch.byteAt (h : ch w g bs) (hk : k < bs.length) {r : Nat} (hr : r < 64) : w.cell? ⟨g, k * 64 + r, none⟩ = some (.int .u8 (byt (bs.getD k al) r)) := by
  rw [h.cell, flat_at bs hk hr, dX _ hr]
theorem ch.there (h : ch w g bs) (hk : k < bs.length) : w.there g (k * 64) 64 := fun j hj => ⟨by rw [h.byteAt hk hj]; rfl, h.frozen _⟩
theorem ch.rd (h : ch w g bs) (m : Nat) (hm : m ≤ bs.length) : RdB w w.heap.size (some ⟨g, 0, none⟩) m (bs.take m) := by
  have : RdB w w.heap.size (some ⟨g, 0, none⟩) bs.length bs := rdB_of h.lt fun j v hj => by rw [Nat.zero_add, h.cell]; exact hj
  exact this.head hm
end
section
variable {ρ : Operand → Value} {o : Oper} {x y : Operand} {w : World} {n : Nat}
theorem exec_make (ho : o.op = .makeSlice 112 x y) (hx : ρ x = .int .i64 (n : Int)) (hy : ρ y = .int .i64 (n : Int)) (hn : n ≤ 4398046511104) :
    (execOp ρ o).run Tryz.prog w = .ok (.value (.slice (some ⟨w.heap.size, 0, none⟩) n n)) (w.alloc (.cells (madeCells (cel al).toArray (n * 64)) 65)) := by
  obtain ⟨i0, hi, hz0, hz1, hz2⟩ := info_parts infoB
  have hr := run_make (P := Tryz.prog) w 112 65 i0 (blk al) underS hi hz0 .i64 .i64 n n (by omega) (Int.le_refl _) (by rw [hz2]; omega) (by omega)
  rw [hz1, d9] at hr
  simp only [Int.toNat_natCast] at hr
  unfold execOp
  simp only [ho, hx, hy, Sem.run_bind, hr, Result.andThen_ok, Sem.run_pure]
end
theorem flat_zeros (n : Nat) : (flat (List.replicate n al)).toArray = madeCells (cel al).toArray (n * 64) := by
  apply Array.ext
  · rw [size_madeCells, List.size_toArray, ej, List.length_replicate]
  · intro j h1 h2
    rw [size_madeCells] at h2
    have hk : j / 64 < (List.replicate n al).length := by rw [List.length_replicate]; omega
    have := flat_at (List.replicate n al) hk (j := j % 64) (by omega)
    rw [show j / 64 * 64 + j % 64 = j from by omega] at this
    have hz : (List.replicate n al).getD (j / 64) al = al := by
      rw [List.getD, List.getElem?_replicate]
      split <;> rfl
    rw [hz, dX al (by omega)] at this
    have hc := dX al (j := j % 64) (by omega)
    have e1 : (flat (List.replicate n al)).toArray[j] = .int .u8 (byt al (j % 64)) := by
      rw [List.getElem?_eq_getElem (by simpa using h1)] at this
      simpa using this
    have e2 : (madeCells (cel al).toArray (n * 64))[j]'(by rw [size_madeCells]; exact h2) = .int .u8 (byt al (j % 64)) := by
      have hj : j % 64 < (cel al).length := by rw [ax]; omega
      rw [List.getElem?_eq_getElem hj] at hc
      simp only [madeCells, Array.getElem_map, Array.getElem_range, List.size_toArray, ax]
      rw [getElem!_pos (cel al).toArray (j % 64) (by simpa using hj)]
      simpa using hc
    rw [e1, e2]
theorem holdsB_made (w : World) (n : Nat) : ch (w.alloc (.cells (madeCells (cel al).toArray (n * 64)) 65)) w.heap.size (List.replicate n al) := by
  unfold ch
  rw [heap_alloc_new, flat_zeros]
def four_ (w : World) (a b c d : Blk) : World := (((w.alloc (.cells (cel a).toArray 65)).alloc (.cells (cel b).toArray 65)).alloc (.cells (cel c).toArray 65)).alloc (.cells (cel d).toArray 65)
theorem laid4 (w : World) (a b c d : Blk) : (four_ w a b c d).rangeAt w.heap.size 0 (cel a) ∧ (four_ w a b c d).rangeAt (w.heap.size + 1) 0 (cel b) ∧ (four_ w a b c d).there (w.heap.size + 1 + 1) 0 64 ∧
    (four_ w a b c d).rowIs (w.heap.size + 1 + 1 + 1) 65 64 (fun j => .int .u8 (byt d j)) ∧ Below w.heap.size w (four_ w a b c d) := by
  unfold four_
  have e1 := World.size_alloc (w := w) (o := Obj.cells (cel a).toArray 65)
  have e2 := World.size_alloc (w := (w.alloc (.cells (cel a).toArray 65))) (o := Obj.cells (cel b).toArray 65)
  have e3 := World.size_alloc (w := (w.alloc (.cells (cel a).toArray 65)).alloc (.cells (cel b).toArray 65)) (o := Obj.cells (cel c).toArray 65)
  refine ⟨World.rangeAt_alloc (World.rangeAt_alloc (World.rangeAt_alloc (b7 w (cel a) _) _) _) _, ?_, ?_, ?_, ?_⟩
  · rw [← e1]; exact World.rangeAt_alloc (World.rangeAt_alloc (b7 _ (cel b) _) _) _
  · rw [← e1, ← e2]; exact World.there_alloc (db _ c _) _
  · rw [← e1, ← e2, ← e3]; exact row_new _ d _
  · exact ((((Below.refl _ w).alloc (Nat.le_refl _) _).alloc (by omega) _).alloc (by omega) _).alloc (by omega) _
def torn (old now : Blk) (n : Int) : Blk := Vector.ofFn fun i => if (i.val : Int) < n then now[i] else old[i]
theorem torn_get (old now : Blk) (n : Int) (i : Nat) (h : i < 64) : (torn old now n)[i] = if (i : Int) < n then now[i] else old[i] := by simp [torn]
theorem dY (old now : Blk) (n : Int) {i : Nat} (h : i < 64) : byt (torn old now n) i = if (i : Int) < n then byt now i else byt old i := by
  rw [eR _ h, torn_get _ _ _ _ h]
  split
  · rw [eR _ h]
  · rw [eR _ h]
section
variable {α : Type} {E : Elt α} {w w' : World} {B p : Nat} {v : Value} {l : List α} {F : Nat → Prop}
theorem aA.only (h : aA E w B v l) (k : Only F w w') (hn : ∀ b, v.ownBlock = some b → ¬ F b) : aA E w' B v l := by
  refine ⟨h.1, ?_⟩
  rcases h.2 with hn' | ⟨g, cap, cur, rfl, hbg, hg, rest⟩
  · exact .inl hn'
  · exact .inr ⟨g, cap, cur, rfl, hbg, (k.block g (Array.getElem?_eq_some_iff.1 hg).1 (hn g rfl)).trans hg, rest⟩
theorem aA.own_lt (h : aA E w B v l) : ∀ b, v.ownBlock = some b → b < w.heap.size := by
  intro b hb
  rcases h.2 with ⟨rfl, _⟩ | ⟨g, cap, cur, rfl, _, hg, _⟩
  · simp [Value.ownBlock] at hb
  · simp [Value.ownBlock] at hb; subst hb; exact (Array.getElem?_eq_some_iff.1 hg).1
theorem aA.cq (h : aA E w B v l) {cs : Array Value} {t : TypeId} {fr : Nat × Nat} (hp : w.heap[p]? = some (.cells cs t fr)) (ht : E.t ≠ t) : v.ownBlock ≠ some p := by
  intro e
  rcases h.2 with ⟨rfl, _⟩ | ⟨g, cap, cur, rfl, _, hg, _⟩
  · simp [Value.ownBlock] at e
  · simp [Value.ownBlock] at e
    subst e
    rw [hp] at hg
    simp at hg
    exact ht hg.2.1.symm
end
def foot (p : Nat) (vS vL : Value) (k : Nat) : Prop := k = p ∨ vS.ownBlock = some k ∨ vL.ownBlock = some k
def ce (S : List Blk) (g : Bool) (n : Int) : Int := if 0 ≤ n ∧ n < S.length then (if g = true then 9 else 0) else 2
theorem askE_out {S : List Blk} {n : Int} (g : Bool) (h : ¬(0 ≤ n ∧ n < S.length)) : ce S g n = 2 := by unfold ce; rw [if_neg h]
theorem askE_dead {S : List Blk} {n : Int} (h : 0 ≤ n ∧ n < S.length) : ce S true n = 9 := by unfold ce; rw [if_pos h]; rfl
theorem fq {S : List Blk} {n : Int} (h : 0 ≤ n ∧ n < S.length) : ce S false n = 0 := by unfold ce; rw [if_pos h]; rfl
def sureB (S : List Blk) (g : Bool) (n : Int) : Blk := if ce S g n = 0 then S.getD n.toNat al else al
theorem sureB_no {S : List Blk} {g : Bool} {n : Int} (h : ce S g n ≠ 0) : sureB S g n = al := by unfold sureB; rw [if_neg h]
theorem sureB_ok {S : List Blk} {g : Bool} {k : Nat} (h : ce S g (k : Int) = 0) : sureB S g (k : Int) = S.getD k al := by unfold sureB; rw [if_pos h]; rfl
theorem dU {S : List Blk} {g : Bool} {n : Int} : ce S g n = 2 ∨ ce S g n = 9 ∨ (ce S g n = 0 ∧ g = false ∧ ∃ k : Nat, n = k ∧ k < S.length) := by
  unfold ce
  split
  · rename_i h
    cases g
    · exact .inr (.inr ⟨rfl, rfl, n.toNat, by omega, by omega⟩)
    · exact .inr (.inl rfl)
  · exact .inl rfl
def lastW (L : List (Int × Blk)) (n : Int) (b : Blk) : Blk := L.foldl (fun b q => if q.1 = n then q.2 else b) b
theorem lastW_succ {L : List (Int × Blk)} {i : Nat} (n : Int) (b : Blk) (hi : i < L.length) : lastW (L.take (i + 1)) n b = if (L.getD i (0, al)).1 = n then (L.getD i (0, al)).2 else lastW (L.take i) n b := by
  rw [List.take_add_one, List.getD, List.getElem?_eq_getElem hi]
  simp only [lastW, Option.toList_some, List.foldl_append, List.foldl_cons, List.foldl_nil, Option.getD_some]
def ed (S : List Blk) (L : List (Int × Blk)) (g : Bool) (n : Int) : Blk := if ce S g n = 0 then lastW L n (S.getD n.toNat al) else al
theorem readB_no {S : List Blk} {L : List (Int × Blk)} {g : Bool} {n : Int} (h : ce S g n ≠ 0) : ed S L g n = al := by unfold ed; rw [if_neg h]
theorem readB_ok {S : List Blk} {L : List (Int × Blk)} {g : Bool} {k : Nat} (h : ce S g (k : Int) = 0) : ed S L g (k : Int) = lastW L k (S.getD k al) := by unfold ed; rw [if_pos h]; rfl
section
variable {w w' : World} {p : Nat} {vS vL : Value} {S : List Blk} {L : List (Int × Blk)} {g : Bool}
theorem ct (w : World) (p i : Nat) (v : Value) : Only (fun b => b = p) w (w.setCell ⟨p, i, none⟩ v) := (Only.refl (fun b => b = p) w).setCell (p := ⟨p, i, none⟩) (.inl rfl) v
theorem ldB {a : Addr} {A : Option Addr} {n c : Nat} (h : w.cell? a = some (.slice A n c)) : (Instr.loadAt 112 (.pointer (some a))).run Tryz.prog w = .ok (.slice A n c) w := by simp [go_sem, h]
end
def wrL (S : List Blk) (L : List (Int × Blk)) (g : Bool) (n : Int) (b : Blk) : List (Int × Blk) := if ce S g n = 0 then L ++ [(n, b)] else L
theorem du {α : Type} {E : Elt α} {ρ : Operand → Value} {o : Oper} {x y : Operand} {w : World} {b n c j : Nat} (ho : o.op = .indexAddr E.s x y) (hx : ρ x = .slice (some ⟨b, 0, none⟩) n c) (hy : ρ y = .int .i64 (j : Int)) (hj : j < n) : (execOp ρ o).run Tryz.prog w = .ok (.value (.pointer (some ⟨b, j * E.n, none⟩))) w := by
  have := a8 (E := E) (ρ := ρ) (w := w) ho hx hy hj
  rwa [Nat.zero_add] at this
theorem aA.slice {α : Type} {E : Elt α} {w : World} {B n : Nat} {v : Value} {l : List α} (h : aA E w B v l) (hn : l.length = n) (hl : 0 < n) : ∃ g c, v = .slice (some ⟨g, 0, none⟩) n c := by
  subst hn
  rcases h.2 with ⟨_, h0⟩ | ⟨g, cap, cur, rfl, _⟩
  · omega
  · exact ⟨g, cap, rfl⟩
section
variable {w : World} {p b off gg n c k : Nat} {vL : Value} {S : List Blk} {L : List (Int × Blk)} {g : Bool}
theorem ldI {a : Addr} {x : Int} (h : w.cell? a = some (.int .i64 x)) : (Instr.loadAt 3 (.pointer (some a))).run Tryz.prog w = .ok (.int .i64 x) w := by simp [go_sem, h]
end
def flS (S : List Blk) (L : List (Int × Blk)) : List Blk := L.foldl (fun S q => S.set q.1.toNat q.2) S
theorem fu (S : List Blk) (L : List (Int × Blk)) : (flS S L).length = S.length := by
  unfold flS
  induction L generalizing S with
  | nil => rfl
  | cons q L ih => rw [List.foldl_cons, ih, List.length_set]
theorem flS_succ {S : List Blk} {L : List (Int × Blk)} {i : Nat} (hi : i < L.length) : flS S (L.take (i + 1)) = (flS S (L.take i)).set (L.getD i (0, al)).1.toNat (L.getD i (0, al)).2 := by
  rw [List.take_add_one, List.getD, List.getElem?_eq_getElem hi]
  simp only [flS, Option.toList_some, List.foldl_append, List.foldl_cons, List.foldl_nil, Option.getD_some]
def Fit (S : List Blk) (L : List (Int × Blk)) : Prop := ∀ q ∈ L, 0 ≤ q.1 ∧ q.1 < S.length
theorem Fit.at_ {S : List Blk} {L : List (Int × Blk)} (h : Fit S L) {i : Nat} (hi : i < L.length) : ∃ k : Nat, (L.getD i (0, al)).1 = k ∧ k < S.length := by
  have := h _ (List.getElem_mem hi)
  refine ⟨(L.getD i (0, al)).1.toNat, ?_, ?_⟩
  · simp only [List.getD, List.getElem?_eq_getElem hi, Option.getD_some]; omega
  · simp only [List.getD, List.getElem?_eq_getElem hi, Option.getD_some]; omega
def crI (S : List Blk) (L : List (Int × Blk)) (P : List Int) : Nat → List Blk
  | 0 => S
  | i + 1 => (crI S L P i).set (L.getD i (0, al)).1.toNat (torn ((crI S L P i).getD (L.getD i (0, al)).1.toNat al) (L.getD i (0, al)).2 (P.getD i 0))
theorem crI_len (S : List Blk) (L : List (Int × Blk)) (P : List Int) (i : Nat) : (crI S L P i).length = S.length := by
  induction i with
  | zero => rfl
  | succ i ih => rw [crI, List.length_set, ih]
theorem exec_xor8 {ρ : Operand → Value} {o : Oper} {x y : Operand} {w : World} {t r : TypeId} {a b : UInt8} (ho : o.op = .binOp .xor t x y r) (hx : ρ x = .int .u8 (a.toNat : Int)) (hy : ρ y = .int .u8 (b.toNat : Int)) : (execOp ρ o).run Tryz.prog w = .ok (.value (.int .u8 ((a ^^^ b).toNat : Int))) w := by
  have h : bits .xor .u8 (a.toNat : Int) (b.toNat : Int) = ((a ^^^ b).toNat : Int) := by
    rw [u8_xor_nat _ _ (UInt8.toNat_lt _) (UInt8.toNat_lt _)]
    simp
  unfold execOp
  simp [ho, hx, hy, eqGuard, binOp, Op.intBits]
  simpa [bits] using h
theorem fx {ρ : Operand → Value} {o : Oper} {x y : Operand} {w : World} {b n c j : Nat} (ho : o.op = .indexAddr 112 x y) (hx : ρ x = .slice (some ⟨b, 0, none⟩) n c) (hy : ρ y = .int .i64 (j : Int)) (hj : j < n) : (execOp ρ o).run Tryz.prog w = .ok (.value (.pointer (some ⟨b, j * 64, none⟩))) w := du (E := BlkE) ho hx hy hj
section
variable {w : World} {p b off gg n c k i : Nat} {vL : Value} {S : List Blk} {L : List (Int × Blk)} {g : Bool}
theorem run_ixB (hi : i < 64) : (Instr.indexAt 65 (.pointer (some ⟨b, off, none⟩)) (.int .i64 (i : Int))).run Tryz.prog w = .ok (.pointer (some ⟨b, off + i, none⟩)) w := by
  simp [Instr.indexAt, asIntOf, run_underlying undB, Instr.sureAddr, add_mid, Tryz.sizeOf5, hi]
theorem ldU {a : Addr} {x : Int} (h : w.cell? a = some (.int .u8 x)) : (Instr.loadAt 5 (.pointer (some a))).run Tryz.prog w = .ok (.int .u8 x) w := by simp [go_sem, h]
def rotB (y : Blk) (i : Nat) (u : UInt8) : Blk := if h : i < 64 then y.set i (y[i] ^^^ u) else y
end
def rotE (S : List Blk) (g : Bool) (n i : Int) : Int := if 0 ≤ n ∧ n < S.length ∧ 0 ≤ i ∧ i < 64 then (if g = true then 9 else 0) else 2
def rotS (S : List Blk) (g : Bool) (n i : Int) (u : UInt8) : List Blk := if rotE S g n i = 0 then S.set n.toNat (rotB (S.getD n.toNat al) i.toNat u) else S
def Grow (w : World) (F F' : Nat → Prop) : Prop := ∀ b, F' b → F b ∨ w.heap.size ≤ b
section
variable {w w' : World} {F G : Nat → Prop} {p : Nat} {S : List Blk} {L : List (Int × Blk)} {g : Bool}
theorem Grow.same (w : World) (F : Nat → Prop) : Grow w F F := fun _ h => .inl h
end
theorem Fit.nil (S : List Blk) : Fit S [] := fun q h => by cases h
theorem Fit.wr {S : List Blk} {L : List (Int × Blk)} (g : Bool) (n : Int) (b : Blk) (h : Fit S L) : Fit S (wrL S L g n b) := by
  unfold wrL
  split
  · rename_i he
    rcases dU (S := S) (g := g) (n := n) with h1 | h1 | ⟨_, rfl, k, rfl, hk⟩
    · omega
    · omega
    · intro q hq
      rcases List.mem_append.1 hq with hq | hq
      · exact h q hq
      · simp at hq; subst hq; exact ⟨by simp, by simpa using hk⟩
  · exact h
theorem Fit.len {S S' : List Blk} {L : List (Int × Blk)} (h : Fit S L) (e : S'.length = S.length) : Fit S' L := fun q hq => by rw [e]; exact h q hq
theorem rotS_len (S : List Blk) (g : Bool) (n i : Int) (u : UInt8) : (rotS S g n i u).length = S.length := by
  unfold rotS; split
  · rw [List.length_set]
  · rfl
structure Dev where
  Dv : World → (Nat → Prop) → Nat → List Blk → List (Int × Blk) → Bool → Prop
  lt : ∀ {w F p S L g}, Dv w F p S L g → ∀ b, F b → b < w.heap.size
  only : ∀ {w w' F G p S L g}, Dv w F p S L g → Only G w w' → (∀ b, F b → ¬ G b) → Dv w' F p S L g
  fit : ∀ {w F p S L g}, Dv w F p S L g → Fit S L ∧ 1 ≤ S.length
  cap : ∀ {w F p S L g}, Dv w F p S L g → S.length ≤ 512
  new_ok : ∀ (k : Nat) (w : World), 1 ≤ k → k ≤ 512 → Calls Tryz.prog 103 #[.int .i64 k] w fun e w' => ∃ p F, e = .returned (.tuple #[.pointer (some ⟨p, 0, none⟩), .int .i64 0]) ∧ Dv w' F p (List.replicate k al) [] false ∧ Below w.heap.size w w' ∧ ∀ b, F b → w.heap.size ≤ b
  new_no : ∀ (n : Int) (w : World), ¬(1 ≤ n ∧ n ≤ 512) → Calls Tryz.prog 103 #[.int .i64 n] w fun e w' => e = .returned (.tuple #[.pointer none, .int .i64 2]) ∧ Below w.heap.size w w'
  read : ∀ {w F p S L g} (n : Int), Dv w F p S L g → Calls Tryz.prog 175 #[.pointer (some ⟨p, 0, none⟩), .int .i64 n] w fun e w' => e = .returned (.tuple #[blk (ed S L g n), .int .i64 (ce S g n)]) ∧ Below w.heap.size w w'
  sure : ∀ {w F p S L g} (n : Int), Dv w F p S L g → Calls Tryz.prog 79 #[.pointer (some ⟨p, 0, none⟩), .int .i64 n] w fun e w' => e = .returned (.tuple #[blk (sureB S g n), .int .i64 (ce S g n)]) ∧ Below w.heap.size w w'
  write : ∀ {w F p S L g} (n : Int) (b : Blk), L.length < 1000000 → Dv w F p S L g → Calls Tryz.prog 82 #[.pointer (some ⟨p, 0, none⟩), .int .i64 n, blk b] w fun e w' => e = .returned (.int .i64 (ce S g n)) ∧ ∃ F', Dv w' F' p S (wrL S L g n b) g ∧ Only F w w' ∧ Grow w F F'
  flush : ∀ {w F p S L g}, Dv w F p S L g → Calls Tryz.prog 165 #[.pointer (some ⟨p, 0, none⟩)] w fun e w' => e = .returned (.int .i64 (if g = true then 9 else 0)) ∧ ∃ F', Dv w' F' p (if g = true then S else flS S L) (if g = true then L else []) g ∧ Only F w w' ∧ Grow w F F'
  fail : ∀ {w F p S L g}, Dv w F p S L g → Calls Tryz.prog 109 #[.pointer (some ⟨p, 0, none⟩)] w fun e w' => e = .returned (.int .i64 0) ∧ ∃ F', Dv w' F' p S [] true ∧ Only F w w' ∧ Grow w F F'
  rot : ∀ {w F p S L g} (n i : Int) (u : UInt8), Dv w F p S L g → Calls Tryz.prog 100 #[.pointer (some ⟨p, 0, none⟩), .int .i64 n, .int .i64 i, .int .u8 (u.toNat : Int)] w fun e w' => e = .returned (.int .i64 (rotE S g n i)) ∧ ∃ F', Dv w' F' p (rotS S g n i u) L g ∧ Only F w w' ∧ Grow w F F'
  crash : ∀ {w F p S L g A n c P}, RdE dq w w.heap.size A n P → n ≤ c → c ≤ maxLen → (∀ x, A = some x → 0 < n → ¬ F x.block) → Dv w F p S L g → Calls Tryz.prog 69 #[.pointer (some ⟨p, 0, none⟩), .slice A n c] w fun e w' => e = .returned (.tuple #[.int .i64 ((min L.length n : Nat) : Int), .int .i64 0]) ∧ ∃ F', Dv w' F' p (crI S L P L.length) [] g ∧ Only F w w' ∧ Grow w F F'
  dead : ∀ {w F p S L g}, Dv w F p S L g → Calls Tryz.prog 111 #[.pointer (some ⟨p, 0, none⟩)] w fun e w' => e = .returned (.bool g) ∧ Below w.heap.size w w'
  eD : ∀ {w F p S L g}, Dv w F p S L g → Calls Tryz.prog 112 #[.pointer (some ⟨p, 0, none⟩)] w fun e w' => e = .returned (.int .i64 (S.length : Int)) ∧ Below w.heap.size w w'
theorem Dev.below (D : Dev) {w w' : World} {F : Nat → Prop} {p : Nat} {S : List Blk} {L : List (Int × Blk)} {g : Bool} (h : D.Dv w F p S L g) (k : Below w.heap.size w w') : D.Dv w' F p S L g := D.only h (Only.of_below (fun _ => False) k) fun _ _ e => e
theorem Grow.above {w : World} {F F' : Nat → Prop} {B : Nat} (h : Grow w F F') (hF : ∀ b, F b → B ≤ b) (hB : B ≤ w.heap.size) : ∀ b, F' b → B ≤ b := fun b hb => by
  rcases h b hb with e | e
  · exact hF b e
  · omega
structure DevS where
  S : List Blk
  L : List (Int × Blk)
  g : Bool
structure BenS where
  ds : List DevS
  left : Nat
  bY : Bool
  steps : Nat
def bp : DevS := ⟨[], [], false⟩
def BenS.dev (M : BenS) (d : Int) : DevS := M.ds.getD d.toNat bp
theorem BenS.dev_nat (M : BenS) (k : Nat) : M.dev (k : Int) = M.ds.getD k bp := rfl
def dx (M : BenS) (d : Int) : Int := if 0 ≤ d ∧ d < M.ds.length then 0 else 2
def cN (M : BenS) (d : Int) : Int := if M.bY = true then 8 else dx M d
theorem dF (M : BenS) (d : Int) : (dx M d = 2 ∧ ¬(0 ≤ d ∧ d < M.ds.length)) ∨ (dx M d = 0 ∧ ∃ k : Nat, d = k ∧ k < M.ds.length) := by
  unfold dx
  by_cases h : 0 ≤ d ∧ d < M.ds.length
  · rw [if_pos h]; exact .inr ⟨rfl, d.toNat, by omega, by omega⟩
  · rw [if_neg h]; exact .inl ⟨rfl, h⟩
theorem hasE_ok {M : BenS} {k : Nat} (h : k < M.ds.length) : dx M (k : Int) = 0 := by unfold dx; rw [if_pos (by omega)]
theorem litE_dark {M : BenS} {d : Int} (h : M.bY = true) : cN M d = 8 := by unfold cN; rw [if_pos h]
theorem litE_light {M : BenS} {d : Int} (h : M.bY = false) : cN M d = dx M d := by unfold cN; rw [if_neg (by rw [h]; decide)]
theorem cG (M : BenS) (d : Int) : (cN M d = 8 ∧ M.bY = true) ∨ (cN M d = 2 ∧ M.bY = false ∧ ¬(0 ≤ d ∧ d < M.ds.length)) ∨ (cN M d = 0 ∧ M.bY = false ∧ ∃ k : Nat, d = k ∧ k < M.ds.length) := by
  cases h : M.bY
  · rw [litE_light h]
    rcases dF M d with ⟨e, h1⟩ | ⟨e, h1⟩
    · exact .inr (.inl ⟨e, rfl, h1⟩)
    · exact .inr (.inr ⟨e, rfl, h1⟩)
  · exact .inl ⟨litE_dark h, rfl⟩
theorem litE_ok {M : BenS} {k : Nat} (hd : M.bY = false) (h : k < M.ds.length) : cN M (k : Int) = 0 := by rw [litE_light hd, hasE_ok h]
def BenS.put (M : BenS) (k : Nat) (x : DevS) : BenS := { M with ds := M.ds.set k x }
def BenS.dB (M : BenS) : Int := if M.left = 1 then 8 else 0
def BenS.done (M : BenS) : BenS := { M with left := M.left - 1, steps := M.steps + 1 }
def BenS.night (M : BenS) : BenS := { M with bY := true }
def bX (M : BenS) (d n : Int) : Int := if cN M d = 0 then ce (M.dev d).S (M.dev d).g n else cN M d
def cC (M : BenS) (d n : Int) : Blk := if cN M d = 0 then ed (M.dev d).S (M.dev d).L (M.dev d).g n else al
def suE6 (M : BenS) (d n : Int) : Int := if dx M d = 0 then ce (M.dev d).S (M.dev d).g n else dx M d
def suB6 (M : BenS) (d n : Int) : Blk := if dx M d = 0 then sureB (M.dev d).S (M.dev d).g n else al
def wrE6 (M : BenS) (d n : Int) : Int := if bX M d n = 0 then M.dB else bX M d n
def wrS6 (M : BenS) (d n : Int) (b : Blk) : BenS := if bX M d n = 0 then (if M.left = 1 then M.night else M.done.put d.toNat ⟨(M.dev d).S, wrL (M.dev d).S (M.dev d).L (M.dev d).g n b, (M.dev d).g⟩) else M
def flA6 (M : BenS) (d : Int) : Int := if cN M d = 0 then (if (M.dev d).g = true then 9 else 0) else cN M d
def flE6 (M : BenS) (d : Int) : Int := if flA6 M d = 0 then M.dB else flA6 M d
def flS6 (M : BenS) (d : Int) : BenS := if flA6 M d = 0 then (if M.left = 1 then M.night else M.done.put d.toNat ⟨flS (M.dev d).S (M.dev d).L, [], (M.dev d).g⟩) else M
def faS6 (M : BenS) (d : Int) : BenS := if dx M d = 0 then M.put d.toNat ⟨(M.dev d).S, [], true⟩ else M
def inE6 (M : BenS) (d : Int) : Int := if cN M d = 0 then (if (M.dev d).g = true then 0 else 17) else cN M d
def inS6 (M : BenS) (d : Int) : BenS := if inE6 M d = 0 then M.put d.toNat ⟨List.replicate (M.dev d).S.length al, [], false⟩ else M
def arE6 (M : BenS) (n : Int) : Int := if M.bY = true then 8 else if n < 0 then 2 else 0
def arS6 (M : BenS) (n : Int) : BenS := if arE6 M n = 0 then { M with left := n.toNat } else M
def roE6 (M : BenS) (d n i : Int) : Int := if dx M d = 0 then rotE (M.dev d).S (M.dev d).g n i else dx M d
def roS6 (M : BenS) (d n i : Int) (u : UInt8) : BenS := if dx M d = 0 then M.put d.toNat ⟨rotS (M.dev d).S (M.dev d).g n i u, (M.dev d).L, (M.dev d).g⟩ else M
def crAll : List DevS → List Int → List DevS
  | [], _ => []
  | d :: ds, P => ⟨crI d.S d.L P d.L.length, [], d.g⟩ :: crAll ds (P.drop (min d.L.length P.length))
def crS6 (M : BenS) (P : List Int) : BenS := ⟨crAll M.ds P, 0, false, M.steps⟩
def ca (M : BenS) (d : Int) : Int := if dx M d = 0 then ((M.dev d).S.length : Int) else 0
def newS6 (ks : List Int) : BenS := ⟨ks.map fun k => ⟨List.replicate k.toNat al, [], false⟩, 0, false, 0⟩
def newOk (ks : List Int) : Prop := 1 ≤ ks.length ∧ ks.length ≤ 17 ∧ ∀ k ∈ ks, 1 ≤ k ∧ k ≤ 512
def cX : List DevS → List Int → Nat → List DevS × List Int
  | ds, P, 0 => (ds, P)
  | [], P, _ + 1 => ([], P)
  | d :: ds, P, i + 1 => (⟨crI d.S d.L P d.L.length, [], d.g⟩ :: (cX ds (P.drop (min d.L.length P.length)) i).1, (cX ds (P.drop (min d.L.length P.length)) i).2)
theorem fj : ∀ (i : Nat) (ds : List DevS) (P : List Int), (cX ds P i).1.length = ds.length
  | 0, ds, P => by simp [cX]
  | i + 1, [], P => rfl
  | i + 1, d :: ds, P => by simp [cX, fj i]
theorem crIn_all : ∀ (ds : List DevS) (P : List Int), (cX ds P ds.length).1 = crAll ds P
  | [], P => by simp [cX, crAll]
  | d :: ds, P => by simp [cX, crAll, crIn_all ds]
theorem crIn_off : ∀ (i : Nat) (ds : List DevS) (P : List Int) (j : Nat), i ≤ j → (cX ds P i).1.getD j bp = ds.getD j bp
  | 0, ds, P, j, h => by simp [cX]
  | i + 1, [], P, j, h => rfl
  | i + 1, d :: ds, P, 0, h => by omega
  | i + 1, d :: ds, P, j + 1, h => by simpa [cX] using crIn_off i ds _ j (by omega)
theorem crIn_succ : ∀ (i : Nat) (ds : List DevS) (P : List Int), i < ds.length →
    (cX ds P (i + 1)).1 = (cX ds P i).1.set i ⟨crI (ds.getD i bp).S (ds.getD i bp).L (cX ds P i).2 (ds.getD i bp).L.length, [], (ds.getD i bp).g⟩ ∧
    (cX ds P (i + 1)).2 = (cX ds P i).2.drop (min (ds.getD i bp).L.length (cX ds P i).2.length)
  | 0, [], P, h => by simp at h
  | 0, d :: ds, P, h => by simp [cX]
  | i + 1, [], P, h => by simp at h
  | i + 1, d :: ds, P, h => by
    obtain ⟨h1, h2⟩ := crIn_succ i ds (P.drop (min d.L.length P.length)) (by simpa using h)
    constructor
    · show _ :: (cX ds _ (i + 1)).1 = _
      rw [h1]; rfl
    · show (cX ds _ (i + 1)).2 = _
      rw [h2]; rfl
def Room (M : BenS) (k : Nat) : Prop := M.steps + k ≤ 1000000 ∧ M.left < 9223372036854775808 ∧ ∀ d ∈ M.ds, d.L.length + k ≤ 1000000
theorem getD_mem {α : Type} {l : List α} {k : Nat} {x : α} (h : k < l.length) : l.getD k x ∈ l := by
  rw [List.getD_eq_getElem?_getD, List.getElem?_eq_getElem h]; exact List.getElem_mem h
theorem Room.less {M : BenS} {k : Nat} (h : Room M (k + 1)) : Room M k := ⟨by have := h.1; omega, h.2.1, fun d hd => by have := h.2.2 d hd; omega⟩
theorem Room.at_ {M : BenS} {k i : Nat} (h : Room M (k + 1)) (hi : i < M.ds.length) : (M.ds.getD i bp).L.length < 1000000 := by have := h.2.2 _ (getD_mem (x := bp) hi); omega
theorem mem_set_or {α : Type} {l : List α} {k : Nat} {x y : α} (h : y ∈ l.set k x) : y ∈ l ∨ y = x := by
  rcases List.mem_or_eq_of_mem_set h with h | h
  · exact .inl h
  · exact .inr h
theorem Room.put {M : BenS} {k i : Nat} {x : DevS} (h : Room M k) (hx : x.L.length + k ≤ 1000000) : Room (M.put i x) k :=
  ⟨h.1, h.2.1, fun d hd => by
    rcases mem_set_or hd with e | e
    · exact h.2.2 d e
    · subst e; exact hx⟩
theorem Room.done {M : BenS} {k : Nat} (h : Room M (k + 1)) : Room M.done k := ⟨by have := h.1; show M.steps + 1 + k ≤ _; omega, by have := h.2.1; show M.left - 1 < _; omega, fun d hd => by have := h.2.2 d hd; omega⟩
theorem wrL_le (S : List Blk) (L : List (Int × Blk)) (g : Bool) (n : Int) (b : Blk) : (wrL S L g n b).length ≤ L.length + 1 := by
  unfold wrL; split
  · simp
  · omega
theorem room_wr {M : BenS} {k : Nat} (h : Room M (k + 1)) (d n : Int) (b : Blk) : Room (wrS6 M d n b) k := by
  unfold wrS6
  split
  · rename_i he
    split
    · exact h.less
    · have hh : ∃ i : Nat, d = i ∧ i < M.ds.length := by
        rcases cG M d with ⟨e, _⟩ | ⟨e, _⟩ | ⟨e, _, h⟩
        · unfold bX at he; rw [if_neg (by omega)] at he; omega
        · unfold bX at he; rw [if_neg (by omega)] at he; omega
        · exact h
      obtain ⟨i, rfl, hi⟩ := hh
      refine (h.done).put ?_
      have h1 := wrL_le (M.dev (i : Int)).S (M.dev (i : Int)).L (M.dev (i : Int)).g n b
      have h2 := h.2.2 _ (getD_mem (x := bp) hi)
      have h3 : (M.dev (i : Int)).L.length + (k + 1) ≤ 1000000 := h2
      show (wrL _ _ _ _ _).length + k ≤ _
      omega
  · exact h.less
theorem room_fl {M : BenS} {k : Nat} (h : Room M (k + 1)) (d : Int) : Room (flS6 M d) k := by
  unfold flS6
  split
  · split
    · exact h.less
    · exact (h.done).put (by have := h.1; show 0 + k ≤ _; omega)
  · exact h.less
structure DvK where
  Dv : World → (Nat → Prop) → Nat → List Blk → List (Int × Blk) → Bool → Prop
  lt : ∀ {w F p S L g}, Dv w F p S L g → ∀ b, F b → b < w.heap.size
  only : ∀ {w w' F G p S L g}, Dv w F p S L g → Only G w w' → (∀ b, F b → ¬ G b) → Dv w' F p S L g
structure Devs (K : DvK) (w : World) (Fs : Nat → Nat → Prop) (ps : List Nat) (ds : List DevS) : Prop where
  len : ps.length = ds.length
  at_ : ∀ i, i < ds.length → K.Dv w (Fs i) (ps.getD i 0) (ds.getD i bp).S (ds.getD i bp).L (ds.getD i bp).g
  off : ∀ i j, i < ds.length → j < ds.length → i ≠ j → ∀ b, Fs i b → ¬ Fs j b
def upF (Fs : Nat → Nat → Prop) (k : Nat) (F' : Nat → Prop) : Nat → Nat → Prop := fun i b => (i = k ∧ F' b) ∨ (i ≠ k ∧ Fs i b)
theorem upF_at (Fs : Nat → Nat → Prop) (k : Nat) (F' : Nat → Prop) : upF Fs k F' k = F' := by
  funext b; simp [upF]
theorem upF_off (Fs : Nat → Nat → Prop) {k i : Nat} (F' : Nat → Prop) (h : i ≠ k) : upF Fs k F' i = Fs i := by
  funext b; simp [upF, h]
theorem cE {α : Type} {l : List α} {k : Nat} {x d : α} (h : k < l.length) : (l.set k x).getD k d = x := by simp [List.getD, h]
theorem bu {α : Type} {l : List α} {k i : Nat} {x d : α} (h : i ≠ k) : (l.set k x).getD i d = l.getD i d := by simp [List.getD, List.getElem?_set_ne (Ne.symm h)]
section
variable {K : DvK} {w w' : World} {Fs : Nat → Nat → Prop} {ps : List Nat} {ds : List DevS} {G F' : Nat → Prop} {k : Nat}
theorem Devs.lt (h : Devs K w Fs ps ds) : ∀ i, i < ds.length → ∀ b, Fs i b → b < w.heap.size := fun i hi b hb => K.lt (h.at_ i hi) b hb
theorem Devs.only (h : Devs K w Fs ps ds) (k : Only G w w') (hn : ∀ i, i < ds.length → ∀ b, Fs i b → ¬ G b) : Devs K w' Fs ps ds :=
  ⟨h.len, fun i hi => K.only (h.at_ i hi) k (hn i hi), h.off⟩
theorem Devs.set (h : Devs K w Fs ps ds) (hk : k < ds.length) (ho : Only G w w') (hG : ∀ i, i < ds.length → i ≠ k → ∀ b, Fs i b → ¬ G b) (hg : Grow w (Fs k) F') {p : Nat} {d : DevS} (hd : K.Dv w' F' p d.S d.L d.g) : Devs K w' (upF Fs k F') (ps.set k p) (ds.set k d) := by
  have hnew : ∀ i, i < ds.length → i ≠ k → ∀ b, F' b → ¬ Fs i b := fun i hi hik b hb hf => by
    rcases hg b hb with e | e
    · exact h.off k i hk hi (Ne.symm hik) b e hf
    · have := h.lt i hi b hf; omega
  refine ⟨by rw [List.length_set, List.length_set]; exact h.len, fun i hi => ?_, fun i j hi hj hij b hb => ?_⟩
  · rw [List.length_set] at hi
    by_cases e : i = k
    · subst e
      rw [upF_at, cE hk, cE (by rw [h.len]; exact hk)]
      exact hd
    · rw [upF_off _ _ e, bu e, bu e]
      exact K.only (h.at_ i hi) ho (hG i hi e)
  · rw [List.length_set] at hi hj
    by_cases e : i = k
    · subst e
      rw [upF_at] at hb
      rw [upF_off _ _ (Ne.symm hij)]
      exact hnew j hj (Ne.symm hij) b hb
    · rw [upF_off _ _ e] at hb
      by_cases e' : j = k
      · subst e'
        rw [upF_at]
        exact fun hf => hnew i hi e b hf hb
      · rw [upF_off _ _ e']
        exact h.off i j hi hj hij b hb
theorem set_self {α : Type} {l : List α} {k : Nat} {d : α} (h : k < l.length) : l.set k (l.getD k d) = l := by
  rw [List.getD_eq_getElem?_getD, List.getElem?_eq_getElem h]
  exact List.set_getElem_self h
theorem Devs.turn (h : Devs K w Fs ps ds) (hk : k < ds.length) (ho : Only (Fs k) w w') (hg : Grow w (Fs k) F') {d : DevS} (hd : K.Dv w' F' (ps.getD k 0) d.S d.L d.g) : Devs K w' (upF Fs k F') ps (ds.set k d) := by
  have := h.set hk ho (fun i hi hik b hb hf => h.off i k hi hk hik b hb hf) hg hd
  rwa [set_self (by rw [h.len]; exact hk)] at this
theorem Devs.push (h : Devs K w Fs ps ds) (hb : Below w.heap.size w w') {p : Nat} {d : DevS} (hF : ∀ b, F' b → w.heap.size ≤ b) (hd : K.Dv w' F' p d.S d.L d.g) : Devs K w' (upF Fs ds.length F') (ps ++ [p]) (ds ++ [d]) := by
  have hlen := h.len
  refine ⟨by simp [h.len], fun i hi => ?_, fun i j hi hj hij b hb' => ?_⟩
  · rw [List.length_append, List.length_singleton] at hi
    by_cases e : i = ds.length
    · subst e
      rw [upF_at]
      have e1 : (ps ++ [p]).getD ds.length 0 = p := by simp [List.getD, ← hlen]
      have e2 : (ds ++ [d]).getD ds.length bp = d := by simp [List.getD]
      rw [e1, e2]
      exact hd
    · have hi' : i < ds.length := by omega
      rw [upF_off _ _ e]
      have e1 : (ps ++ [p]).getD i 0 = ps.getD i 0 := by simp [List.getD, List.getElem?_append_left (show i < ps.length by omega)]
      have e2 : (ds ++ [d]).getD i bp = ds.getD i bp := by simp [List.getD, List.getElem?_append_left hi']
      rw [e1, e2]
      exact K.only (h.at_ i hi') (Only.of_below (fun _ => False) hb) fun _ _ e => e
  · rw [List.length_append, List.length_singleton] at hi hj
    by_cases e : i = ds.length
    · subst e
      rw [upF_at] at hb'
      rw [upF_off _ _ (Ne.symm hij)]
      intro hf
      have := h.lt j (by omega) b hf
      have := hF b hb'
      omega
    · rw [upF_off _ _ e] at hb'
      have := h.lt i (by omega) b hb'
      by_cases e' : j = ds.length
      · subst e'
        rw [upF_at]
        intro hf
        have := hF b hf
        omega
      · rw [upF_off _ _ e']
        exact h.off i j (by omega) (by omega) hij b hb'
end
section
variable {α : Type} {E : Elt α} {ρ : Operand → Value} {o : Oper} {x y : Operand} {w : World} {b off : Nat} {a : α} {d : TypeDesc}
theorem size_infoE (E : Elt α) : (Tryz.prog.info? E.t).map (·.size) = some E.n := by
  obtain ⟨i0, hi, hz0, hz1, hz2⟩ := info_parts E.info
  rw [hi]; simp [hz1]
theorem exec_loadE (hu : Tryz.prog.underlying E.t = some d) (hd : d.isRow = true) (ho : o.op = .load E.t x) (hx : ρ x = .pointer (some ⟨b, off, none⟩)) (hc : w.rangeAt b off (E.cel a)) : (execOp ρ o).run Tryz.prog w = .ok (.value (.agg (E.cel a).toArray)) w :=
  av ho hx (run_loadAt_mid w b off E.t (E.cel a) d hc hu hd (by rw [E.len]; exact size_infoE E))
theorem exec_allocE (ho : o.op = .alloc E.t) : (execOp ρ o).run Tryz.prog w = .ok (.value (.pointer (some ⟨w.heap.size, 0, none⟩))) (w.alloc (.cells E.z.cells E.t)) := by
  have hz := run_zeroE E w
  unfold execOp
  simp [ho, Instr.alloc, hz, newVar, newRow]
theorem exec_fillE (ho : o.op = .store E.t x y) (hx : ρ x = .pointer (some ⟨w.heap.size, 0, none⟩)) (hy : ρ y = .agg (E.cel a).toArray) : (execOp ρ o).run Tryz.prog (w.alloc (.cells E.z.cells E.t)) = .ok .skip (w.alloc (.cells (E.cel a).toArray E.t)) :=
  exec_st ho hx hy (run_storeAt_new (P := Tryz.prog) w E.t E.z.cells (E.cel a).toArray (by simpa [E.len] using size_infoE E) (by simpa [E.len] using E.zc) (all_oneCell_toArray (E.one a)))
end
section
variable {w : World} {q : Int × Blk} {t : TypeId}
theorem pair_new (w : World) (q : Int × Blk) (t : TypeId) : (w.alloc (.cells (dC q).toArray t)).cell? ⟨w.heap.size, 0, none⟩ = some (.int .i64 q.1) ∧ (w.alloc (.cells (dC q).toArray t)).rangeAt w.heap.size 1 (cel q.2) := by
  have h := b7 w (dC q) t
  refine ⟨h 0 _ rfl, fun j v hj => ?_⟩
  have := h (j + 1) v hj
  rwa [show 0 + (j + 1) = 1 + j from by omega] at this
theorem RdE.pairs {s t : TypeId} {und : Tryz.prog.underlying s = some (.slice t)} {info : (Tryz.prog.info? t).map (fun i => (i.zero, i.size, i.bytes)) = some (some (pairV 0 al), 65, 72)} {B n k : Nat} {A : Option Addr} {l : List (Int × Blk)}
    (h : RdE (pairE s t und info) w B A n l) (hk : k < n) : ∃ b off, A = some ⟨b, off, none⟩ ∧ b < B ∧ w.rangeAt b (off + k * 65) (dC (l.getD k (0, al))) := h.2 k hk
end
def ptr (x : Nat) : Value := .pointer (some ⟨x, 0, none⟩)
def ptrE (s t : TypeId) (und : Tryz.prog.underlying s = some (.slice t)) (info : (Tryz.prog.info? t).map (fun i => (i.zero, i.size, i.bytes)) = some (some (.pointer none), 1, 8)) : Elt Nat where
  s := s
  t := t
  n := 1
  by_ := 8
  cel := fun x => [ptr x]
  d := 0
  z := .pointer none
  pos := by omega
  small := by omega
  len := fun _ => rfl
  one := fun a v hv => by simp only [List.mem_singleton] at hv; subst hv; rfl
  und := und
  info := info
  zc := rfl
section
variable {s t : TypeId} {und : Tryz.prog.underlying s = some (.slice t)} {info : (Tryz.prog.info? t).map (fun i => (i.zero, i.size, i.bytes)) = some (some (.pointer none), 1, 8)} {w : World} {B n k : Nat} {A : Option Addr} {l : List Nat}
theorem RdE.ptr (h : RdE (ptrE s t und info) w B A n l) (hk : k < n) : ∃ b off, A = some ⟨b, off, none⟩ ∧ b < B ∧ w.cell? ⟨b, off + k, none⟩ = some (.pointer (some ⟨l.getD k 0, 0, none⟩)) := by
  obtain ⟨b, off, e, hb, hc⟩ := h.2 k hk
  have := hc 0 (Go.Proofs.YtcafafdimcecpaaGreatDoor.ptr (l.getD k 0)) rfl
  exact ⟨b, off, e, hb, by simpa [ptrE, Go.Proofs.YtcafafdimcecpaaGreatDoor.ptr] using this⟩
end
structure BKind where
  K : DvK
  s : TypeId
  t : TypeId
  und : Tryz.prog.underlying s = some (.slice t)
  info : (Tryz.prog.info? t).map (fun i => (i.zero, i.size, i.bytes)) = some (some (.pointer none), 1, 8)
  o : TypeId
  cs : Value → Nat → Bool → Nat → Array Value
  ne : t ≠ o
def BKind.E (k : BKind) : Elt Nat := ptrE k.s k.t k.und k.info
structure BenAt (k : BKind) (w : World) (p : Nat) (v : Value) (Fs : Nat → Nat → Prop) (ps : List Nat) (M : BenS) : Prop where
  at_ : w.heap[p]? = some (.cells (k.cs v M.left M.bY M.steps) k.o)
  row : aA k.E w 0 v ps
  devs : Devs k.K w Fs ps M.ds
  apart : ∀ i, i < M.ds.length → ∀ b, Fs i b → b ≠ p ∧ v.ownBlock ≠ some b
  one : 1 ≤ M.ds.length
  cap : M.ds.length ≤ 17
def dL (p : Nat) (v : Value) (Fs : Nat → Nat → Prop) (n : Nat) (b : Nat) : Prop := b = p ∨ v.ownBlock = some b ∨ ∃ i, i < n ∧ Fs i b
section
variable {k : BKind} {w w' : World} {p : Nat} {v : Value} {Fs : Nat → Nat → Prop} {ps : List Nat} {M : BenS} {G F' : Nat → Prop} {i : Nat}
theorem BenAt.rowp (h : BenAt k w p v Fs ps M) : v.ownBlock ≠ some p := h.row.cq h.at_ k.ne
theorem BenAt.lt (h : BenAt k w p v Fs ps M) : ∀ b, dL p v Fs M.ds.length b → b < w.heap.size := by
  intro b hb
  rcases hb with rfl | hb | ⟨i, hi, hb⟩
  · exact aV h.at_
  · exact h.row.own_lt b hb
  · exact h.devs.lt i hi b hb
theorem BenAt.only (h : BenAt k w p v Fs ps M) (ho : Only G w w') (hn : ∀ b, dL p v Fs M.ds.length b → ¬ G b) : BenAt k w' p v Fs ps M :=
  ⟨ho.keep h.at_ (hn p (.inl rfl)), h.row.only ho fun b hb => hn b (.inr (.inl hb)), h.devs.only ho fun i hi b hb => hn b (.inr (.inr ⟨i, hi, hb⟩)), h.apart, h.one, h.cap⟩
theorem BenAt.below (h : BenAt k w p v Fs ps M) (hb : Below w.heap.size w w') : BenAt k w' p v Fs ps M := h.only (Only.of_below (fun _ => False) hb) fun _ _ e => e
theorem BenAt.len (h : BenAt k w p v Fs ps M) : ps.length = M.ds.length := h.devs.len
theorem BenAt.obj (h : BenAt k w p v Fs ps M) (left : Nat) (bY : Bool) (steps : Nat) (ho : Only (fun b => b = p) w w') (hc : w'.heap[p]? = some (.cells (k.cs v left bY steps) k.o)) : BenAt k w' p v Fs ps ⟨M.ds, left, bY, steps⟩ :=
  ⟨hc, h.row.only ho fun b hb e => h.rowp (by rw [hb, e]), h.devs.only ho fun i hi b hb e => (h.apart i hi b hb).1 e, h.apart, h.one, h.cap⟩
theorem BenAt.turn (h : BenAt k w p v Fs ps M) (hi : i < M.ds.length) (ho : Only (Fs i) w w') (hg : Grow w (Fs i) F') {d : DevS} (hd : k.K.Dv w' F' (ps.getD i 0) d.S d.L d.g) :
    BenAt k w' p v (upF Fs i F') ps (M.put i d) := by
  refine ⟨ho.keep h.at_ (fun e => (h.apart i hi p e).1 rfl), h.row.only ho fun b hb e => (h.apart i hi b e).2 hb, h.devs.turn hi ho hg hd, fun j hj b hb => ?_, by show 1 ≤ (M.ds.set i d).length; rw [List.length_set]; exact h.one, by show (M.ds.set i d).length ≤ 17; rw [List.length_set]; exact h.cap⟩
  have hj' : j < M.ds.length := by have : j < (M.ds.set i d).length := hj; rwa [List.length_set] at this
  rcases hb with ⟨e, hb⟩ | ⟨e, hb⟩
  · rcases hg b hb with hb | hb
    · exact h.apart i hi b hb
    · have h1 := aV h.at_
      exact ⟨fun e => by omega, fun e => by have := h.row.own_lt b e; omega⟩
  · exact h.apart j hj' b hb
theorem footB_turn (hi : i < M.ds.length) (ho : Only (Fs i) w w') : Only (dL p v Fs M.ds.length) w w' := ho.widen fun b hb => .inr (.inr ⟨i, hi, hb⟩)
theorem footB_obj (n : Nat) (ho : Only (fun b => b = p) w w') : Only (dL p v Fs n) w w' := ho.widen fun b hb => .inl hb
theorem footB_grow {n : Nat} (hi : i < n) (hg : Grow w (Fs i) F') {n' : Nat} (hn : n' = n) : Grow w (dL p v Fs n) (dL p v (upF Fs i F') n') := by
  subst hn
  intro b hb
  rcases hb with e | e | ⟨j, hj, hb⟩
  · exact .inl (.inl e)
  · exact .inl (.inr (.inl e))
  · rcases hb with ⟨e, hb⟩ | ⟨e, hb⟩
    · rcases hg b hb with hb | hb
      · exact .inl (.inr (.inr ⟨i, hi, hb⟩))
      · exact .inr hb
    · exact .inl (.inr (.inr ⟨j, hj, hb⟩))
theorem BenAt.slice (h : BenAt k w p v Fs ps M) : ∃ g c, v = .slice (some ⟨g, 0, none⟩) M.ds.length c ∧ M.ds.length ≤ c ∧ c ≤ maxLen := by
  have hl := h.len
  have h1 := h.one
  rcases h.row.2 with ⟨rfl, h0⟩ | ⟨g, cap, cur, rfl, _, _, hc1, hc2, _⟩
  · omega
  · exact ⟨g, cap, by rw [hl], by omega, hc2⟩
theorem BenAt.cell {g c : Nat} (h : BenAt k w p (.slice (some ⟨g, 0, none⟩) M.ds.length c) Fs ps M) (hi : i < M.ds.length) : w.cell? ⟨g, i, none⟩ = some (.pointer (some ⟨ps.getD i 0, 0, none⟩)) := by
  have hr : RdE k.E w w.heap.size (some ⟨g, 0, none⟩) M.ds.length ps := h.row.rd
  obtain ⟨b, off, e, _, hc⟩ := RdE.ptr (und := k.und) (info := k.info) hr hi
  injection e with e
  injection e with e1 e2
  subst e1 e2
  rw [Nat.zero_add] at hc
  exact hc
theorem BenAt.frozen {g c : Nat} (h : BenAt k w p (.slice (some ⟨g, 0, none⟩) M.ds.length c) Fs ps M) (j : Nat) : w.frozen? ⟨g, j, none⟩ = false := by
  obtain ⟨_, _, post, hg, _⟩ := h.row.parts
  exact frozen_of_row w g j _ _ hg
theorem BenAt.swap {g c : Nat} {w1 : World} (h : BenAt k w p (.slice (some ⟨g, 0, none⟩) M.ds.length c) Fs ps M) (hi : i < M.ds.length) (hb : Below w.heap.size w w1) (hF : ∀ b, F' b → w.heap.size ≤ b) {p' : Nat} {d : DevS} (hd : k.K.Dv w1 F' p' d.S d.L d.g) :
    BenAt k (w1.setCell ⟨g, i, none⟩ (.pointer (some ⟨p', 0, none⟩))) p (.slice (some ⟨g, 0, none⟩) M.ds.length c) (upF Fs i F') (ps.set i p') (M.put i d) := by
  have h1 := h.below hb
  have ho : Only (fun b => b = g) w1 (w1.setCell ⟨g, i, none⟩ (.pointer (some ⟨p', 0, none⟩))) := (Only.refl (fun b => b = g) w1).setCell (p := ⟨g, i, none⟩) (.inl rfl) _
  have hgl : g < w.heap.size := h.row.own_lt g rfl
  have hl := h.len
  have hrow : aA k.E (w1.setCell ⟨g, i, none⟩ (.pointer (some ⟨p', 0, none⟩))) 0 (.slice (some ⟨g, 0, none⟩) M.ds.length c) (ps.set i p') := by
    have := h1.row.store hi p'
    rwa [show i * k.E.n = i from by show i * 1 = i; omega] at this
  refine ⟨ho.keep h1.at_ fun e => h.rowp (by rw [e]; rfl), by show aA _ _ _ _ _; exact hrow, ?_, fun j hj b hb' => ?_, by show 1 ≤ (M.ds.set i d).length; rw [List.length_set]; exact h.one, by show (M.ds.set i d).length ≤ 17; rw [List.length_set]; exact h.cap⟩
  · have hoo : Only (fun b => b = g) w (w1.setCell ⟨g, i, none⟩ (.pointer (some ⟨p', 0, none⟩))) := (Only.of_below (fun b => b = g) hb).trans ho fun b hb => .inl hb
    exact h.devs.set hi hoo (fun j hj _ b hb' e => (h.apart j hj b hb').2 (by rw [e]; rfl)) (fun b hb' => .inr (hF b hb')) (k.K.only hd ho fun b hb' e => by have := hF b hb'; omega)
  · have hj' : j < M.ds.length := by have : j < (M.ds.set i d).length := hj; rwa [List.length_set] at this
    rcases hb' with ⟨e, hb'⟩ | ⟨e, hb'⟩
    · have h2 := hF b hb'
      have h3 := aV h.at_
      exact ⟨fun e => by omega, fun e => by have := h.row.own_lt b e; omega⟩
    · exact h.apart j hj' b hb'
end
theorem BenS.put_len (M : BenS) (k : Nat) (d : DevS) : (M.put k d).ds.length = M.ds.length := by show (M.ds.set k d).length = _; rw [List.length_set]
section
variable {k : BKind} {w w' : World} {p : Nat} {v : Value} {Fs : Nat → Nat → Prop} {ps : List Nat} {M : BenS}
def Left (k : BKind) (w : World) (p : Nat) (v : Value) (Fs : Nat → Nat → Prop) (ps : List Nat) (n : Nat) (M' : BenS) (w' : World) : Prop :=
  ∃ Fs' ps', BenAt k w' p v Fs' ps' M' ∧ Only (dL p v Fs n) w w' ∧ Grow w (dL p v Fs n) (dL p v Fs' M'.ds.length)
theorem Left.same (h : BenAt k w p v Fs ps M) {M' : BenS} (e : M' = M) : Left k w p v Fs ps M.ds.length M' w := by
  subst e; exact ⟨Fs, ps, h, Only.refl _ _, Grow.same _ _⟩
theorem Left.turn (h : BenAt k w p v Fs ps M) {i : Nat} {F' : Nat → Prop} {d : DevS} (hi : i < M.ds.length) (ho : Only (Fs i) w w') (hg : Grow w (Fs i) F') (hd : k.K.Dv w' F' (ps.getD i 0) d.S d.L d.g) {M' : BenS} (e : M' = M.put i d) : Left k w p v Fs ps M.ds.length M' w' := by
  subst e
  exact ⟨_, _, h.turn hi ho hg hd, footB_turn hi ho, footB_grow hi hg (M.put_len i d)⟩
theorem Left.behind {w1 : World} {n : Nat} {M' : BenS} (ho : Only (fun b => b = p) w w1) (h : Left k w1 p v Fs ps n M' w') : Left k w p v Fs ps n M' w' := by
  obtain ⟨Fs', ps', h1, h2, h3⟩ := h
  refine ⟨Fs', ps', h1, (footB_obj n ho).trans h2 fun b hb => .inl hb, fun b hb => ?_⟩
  rcases h3 b hb with e | e
  · exact .inl e
  · exact .inr (Nat.le_trans ho.size e)
theorem Left.obj {M' : BenS} (h : BenAt k w' p v Fs ps M') (ho : Only (fun b => b = p) w w') {n : Nat} (hn : M'.ds.length = n) : Left k w p v Fs ps n M' w' := by
  subst hn
  exact ⟨Fs, ps, h, footB_obj _ ho, Grow.same _ _⟩
theorem Left.below_ (h : BenAt k w p v Fs ps M) (hb : Below w.heap.size w w') {M' : BenS} (e : M' = M) : Left k w p v Fs ps M.ds.length M' w' := by
  subst e
  exact ⟨Fs, ps, h.below hb, Only.of_below _ hb, Grow.same _ _⟩
theorem Left.above {w1 : World} {n : Nat} {M' : BenS} (hb : Below w.heap.size w w1) (h : Left k w1 p v Fs ps n M' w') : Left k w p v Fs ps n M' w' := by
  obtain ⟨Fs', ps', h1, h2, h3⟩ := h
  refine ⟨Fs', ps', h1, (Only.of_below _ hb).trans h2 fun b hb => .inl hb, fun b hb' => ?_⟩
  rcases h3 b hb' with e | e
  · exact .inl e
  · exact .inr (Nat.le_trans hb.size e)
def eE (k : BKind) (w0 wr : World) (p : Nat) (v : Value) (Fs : Nat → Nat → Prop) (ps : List Nat) (M : BenS) (P : List Int) (j : Nat) (Fs' : Nat → Nat → Prop) : Prop :=
  BenAt k wr p v Fs' ps ⟨(cX M.ds P j).1, M.left, M.bY, M.steps⟩ ∧ Only (dL p v Fs M.ds.length) w0 wr ∧ Grow w0 (dL p v Fs M.ds.length) (dL p v Fs' M.ds.length)
theorem eE.zero (h : BenAt k w p v Fs ps M) (P : List Int) : eE k w w p v Fs ps M P 0 Fs := by
  refine ⟨?_, Only.refl _ _, Grow.same _ _⟩
  rw [show (cX M.ds P 0).1 = M.ds from by rw [cX]]
  exact h
theorem eE.next {w0 w' : World} {Fs' : Nat → Nat → Prop} {F'' : Nat → Prop} {P : List Int} {j : Nat} (h : eE k w0 w p v Fs ps M P j Fs') (hj : j < M.ds.length) (ho : Only (Fs' j) w w') (hg : Grow w (Fs' j) F'')
    (hd : k.K.Dv w' F'' (ps.getD j 0) (crI (M.ds.getD j bp).S (M.ds.getD j bp).L (cX M.ds P j).2 (M.ds.getD j bp).L.length) [] (M.ds.getD j bp).g) : eE k w0 w' p v Fs ps M P (j + 1) (upF Fs' j F'') := by
  obtain ⟨h1, h2, h3⟩ := h
  have hl : (cX M.ds P j).1.length = M.ds.length := fj j M.ds P
  have hj' : j < (⟨(cX M.ds P j).1, M.left, M.bY, M.steps⟩ : BenS).ds.length := by show j < (cX M.ds P j).1.length; rw [hl]; exact hj
  have h4 := h1.turn hj' ho hg (d := ⟨crI (M.ds.getD j bp).S (M.ds.getD j bp).L (cX M.ds P j).2 (M.ds.getD j bp).L.length, [], (M.ds.getD j bp).g⟩) hd
  refine ⟨?_, h2.trans ho fun b hb => ?_, fun b hb => ?_⟩
  · rw [(crIn_succ j M.ds P hj).1]
    exact h4
  · exact h3 b (.inr (.inr ⟨j, hj, hb⟩))
  · rcases footB_grow (p := p) (v := v) hj hg rfl b hb with e | e
    · exact h3 b e
    · exact .inr (Nat.le_trans h2.size e)
theorem eE.dev {w0 : World} {Fs' : Nat → Nat → Prop} {P : List Int} {j : Nat} (h : eE k w0 w p v Fs ps M P j Fs') (hj : j < M.ds.length) : k.K.Dv w (Fs' j) (ps.getD j 0) (M.ds.getD j bp).S (M.ds.getD j bp).L (M.ds.getD j bp).g := by
  have := h.1.devs.at_ j (by show j < (cX M.ds P j).1.length; rw [fj]; exact hj)
  rwa [crIn_off j M.ds P j (Nat.le_refl _)] at this
end
def LwE : Elt (Int × Blk) := pairE 165 169 Tryz.underlying165 (by kernel_rfl)
theorem cK {w : World} {b : Nat} {t : TypeId} {x y z u : Value} (h : w.heap[b]? = some (.cells #[x, y, z, u] t (0, 0))) : w.cell? ⟨b, 0, none⟩ = some x ∧ w.cell? ⟨b, 1, none⟩ = some y ∧ w.cell? ⟨b, 2, none⟩ = some z ∧ w.cell? ⟨b, 3, none⟩ = some u := by
  refine ⟨?_, ?_, ?_, ?_⟩
  · rw [cell_of_row w b 0 _ t (0, 0) h]; rfl
  · rw [cell_of_row w b 1 _ t (0, 0) h]; rfl
  · rw [cell_of_row w b 2 _ t (0, 0) h]; rfl
  · rw [cell_of_row w b 3 _ t (0, 0) h]; rfl
structure PD (w : World) (p : Nat) (vS vL : Value) (S : List Blk) (L : List (Int × Blk)) (g : Bool) : Prop where
  at_ : w.heap[p]? = some (.cells #[.int .i64 (S.length : Int), vS, vL, .bool g] 167)
  one : 1 ≤ S.length
  S_ : aA BlkE w 0 vS (if g = true then [] else S)
  L_ : aA LwE w 0 vL L
  dead : g = true → L = []
section
variable {w w' : World} {p : Nat} {vS vL : Value} {S : List Blk} {L : List (Int × Blk)} {g : Bool} {F : Nat → Prop}
theorem PD.lt (h : PD w p vS vL S L g) : ∀ k, foot p vS vL k → k < w.heap.size := by
  intro k hk
  rcases hk with rfl | hk | hk
  · exact (Array.getElem?_eq_some_iff.1 h.at_).1
  · exact h.S_.own_lt k hk
  · exact h.L_.own_lt k hk
theorem PD.only (h : PD w p vS vL S L g) (k : Only F w w') (hn : ∀ b, foot p vS vL b → ¬ F b) : PD w' p vS vL S L g :=
  ⟨k.keep h.at_ (hn p (.inl rfl)), h.one, h.S_.only k fun b hb => hn b (.inr (.inl hb)), h.L_.only k fun b hb => hn b (.inr (.inr hb)), h.dead⟩
theorem PD.below (h : PD w p vS vL S L g) (k : Below w.heap.size w w') : PD w' p vS vL S L g := h.only (Only.of_below (fun _ => False) k) fun _ _ e => e
theorem PD.alive (h : PD w p vS vL S L false) : aA BlkE w 0 vS S := h.S_
end
theorem eL (p : Nat) (vS vL : Value) (S : List Blk) (L : List (Int × Blk)) (g : Bool) (w : World) (h : PD w p vS vL S L g) :
    Calls Tryz.prog 131 #[.pointer (some ⟨p, 0, none⟩)] w fun e w' => e = .returned (.bool true) ∧ w = w' := by
  obtain ⟨c0, c1, c2, c3⟩ := cK h.at_
  have h1 : 0 < S.length := h.one
  go_enter Tryz.func131, Tryz.ntmps131
  go_wp2
  go_ret
  exact ⟨rfl, rfl⟩
theorem p_has (p : Nat) (vS vL : Value) (S : List Blk) (L : List (Int × Blk)) (g : Bool) (n : Int) (w : World) (h : PD w p vS vL S L g) :
    Calls Tryz.prog 155 #[.pointer (some ⟨p, 0, none⟩), .int .i64 n] w fun e w' => e = .returned (.bool (decide (0 ≤ n ∧ n < S.length))) ∧ w = w' := by
  obtain ⟨c0, c1, c2, c3⟩ := cK h.at_
  by_cases h0 : 0 ≤ n
  · by_cases h1 : n < S.length
    · have HD := Lib.hid (decide_eq_true (p := 0 ≤ n ∧ n < S.length) ⟨h0, h1⟩)
      go_enter Tryz.func155, Tryz.ntmps155
      go_wp2
      go_ret
      exact ⟨bO HD.out.symm, rfl⟩
    · have HD := Lib.hid (decide_eq_false (p := 0 ≤ n ∧ n < S.length) (fun e => h1 e.2))
      go_enter Tryz.func155, Tryz.ntmps155
      go_wp2
      go_ret
      exact ⟨bO (decide_eq_false (by omega)).symm, rfl⟩
  · have HD := Lib.hid (decide_eq_false (p := 0 ≤ n ∧ n < S.length) (fun e => h0 e.1))
    go_enter Tryz.func155, Tryz.ntmps155
    go_wp2
    go_ret
    exact ⟨bO (by have e : decide (0 ≤ n) = false := decide_eq_false (by omega); rw [e]; rfl), rfl⟩
theorem eI (p : Nat) (vS vL : Value) (S : List Blk) (L : List (Int × Blk)) (g : Bool) (n : Int) (w : World) (h : PD w p vS vL S L g) :
    Calls Tryz.prog 144 #[.pointer (some ⟨p, 0, none⟩), .int .i64 n] w fun e w' => e = .returned (.int .i64 (ce S g n)) ∧ w = w' := by
  obtain ⟨c0, c1, c2, c3⟩ := cK h.at_
  by_cases h1 : 0 ≤ n ∧ n < S.length
  · have HD := Lib.hid (decide_eq_true h1)
    cases g
    · have HE := Lib.hid (fq h1)
      clear h1
      go_enter Tryz.func144, Tryz.ntmps144
      go_wp2_with fail
      refine (eL p vS vL S L false w h).mono ?_
      rintro e w1 ⟨rfl, rfl⟩
      go_wp2_with fail
      refine (p_has p vS vL S L false n w h).mono ?_
      rintro e w1 ⟨rfl, rfl⟩
      rw [HD.out]
      go_wp2_with fail
      go_ret
      exact ⟨aQ HE.out.symm, rfl⟩
    · have HE := Lib.hid (askE_dead h1)
      clear h1
      go_enter Tryz.func144, Tryz.ntmps144
      go_wp2_with fail
      refine (eL p vS vL S L true w h).mono ?_
      rintro e w1 ⟨rfl, rfl⟩
      go_wp2_with fail
      refine (p_has p vS vL S L true n w h).mono ?_
      rintro e w1 ⟨rfl, rfl⟩
      rw [HD.out]
      go_wp2_with fail
      go_ret
      exact ⟨aQ HE.out.symm, rfl⟩
  · have HD := Lib.hid (decide_eq_false h1)
    have HE := Lib.hid (askE_out g h1)
    clear h1
    go_enter Tryz.func144, Tryz.ntmps144
    go_wp2_with fail
    refine (eL p vS vL S L g w h).mono ?_
    rintro e w1 ⟨rfl, rfl⟩
    go_wp2_with fail
    refine (p_has p vS vL S L g n w h).mono ?_
    rintro e w1 ⟨rfl, rfl⟩
    rw [HD.out]
    go_wp2_with fail
    go_ret
    exact ⟨aQ HE.out.symm, rfl⟩
theorem p_sectors (p : Nat) (vS vL : Value) (S : List Blk) (L : List (Int × Blk)) (g : Bool) (w : World) (h : PD w p vS vL S L g) :
    Calls Tryz.prog 112 #[.pointer (some ⟨p, 0, none⟩)] w fun e w' => e = .returned (.int .i64 (S.length : Int)) ∧ w = w' := by
  obtain ⟨c0, c1, c2, c3⟩ := cK h.at_
  go_enter Tryz.func112, Tryz.ntmps112
  go_wp2_with fail
  refine (eL p vS vL S L g w h).mono ?_
  rintro e w1 ⟨rfl, rfl⟩
  go_wp2_with fail
  go_ret
  exact ⟨rfl, rfl⟩
theorem p_dead (p : Nat) (vS vL : Value) (S : List Blk) (L : List (Int × Blk)) (g : Bool) (w : World) (h : PD w p vS vL S L g) :
    Calls Tryz.prog 111 #[.pointer (some ⟨p, 0, none⟩)] w fun e w' => e = .returned (.bool g) ∧ w = w' := by
  obtain ⟨c0, c1, c2, c3⟩ := cK h.at_
  go_enter Tryz.func111, Tryz.ntmps111
  go_wp2_with fail
  refine (eL p vS vL S L g w h).mono ?_
  rintro e w1 ⟨rfl, rfl⟩
  go_wp2_with fail
  go_ret
  exact ⟨rfl, rfl⟩
end Go.Proofs.YtcafafdimcecpaaGreatDoor
