import Derived.Test.YtcafafdimcecpaaGreatDoorNlab
import Derived.Laws.CopyOwn
import Derived.Test.YtcafafdimcecpaaGreatDoorNlaa
import Derived.Laws.BitsAllLaws
import Derived.IntWalk
import Derived.Laws.AppendOwn
import Derived.Laws.AppendOwnNone
import Derived.Test.YtcafafdimcecpaaGreatDoorNlZ
namespace Go.Proofs.YtcafafdimcecpaaGreatDoor
open Go.RowKit
set_option maxRecDepth 100000
set_option linter.unusedVariables false
def b8 (w : World) (g : Nat) (bs : List Blk) : Prop := w.heap[g]? = some (.cells (flat bs).toArray 65 (0, 0))
theorem flat_split {bs : List Blk} {k : Nat} (hk : k < bs.length) : flat bs = flat (bs.take k) ++ (cel (bs.getD k al) ++ flat (bs.drop (k + 1))) := by
  have h1 : bs = bs.take k ++ (bs.getD k al :: bs.drop (k + 1)) := by
    rw [List.getD, List.getElem?_eq_getElem hk, Option.getD_some, List.getElem_cons_drop, List.take_append_drop]
  conv => lhs; rw [h1]
  rw [flat_append, fi]
theorem flat_set {bs : List Blk} {k : Nat} (hk : k < bs.length) (c : Blk) : flat (bs.set k c) = flat (bs.take k) ++ (cel c ++ flat (bs.drop (k + 1))) := by
  have h2 : bs.set k c = bs.take k ++ (c :: bs.drop (k + 1)) := List.set_eq_take_append_cons_drop.trans (by rw [if_pos hk])
  rw [h2, flat_append, fi]
theorem heap_write (g : Nat) (t : TypeId) (post : List Value) : ∀ (vs mid pre : List Value) (w : World), mid.length = vs.length → w.heap[g]? = some (.cells (pre ++ mid ++ post).toArray t (0, 0)) →
    (w.setCells g pre.length vs).heap[g]? = some (.cells (pre ++ vs ++ post).toArray t (0, 0))
  | [], mid, pre, w, h, hg => by
    have : mid = [] := List.eq_nil_of_length_eq_zero h
    subst this
    exact hg
  | v :: vs, mid, pre, w, h, hg => by
    match mid, h with
    | m :: ms, h =>
      rw [World.setCells]
      have h1 := heap_setCell_same w g pre.length _ t v hg
      have hset : (pre ++ m :: ms ++ post).toArray.setIfInBounds pre.length v = ((pre ++ [v]) ++ ms ++ post).toArray := by
        rw [List.setIfInBounds_toArray]
        congr 1
        rw [List.append_assoc, List.set_append_right _ _ (by simp), Nat.sub_self]
        simp
      rw [hset] at h1
      have := heap_write g t post vs ms (pre ++ [v]) _ (by simpa using h) h1
      rw [List.length_append, List.length_singleton] at this
      rw [this]
      simp
section
variable {w w' : World} {g k B : Nat} {bs : List Blk} {c : Blk}
theorem b8.lt (h : b8 w g bs) : g < w.heap.size := (Array.getElem?_eq_some_iff.1 h).1
theorem b8.of_block (h : b8 w g bs) (e : w'.heap[g]? = w.heap[g]?) : b8 w' g bs := e.trans h
theorem b8.below (h : b8 w g bs) (hb : Below w.heap.size w w') : b8 w' g bs := h.of_block (hb.block g h.lt)
theorem b8.store (h : b8 w g bs) (hk : k < bs.length) (c : Blk) : b8 (w.setCells g (k * 64) (cel c)) g (bs.set k c) := by
  unfold b8 at *
  rw [flat_split hk, ← List.append_assoc] at h
  have := heap_write g _ (flat (bs.drop (k + 1))) (cel c) _ _ w (by rw [aw, aw]) h
  rw [d8, List.length_take, Nat.min_eq_left (by omega)] at this
  rw [this, flat_set hk, List.append_assoc]
theorem b8.cell (h : b8 w g bs) (j : Nat) : w.cell? ⟨g, j, none⟩ = (flat bs)[j]? := by
  rw [cell_of_row w g j _ _ (0, 0) h]
  simp
theorem b8.frozen (h : b8 w g bs) (j : Nat) : w.frozen? ⟨g, j, none⟩ = false := frozen_of_row w g j _ _ h
theorem b8.byteAt (h : b8 w g bs) (hk : k < bs.length) {r : Nat} (hr : r < 64) : w.cell? ⟨g, k * 64 + r, none⟩ = some (.int .u8 (byt (bs.getD k al) r)) := by
  rw [h.cell, flat_at bs hk hr, dQ _ hr]
theorem b8.there (h : b8 w g bs) (hk : k < bs.length) : w.there g (k * 64) 64 := fun j hj => ⟨by rw [h.byteAt hk hj]; rfl, h.frozen _⟩
theorem b8.rd (h : b8 w g bs) (m : Nat) (hm : m ≤ bs.length) : RdB w w.heap.size (some ⟨g, 0, none⟩) m (bs.take m) := by
  have : RdB w w.heap.size (some ⟨g, 0, none⟩) bs.length bs := rdB_of h.lt fun j v hj => by rw [Nat.zero_add, h.cell]; exact hj
  exact this.head hm
end
section
variable {ρ : Operand → Value} {o : Oper} {x y : Operand} {w : World} {n : Nat}
theorem exec_make (ho : o.op = .makeSlice 112 x y) (hx : ρ x = .int .i64 (n : Int)) (hy : ρ y = .int .i64 (n : Int)) (hn : n ≤ 4398046511104) :
    (execOp ρ o).run Tryz.prog w = .ok (.value (.slice (some ⟨w.heap.size, 0, none⟩) n n)) (w.alloc (.cells (madeCells (cel al).toArray (n * 64)) 65)) := by
  obtain ⟨i0, hi, hz0, hz1, hz2⟩ := info_parts infoB
  have hr := run_make (P := Tryz.prog) w 112 65 i0 (blk al) underS hi hz0 .i64 .i64 n n (by omega) (Int.le_refl _) (by rw [hz2]; omega) (by omega)
  rw [hz1, d6] at hr
  simp only [Int.toNat_natCast] at hr
  unfold execOp
  simp only [ho, hx, hy, Sem.run_bind, hr, Result.andThen_ok, Sem.run_pure]
end
theorem flat_zeros (n : Nat) : (flat (List.replicate n al)).toArray = madeCells (cel al).toArray (n * 64) := by
  apply Array.ext
  · rw [size_madeCells, List.size_toArray, d8, List.length_replicate]
  · intro j h1 h2
    rw [size_madeCells] at h2
    have hk : j / 64 < (List.replicate n al).length := by rw [List.length_replicate]; omega
    have := flat_at (List.replicate n al) hk (j := j % 64) (by omega)
    rw [show j / 64 * 64 + j % 64 = j from by omega] at this
    have hz : (List.replicate n al).getD (j / 64) al = al := by
      rw [List.getD, List.getElem?_replicate]
      split <;> rfl
    rw [hz, dQ al (by omega)] at this
    have hc := dQ al (j := j % 64) (by omega)
    have e1 : (flat (List.replicate n al)).toArray[j] = .int .u8 (byt al (j % 64)) := by
      rw [List.getElem?_eq_getElem (by simpa using h1)] at this
      simpa using this
    have e2 : (madeCells (cel al).toArray (n * 64))[j]'(by rw [size_madeCells]; exact h2) = .int .u8 (byt al (j % 64)) := by
      have hj : j % 64 < (cel al).length := by rw [aw]; omega
      rw [List.getElem?_eq_getElem hj] at hc
      simp only [madeCells, Array.getElem_map, Array.getElem_range, List.size_toArray, aw]
      rw [getElem!_pos (cel al).toArray (j % 64) (by simpa using hj)]
      simpa using hc
    rw [e1, e2]
theorem holdsB_made (w : World) (n : Nat) : b8 (w.alloc (.cells (madeCells (cel al).toArray (n * 64)) 65)) w.heap.size (List.replicate n al) := by
  unfold b8
  rw [heap_alloc_new, flat_zeros]
def four_ (w : World) (a b c d : Blk) : World := (((w.alloc (.cells (cel a).toArray 65)).alloc (.cells (cel b).toArray 65)).alloc (.cells (cel c).toArray 65)).alloc (.cells (cel d).toArray 65)
theorem laid4 (w : World) (a b c d : Blk) : (four_ w a b c d).rangeAt w.heap.size 0 (cel a) ∧ (four_ w a b c d).rangeAt (w.heap.size + 1) 0 (cel b) ∧ (four_ w a b c d).there (w.heap.size + 1 + 1) 0 64 ∧
    (four_ w a b c d).rowIs (w.heap.size + 1 + 1 + 1) 65 64 (fun j => .int .u8 (byt d j)) ∧ Below w.heap.size w (four_ w a b c d) := by
  unfold four_
  have e1 := World.size_alloc (w := w) (o := Obj.cells (cel a).toArray 65)
  have e2 := World.size_alloc (w := (w.alloc (.cells (cel a).toArray 65))) (o := Obj.cells (cel b).toArray 65)
  have e3 := World.size_alloc (w := (w.alloc (.cells (cel a).toArray 65)).alloc (.cells (cel b).toArray 65)) (o := Obj.cells (cel c).toArray 65)
  refine ⟨World.rangeAt_alloc (World.rangeAt_alloc (World.rangeAt_alloc (bV w (cel a) _) _) _) _, ?_, ?_, ?_, ?_⟩
  · rw [← e1]; exact World.rangeAt_alloc (World.rangeAt_alloc (bV _ (cel b) _) _) _
  · rw [← e1, ← e2]; exact World.there_alloc (cZ _ c _) _
  · rw [← e1, ← e2, ← e3]; exact row_new _ d _
  · exact ((((Below.refl _ w).alloc (Nat.le_refl _) _).alloc (by omega) _).alloc (by omega) _).alloc (by omega) _
def torn (old now : Blk) (n : Int) : Blk := Vector.ofFn fun i => if (i.val : Int) < n then now[i] else old[i]
theorem torn_get (old now : Blk) (n : Int) (i : Nat) (h : i < 64) : (torn old now n)[i] = if (i : Int) < n then now[i] else old[i] := by simp [torn]
theorem dR (old now : Blk) (n : Int) {i : Nat} (h : i < 64) : byt (torn old now n) i = if (i : Int) < n then byt now i else byt old i := by
  rw [eH _ h, torn_get _ _ _ _ h]
  split
  · rw [eH _ h]
  · rw [eH _ h]
section
variable {α : Type} {E : Elt α} {w w' : World} {B p : Nat} {v : Value} {l : List α} {F : Nat → Prop}
theorem aB.only (h : aB E w B v l) (k : Only F w w') (hn : ∀ b, v.ownBlock = some b → ¬ F b) : aB E w' B v l := by
  refine ⟨h.1, ?_⟩
  rcases h.2 with hn' | ⟨g, cap, cur, rfl, hbg, hg, rest⟩
  · exact .inl hn'
  · exact .inr ⟨g, cap, cur, rfl, hbg, (k.block g (Array.getElem?_eq_some_iff.1 hg).1 (hn g rfl)).trans hg, rest⟩
theorem aB.own_lt (h : aB E w B v l) : ∀ b, v.ownBlock = some b → b < w.heap.size := by
  intro b hb
  rcases h.2 with ⟨rfl, _⟩ | ⟨g, cap, cur, rfl, _, hg, _⟩
  · simp [Value.ownBlock] at hb
  · simp [Value.ownBlock] at hb; subst hb; exact (Array.getElem?_eq_some_iff.1 hg).1
theorem aB.cq (h : aB E w B v l) {cs : Array Value} {t : TypeId} {fr : Nat × Nat} (hp : w.heap[p]? = some (.cells cs t fr)) (ht : E.t ≠ t) : v.ownBlock ≠ some p := by
  intro e
  rcases h.2 with ⟨rfl, _⟩ | ⟨g, cap, cur, rfl, _, hg, _⟩
  · simp [Value.ownBlock] at e
  · simp [Value.ownBlock] at e
    subst e
    rw [hp] at hg
    simp at hg
    exact ht hg.2.1.symm
end
def foot (p : Nat) (vS vL : Value) (k : Nat) : Prop := k = p ∨ vS.ownBlock = some k ∨ vL.ownBlock = some k
def cd (S : List Blk) (g : Bool) (n : Int) : Int := if 0 ≤ n ∧ n < S.length then (if g = true then 9 else 0) else 2
theorem askE_out {S : List Blk} {n : Int} (g : Bool) (h : ¬(0 ≤ n ∧ n < S.length)) : cd S g n = 2 := by unfold cd; rw [if_neg h]
theorem askE_dead {S : List Blk} {n : Int} (h : 0 ≤ n ∧ n < S.length) : cd S true n = 9 := by unfold cd; rw [if_pos h]; rfl
theorem fa {S : List Blk} {n : Int} (h : 0 ≤ n ∧ n < S.length) : cd S false n = 0 := by unfold cd; rw [if_pos h]; rfl
def sureB (S : List Blk) (g : Bool) (n : Int) : Blk := if cd S g n = 0 then S.getD n.toNat al else al
theorem sureB_no {S : List Blk} {g : Bool} {n : Int} (h : cd S g n ≠ 0) : sureB S g n = al := by unfold sureB; rw [if_neg h]
theorem sureB_ok {S : List Blk} {g : Bool} {k : Nat} (h : cd S g (k : Int) = 0) : sureB S g (k : Int) = S.getD k al := by unfold sureB; rw [if_pos h]; rfl
theorem dN {S : List Blk} {g : Bool} {n : Int} : cd S g n = 2 ∨ cd S g n = 9 ∨ (cd S g n = 0 ∧ g = false ∧ ∃ k : Nat, n = k ∧ k < S.length) := by
  unfold cd
  split
  · rename_i h
    cases g
    · exact .inr (.inr ⟨rfl, rfl, n.toNat, by omega, by omega⟩)
    · exact .inr (.inl rfl)
  · exact .inl rfl
def lastW (L : List (Int × Blk)) (n : Int) (b : Blk) : Blk := L.foldl (fun b q => if q.1 = n then q.2 else b) b
theorem lastW_succ {L : List (Int × Blk)} {i : Nat} (n : Int) (b : Blk) (hi : i < L.length) : lastW (L.take (i + 1)) n b = if (L.getD i (0, al)).1 = n then (L.getD i (0, al)).2 else lastW (L.take i) n b := by
  rw [List.take_add_one, List.getD, List.getElem?_eq_getElem hi]
  simp only [lastW, Option.toList_some, List.foldl_append, List.foldl_cons, List.foldl_nil, Option.getD_some]
def d7 (S : List Blk) (L : List (Int × Blk)) (g : Bool) (n : Int) : Blk := if cd S g n = 0 then lastW L n (S.getD n.toNat al) else al
theorem readB_no {S : List Blk} {L : List (Int × Blk)} {g : Bool} {n : Int} (h : cd S g n ≠ 0) : d7 S L g n = al := by unfold d7; rw [if_neg h]
theorem readB_ok {S : List Blk} {L : List (Int × Blk)} {g : Bool} {k : Nat} (h : cd S g (k : Int) = 0) : d7 S L g (k : Int) = lastW L k (S.getD k al) := by unfold d7; rw [if_pos h]; rfl
section
variable {w w' : World} {p : Nat} {vS vL : Value} {S : List Blk} {L : List (Int × Blk)} {g : Bool}
theorem cp (w : World) (p i : Nat) (v : Value) : Only (fun b => b = p) w (w.setCell ⟨p, i, none⟩ v) := (Only.refl (fun b => b = p) w).setCell (p := ⟨p, i, none⟩) (.inl rfl) v
theorem ldB {a : Addr} {A : Option Addr} {n c : Nat} (h : w.cell? a = some (.slice A n c)) : (Instr.loadAt 112 (.pointer (some a))).run Tryz.prog w = .ok (.slice A n c) w := by simp [go_sem, h]
end
def wrL (S : List Blk) (L : List (Int × Blk)) (g : Bool) (n : Int) (b : Blk) : List (Int × Blk) := if cd S g n = 0 then L ++ [(n, b)] else L
theorem dD {α : Type} {E : Elt α} {ρ : Operand → Value} {o : Oper} {x y : Operand} {w : World} {b n c j : Nat} (ho : o.op = .indexAddr E.s x y) (hx : ρ x = .slice (some ⟨b, 0, none⟩) n c) (hy : ρ y = .int .i64 (j : Int)) (hj : j < n) : (execOp ρ o).run Tryz.prog w = .ok (.value (.pointer (some ⟨b, j * E.n, none⟩))) w := by
  have := a9 (E := E) (ρ := ρ) (w := w) ho hx hy hj
  rwa [Nat.zero_add] at this
theorem aB.slice {α : Type} {E : Elt α} {w : World} {B n : Nat} {v : Value} {l : List α} (h : aB E w B v l) (hn : l.length = n) (hl : 0 < n) : ∃ g c, v = .slice (some ⟨g, 0, none⟩) n c := by
  subst hn
  rcases h.2 with ⟨_, h0⟩ | ⟨g, cap, cur, rfl, _⟩
  · omega
  · exact ⟨g, cap, rfl⟩
section
variable {w : World} {p b off gg n c k : Nat} {vL : Value} {S : List Blk} {L : List (Int × Blk)} {g : Bool}
theorem ldI {a : Addr} {x : Int} (h : w.cell? a = some (.int .i64 x)) : (Instr.loadAt 3 (.pointer (some a))).run Tryz.prog w = .ok (.int .i64 x) w := by simp [go_sem, h]
end
def flS (S : List Blk) (L : List (Int × Blk)) : List Blk := L.foldl (fun S q => S.set q.1.toNat q.2) S
theorem eZ (S : List Blk) (L : List (Int × Blk)) : (flS S L).length = S.length := by
  unfold flS
  induction L generalizing S with
  | nil => rfl
  | cons q L ih => rw [List.foldl_cons, ih, List.length_set]
theorem flS_succ {S : List Blk} {L : List (Int × Blk)} {i : Nat} (hi : i < L.length) : flS S (L.take (i + 1)) = (flS S (L.take i)).set (L.getD i (0, al)).1.toNat (L.getD i (0, al)).2 := by
  rw [List.take_add_one, List.getD, List.getElem?_eq_getElem hi]
  simp only [flS, Option.toList_some, List.foldl_append, List.foldl_cons, List.foldl_nil, Option.getD_some]
def Fit (S : List Blk) (L : List (Int × Blk)) : Prop := ∀ q ∈ L, 0 ≤ q.1 ∧ q.1 < S.length
theorem Fit.at_ {S : List Blk} {L : List (Int × Blk)} (h : Fit S L) {i : Nat} (hi : i < L.length) : ∃ k : Nat, (L.getD i (0, al)).1 = k ∧ k < S.length := by
  have := h _ (List.getElem_mem hi)
  refine ⟨(L.getD i (0, al)).1.toNat, ?_, ?_⟩
  · simp only [List.getD, List.getElem?_eq_getElem hi, Option.getD_some]; omega
  · simp only [List.getD, List.getElem?_eq_getElem hi, Option.getD_some]; omega
def crI (S : List Blk) (L : List (Int × Blk)) (P : List Int) : Nat → List Blk
  | 0 => S
  | i + 1 => (crI S L P i).set (L.getD i (0, al)).1.toNat (torn ((crI S L P i).getD (L.getD i (0, al)).1.toNat al) (L.getD i (0, al)).2 (P.getD i 0))
theorem crI_len (S : List Blk) (L : List (Int × Blk)) (P : List Int) (i : Nat) : (crI S L P i).length = S.length := by
  induction i with
  | zero => rfl
  | succ i ih => rw [crI, List.length_set, ih]
theorem exec_xor8 {ρ : Operand → Value} {o : Oper} {x y : Operand} {w : World} {t r : TypeId} {a b : UInt8} (ho : o.op = .binOp .xor t x y r) (hx : ρ x = .int .u8 (a.toNat : Int)) (hy : ρ y = .int .u8 (b.toNat : Int)) : (execOp ρ o).run Tryz.prog w = .ok (.value (.int .u8 ((a ^^^ b).toNat : Int))) w := by
  have h : bits .xor .u8 (a.toNat : Int) (b.toNat : Int) = ((a ^^^ b).toNat : Int) := by
    rw [u8_xor_nat _ _ (UInt8.toNat_lt _) (UInt8.toNat_lt _)]
    simp
  unfold execOp
  simp [ho, hx, hy, eqGuard, binOp, Op.intBits]
  simpa [bits] using h
theorem fj {ρ : Operand → Value} {o : Oper} {x y : Operand} {w : World} {b n c j : Nat} (ho : o.op = .indexAddr 112 x y) (hx : ρ x = .slice (some ⟨b, 0, none⟩) n c) (hy : ρ y = .int .i64 (j : Int)) (hj : j < n) : (execOp ρ o).run Tryz.prog w = .ok (.value (.pointer (some ⟨b, j * 64, none⟩))) w := dD (E := BlkE) ho hx hy hj
section
variable {w : World} {p b off gg n c k i : Nat} {vL : Value} {S : List Blk} {L : List (Int × Blk)} {g : Bool}
theorem run_ixB (hi : i < 64) : (Instr.indexAt 65 (.pointer (some ⟨b, off, none⟩)) (.int .i64 (i : Int))).run Tryz.prog w = .ok (.pointer (some ⟨b, off + i, none⟩)) w := by
  simp [Instr.indexAt, asIntOf, run_underlying undB, Instr.sureAddr, add_mid, Tryz.sizeOf5, hi]
theorem ldU {a : Addr} {x : Int} (h : w.cell? a = some (.int .u8 x)) : (Instr.loadAt 5 (.pointer (some a))).run Tryz.prog w = .ok (.int .u8 x) w := by simp [go_sem, h]
def rotB (y : Blk) (i : Nat) (u : UInt8) : Blk := if h : i < 64 then y.set i (y[i] ^^^ u) else y
end
def rotE (S : List Blk) (g : Bool) (n i : Int) : Int := if 0 ≤ n ∧ n < S.length ∧ 0 ≤ i ∧ i < 64 then (if g = true then 9 else 0) else 2
def rotS (S : List Blk) (g : Bool) (n i : Int) (u : UInt8) : List Blk := if rotE S g n i = 0 then S.set n.toNat (rotB (S.getD n.toNat al) i.toNat u) else S
def Grow (w : World) (F F' : Nat → Prop) : Prop := ∀ b, F' b → F b ∨ w.heap.size ≤ b
section
variable {w w' : World} {F G : Nat → Prop} {p : Nat} {S : List Blk} {L : List (Int × Blk)} {g : Bool}
theorem Grow.same (w : World) (F : Nat → Prop) : Grow w F F := fun _ h => .inl h
end
theorem Fit.nil (S : List Blk) : Fit S [] := fun q h => by cases h
theorem Fit.wr {S : List Blk} {L : List (Int × Blk)} (g : Bool) (n : Int) (b : Blk) (h : Fit S L) : Fit S (wrL S L g n b) := by
  unfold wrL
  split
  · rename_i he
    rcases dN (S := S) (g := g) (n := n) with h1 | h1 | ⟨_, rfl, k, rfl, hk⟩
    · omega
    · omega
    · intro q hq
      rcases List.mem_append.1 hq with hq | hq
      · exact h q hq
      · simp at hq; subst hq; exact ⟨by simp, by simpa using hk⟩
  · exact h
theorem Fit.len {S S' : List Blk} {L : List (Int × Blk)} (h : Fit S L) (e : S'.length = S.length) : Fit S' L := fun q hq => by rw [e]; exact h q hq
theorem rotS_len (S : List Blk) (g : Bool) (n i : Int) (u : UInt8) : (rotS S g n i u).length = S.length := by
  unfold rotS; split
  · rw [List.length_set]
  · rfl
structure Dev where
  Dv : World → (Nat → Prop) → Nat → List Blk → List (Int × Blk) → Bool → Prop
  lt : ∀ {w F p S L g}, Dv w F p S L g → ∀ b, F b → b < w.heap.size
  only : ∀ {w w' F G p S L g}, Dv w F p S L g → Only G w w' → (∀ b, F b → ¬ G b) → Dv w' F p S L g
  fit : ∀ {w F p S L g}, Dv w F p S L g → Fit S L ∧ 1 ≤ S.length
  cap : ∀ {w F p S L g}, Dv w F p S L g → S.length ≤ 512
  new_ok : ∀ (k : Nat) (w : World), 1 ≤ k → k ≤ 512 → Calls Tryz.prog 103 #[.int .i64 k] w fun e w' => ∃ p F, e = .returned (.tuple #[.pointer (some ⟨p, 0, none⟩), .int .i64 0]) ∧ Dv w' F p (List.replicate k al) [] false ∧ Below w.heap.size w w' ∧ ∀ b, F b → w.heap.size ≤ b
  new_no : ∀ (n : Int) (w : World), ¬(1 ≤ n ∧ n ≤ 512) → Calls Tryz.prog 103 #[.int .i64 n] w fun e w' => e = .returned (.tuple #[.pointer none, .int .i64 2]) ∧ Below w.heap.size w w'
  read : ∀ {w F p S L g} (n : Int), Dv w F p S L g → Calls Tryz.prog 175 #[.pointer (some ⟨p, 0, none⟩), .int .i64 n] w fun e w' => e = .returned (.tuple #[blk (d7 S L g n), .int .i64 (cd S g n)]) ∧ Below w.heap.size w w'
  sure : ∀ {w F p S L g} (n : Int), Dv w F p S L g → Calls Tryz.prog 79 #[.pointer (some ⟨p, 0, none⟩), .int .i64 n] w fun e w' => e = .returned (.tuple #[blk (sureB S g n), .int .i64 (cd S g n)]) ∧ Below w.heap.size w w'
  write : ∀ {w F p S L g} (n : Int) (b : Blk), L.length < 1000000 → Dv w F p S L g → Calls Tryz.prog 82 #[.pointer (some ⟨p, 0, none⟩), .int .i64 n, blk b] w fun e w' => e = .returned (.int .i64 (cd S g n)) ∧ ∃ F', Dv w' F' p S (wrL S L g n b) g ∧ Only F w w' ∧ Grow w F F'
  flush : ∀ {w F p S L g}, Dv w F p S L g → Calls Tryz.prog 165 #[.pointer (some ⟨p, 0, none⟩)] w fun e w' => e = .returned (.int .i64 (if g = true then 9 else 0)) ∧ ∃ F', Dv w' F' p (if g = true then S else flS S L) (if g = true then L else []) g ∧ Only F w w' ∧ Grow w F F'
  fail : ∀ {w F p S L g}, Dv w F p S L g → Calls Tryz.prog 109 #[.pointer (some ⟨p, 0, none⟩)] w fun e w' => e = .returned (.int .i64 0) ∧ ∃ F', Dv w' F' p S [] true ∧ Only F w w' ∧ Grow w F F'
  rot : ∀ {w F p S L g} (n i : Int) (u : UInt8), Dv w F p S L g → Calls Tryz.prog 100 #[.pointer (some ⟨p, 0, none⟩), .int .i64 n, .int .i64 i, .int .u8 (u.toNat : Int)] w fun e w' => e = .returned (.int .i64 (rotE S g n i)) ∧ ∃ F', Dv w' F' p (rotS S g n i u) L g ∧ Only F w w' ∧ Grow w F F'
  crash : ∀ {w F p S L g A n c P}, RdE dm w w.heap.size A n P → n ≤ c → c ≤ maxLen → (∀ x, A = some x → 0 < n → ¬ F x.block) → Dv w F p S L g → Calls Tryz.prog 69 #[.pointer (some ⟨p, 0, none⟩), .slice A n c] w fun e w' => e = .returned (.tuple #[.int .i64 ((min L.length n : Nat) : Int), .int .i64 0]) ∧ ∃ F', Dv w' F' p (crI S L P L.length) [] g ∧ Only F w w' ∧ Grow w F F'
  dead : ∀ {w F p S L g}, Dv w F p S L g → Calls Tryz.prog 111 #[.pointer (some ⟨p, 0, none⟩)] w fun e w' => e = .returned (.bool g) ∧ Below w.heap.size w w'
  ef : ∀ {w F p S L g}, Dv w F p S L g → Calls Tryz.prog 112 #[.pointer (some ⟨p, 0, none⟩)] w fun e w' => e = .returned (.int .i64 (S.length : Int)) ∧ Below w.heap.size w w'
theorem Dev.below (D : Dev) {w w' : World} {F : Nat → Prop} {p : Nat} {S : List Blk} {L : List (Int × Blk)} {g : Bool} (h : D.Dv w F p S L g) (k : Below w.heap.size w w') : D.Dv w' F p S L g := D.only h (Only.of_below (fun _ => False) k) fun _ _ e => e
theorem Grow.above {w : World} {F F' : Nat → Prop} {B : Nat} (h : Grow w F F') (hF : ∀ b, F b → B ≤ b) (hB : B ≤ w.heap.size) : ∀ b, F' b → B ≤ b := fun b hb => by
  rcases h b hb with e | e
  · exact hF b e
  · omega
structure DevS where
  S : List Blk
  L : List (Int × Blk)
  g : Bool
structure BenS where
  ds : List DevS
  left : Nat
  b9 : Bool
  steps : Nat
def bk : DevS := ⟨[], [], false⟩
def BenS.dev (M : BenS) (d : Int) : DevS := M.ds.getD d.toNat bk
theorem BenS.dev_nat (M : BenS) (k : Nat) : M.dev (k : Int) = M.ds.getD k bk := rfl
def dr (M : BenS) (d : Int) : Int := if 0 ≤ d ∧ d < M.ds.length then 0 else 2
def cH (M : BenS) (d : Int) : Int := if M.b9 = true then 8 else dr M d
theorem dx (M : BenS) (d : Int) : (dr M d = 2 ∧ ¬(0 ≤ d ∧ d < M.ds.length)) ∨ (dr M d = 0 ∧ ∃ k : Nat, d = k ∧ k < M.ds.length) := by
  unfold dr
  by_cases h : 0 ≤ d ∧ d < M.ds.length
  · rw [if_pos h]; exact .inr ⟨rfl, d.toNat, by omega, by omega⟩
  · rw [if_neg h]; exact .inl ⟨rfl, h⟩
theorem hasE_ok {M : BenS} {k : Nat} (h : k < M.ds.length) : dr M (k : Int) = 0 := by unfold dr; rw [if_pos (by omega)]
theorem litE_dark {M : BenS} {d : Int} (h : M.b9 = true) : cH M d = 8 := by unfold cH; rw [if_pos h]
theorem litE_light {M : BenS} {d : Int} (h : M.b9 = false) : cH M d = dr M d := by unfold cH; rw [if_neg (by rw [h]; decide)]
theorem cz (M : BenS) (d : Int) : (cH M d = 8 ∧ M.b9 = true) ∨ (cH M d = 2 ∧ M.b9 = false ∧ ¬(0 ≤ d ∧ d < M.ds.length)) ∨ (cH M d = 0 ∧ M.b9 = false ∧ ∃ k : Nat, d = k ∧ k < M.ds.length) := by
  cases h : M.b9
  · rw [litE_light h]
    rcases dx M d with ⟨e, h1⟩ | ⟨e, h1⟩
    · exact .inr (.inl ⟨e, rfl, h1⟩)
    · exact .inr (.inr ⟨e, rfl, h1⟩)
  · exact .inl ⟨litE_dark h, rfl⟩
theorem litE_ok {M : BenS} {k : Nat} (hd : M.b9 = false) (h : k < M.ds.length) : cH M (k : Int) = 0 := by rw [litE_light hd, hasE_ok h]
def BenS.put (M : BenS) (k : Nat) (x : DevS) : BenS := { M with ds := M.ds.set k x }
def BenS.du (M : BenS) : Int := if M.left = 1 then 8 else 0
def BenS.done (M : BenS) : BenS := { M with left := M.left - 1, steps := M.steps + 1 }
def BenS.night (M : BenS) : BenS := { M with b9 := true }
def bT (M : BenS) (d n : Int) : Int := if cH M d = 0 then cd (M.dev d).S (M.dev d).g n else cH M d
def cF (M : BenS) (d n : Int) : Blk := if cH M d = 0 then d7 (M.dev d).S (M.dev d).L (M.dev d).g n else al
def suE6 (M : BenS) (d n : Int) : Int := if dr M d = 0 then cd (M.dev d).S (M.dev d).g n else dr M d
def suB6 (M : BenS) (d n : Int) : Blk := if dr M d = 0 then sureB (M.dev d).S (M.dev d).g n else al
def wrE6 (M : BenS) (d n : Int) : Int := if bT M d n = 0 then M.du else bT M d n
def wrS6 (M : BenS) (d n : Int) (b : Blk) : BenS := if bT M d n = 0 then (if M.left = 1 then M.night else M.done.put d.toNat ⟨(M.dev d).S, wrL (M.dev d).S (M.dev d).L (M.dev d).g n b, (M.dev d).g⟩) else M
def flA6 (M : BenS) (d : Int) : Int := if cH M d = 0 then (if (M.dev d).g = true then 9 else 0) else cH M d
def flE6 (M : BenS) (d : Int) : Int := if flA6 M d = 0 then M.du else flA6 M d
def flS6 (M : BenS) (d : Int) : BenS := if flA6 M d = 0 then (if M.left = 1 then M.night else M.done.put d.toNat ⟨flS (M.dev d).S (M.dev d).L, [], (M.dev d).g⟩) else M
def faS6 (M : BenS) (d : Int) : BenS := if dr M d = 0 then M.put d.toNat ⟨(M.dev d).S, [], true⟩ else M
def inE6 (M : BenS) (d : Int) : Int := if cH M d = 0 then (if (M.dev d).g = true then 0 else 17) else cH M d
def inS6 (M : BenS) (d : Int) : BenS := if inE6 M d = 0 then M.put d.toNat ⟨List.replicate (M.dev d).S.length al, [], false⟩ else M
def arE6 (M : BenS) (n : Int) : Int := if M.b9 = true then 8 else if n < 0 then 2 else 0
def arS6 (M : BenS) (n : Int) : BenS := if arE6 M n = 0 then { M with left := n.toNat } else M
def roE6 (M : BenS) (d n i : Int) : Int := if dr M d = 0 then rotE (M.dev d).S (M.dev d).g n i else dr M d
def roS6 (M : BenS) (d n i : Int) (u : UInt8) : BenS := if dr M d = 0 then M.put d.toNat ⟨rotS (M.dev d).S (M.dev d).g n i u, (M.dev d).L, (M.dev d).g⟩ else M
def crAll : List DevS → List Int → List DevS
  | [], _ => []
  | d :: ds, P => ⟨crI d.S d.L P d.L.length, [], d.g⟩ :: crAll ds (P.drop (min d.L.length P.length))
def crS6 (M : BenS) (P : List Int) : BenS := ⟨crAll M.ds P, 0, false, M.steps⟩
def bY (M : BenS) (d : Int) : Int := if dr M d = 0 then ((M.dev d).S.length : Int) else 0
def newS6 (ks : List Int) : BenS := ⟨ks.map fun k => ⟨List.replicate k.toNat al, [], false⟩, 0, false, 0⟩
def newOk (ks : List Int) : Prop := 1 ≤ ks.length ∧ ks.length ≤ 17 ∧ ∀ k ∈ ks, 1 ≤ k ∧ k ≤ 512
def cQ : List DevS → List Int → Nat → List DevS × List Int
  | ds, P, 0 => (ds, P)
  | [], P, _ + 1 => ([], P)
  | d :: ds, P, i + 1 => (⟨crI d.S d.L P d.L.length, [], d.g⟩ :: (cQ ds (P.drop (min d.L.length P.length)) i).1, (cQ ds (P.drop (min d.L.length P.length)) i).2)
theorem eM : ∀ (i : Nat) (ds : List DevS) (P : List Int), (cQ ds P i).1.length = ds.length
  | 0, ds, P => by simp [cQ]
  | i + 1, [], P => rfl
  | i + 1, d :: ds, P => by simp [cQ, eM i]
theorem crIn_all : ∀ (ds : List DevS) (P : List Int), (cQ ds P ds.length).1 = crAll ds P
  | [], P => by simp [cQ, crAll]
  | d :: ds, P => by simp [cQ, crAll, crIn_all ds]
theorem crIn_off : ∀ (i : Nat) (ds : List DevS) (P : List Int) (j : Nat), i ≤ j → (cQ ds P i).1.getD j bk = ds.getD j bk
  | 0, ds, P, j, h => by simp [cQ]
  | i + 1, [], P, j, h => rfl
  | i + 1, d :: ds, P, 0, h => by omega
  | i + 1, d :: ds, P, j + 1, h => by simpa [cQ] using crIn_off i ds _ j (by omega)
theorem crIn_succ : ∀ (i : Nat) (ds : List DevS) (P : List Int), i < ds.length →
    (cQ ds P (i + 1)).1 = (cQ ds P i).1.set i ⟨crI (ds.getD i bk).S (ds.getD i bk).L (cQ ds P i).2 (ds.getD i bk).L.length, [], (ds.getD i bk).g⟩ ∧
    (cQ ds P (i + 1)).2 = (cQ ds P i).2.drop (min (ds.getD i bk).L.length (cQ ds P i).2.length)
  | 0, [], P, h => by simp at h
  | 0, d :: ds, P, h => by simp [cQ]
  | i + 1, [], P, h => by simp at h
  | i + 1, d :: ds, P, h => by
    obtain ⟨h1, h2⟩ := crIn_succ i ds (P.drop (min d.L.length P.length)) (by simpa using h)
    constructor
    · show _ :: (cQ ds _ (i + 1)).1 = _
      rw [h1]; rfl
    · show (cQ ds _ (i + 1)).2 = _
      rw [h2]; rfl
def Room (M : BenS) (k : Nat) : Prop := M.steps + k ≤ 1000000 ∧ M.left < 9223372036854775808 ∧ ∀ d ∈ M.ds, d.L.length + k ≤ 1000000
theorem getD_mem {α : Type} {l : List α} {k : Nat} {x : α} (h : k < l.length) : l.getD k x ∈ l := by
  rw [List.getD_eq_getElem?_getD, List.getElem?_eq_getElem h]; exact List.getElem_mem h
theorem Room.less {M : BenS} {k : Nat} (h : Room M (k + 1)) : Room M k := ⟨by have := h.1; omega, h.2.1, fun d hd => by have := h.2.2 d hd; omega⟩
theorem Room.at_ {M : BenS} {k i : Nat} (h : Room M (k + 1)) (hi : i < M.ds.length) : (M.ds.getD i bk).L.length < 1000000 := by have := h.2.2 _ (getD_mem (x := bk) hi); omega
theorem mem_set_or {α : Type} {l : List α} {k : Nat} {x y : α} (h : y ∈ l.set k x) : y ∈ l ∨ y = x := by
  rcases List.mem_or_eq_of_mem_set h with h | h
  · exact .inl h
  · exact .inr h
theorem Room.put {M : BenS} {k i : Nat} {x : DevS} (h : Room M k) (hx : x.L.length + k ≤ 1000000) : Room (M.put i x) k :=
  ⟨h.1, h.2.1, fun d hd => by
    rcases mem_set_or hd with e | e
    · exact h.2.2 d e
    · subst e; exact hx⟩
theorem Room.done {M : BenS} {k : Nat} (h : Room M (k + 1)) : Room M.done k := ⟨by have := h.1; show M.steps + 1 + k ≤ _; omega, by have := h.2.1; show M.left - 1 < _; omega, fun d hd => by have := h.2.2 d hd; omega⟩
theorem wrL_le (S : List Blk) (L : List (Int × Blk)) (g : Bool) (n : Int) (b : Blk) : (wrL S L g n b).length ≤ L.length + 1 := by
  unfold wrL; split
  · simp
  · omega
theorem room_wr {M : BenS} {k : Nat} (h : Room M (k + 1)) (d n : Int) (b : Blk) : Room (wrS6 M d n b) k := by
  unfold wrS6
  split
  · rename_i he
    split
    · exact h.less
    · have hh : ∃ i : Nat, d = i ∧ i < M.ds.length := by
        rcases cz M d with ⟨e, _⟩ | ⟨e, _⟩ | ⟨e, _, h⟩
        · unfold bT at he; rw [if_neg (by omega)] at he; omega
        · unfold bT at he; rw [if_neg (by omega)] at he; omega
        · exact h
      obtain ⟨i, rfl, hi⟩ := hh
      refine (h.done).put ?_
      have h1 := wrL_le (M.dev (i : Int)).S (M.dev (i : Int)).L (M.dev (i : Int)).g n b
      have h2 := h.2.2 _ (getD_mem (x := bk) hi)
      have h3 : (M.dev (i : Int)).L.length + (k + 1) ≤ 1000000 := h2
      show (wrL _ _ _ _ _).length + k ≤ _
      omega
  · exact h.less
theorem room_fl {M : BenS} {k : Nat} (h : Room M (k + 1)) (d : Int) : Room (flS6 M d) k := by
  unfold flS6
  split
  · split
    · exact h.less
    · exact (h.done).put (by have := h.1; show 0 + k ≤ _; omega)
  · exact h.less
structure DvK where
  Dv : World → (Nat → Prop) → Nat → List Blk → List (Int × Blk) → Bool → Prop
  lt : ∀ {w F p S L g}, Dv w F p S L g → ∀ b, F b → b < w.heap.size
  only : ∀ {w w' F G p S L g}, Dv w F p S L g → Only G w w' → (∀ b, F b → ¬ G b) → Dv w' F p S L g
structure Devs (K : DvK) (w : World) (Fs : Nat → Nat → Prop) (ps : List Nat) (ds : List DevS) : Prop where
  len : ps.length = ds.length
  at_ : ∀ i, i < ds.length → K.Dv w (Fs i) (ps.getD i 0) (ds.getD i bk).S (ds.getD i bk).L (ds.getD i bk).g
  off : ∀ i j, i < ds.length → j < ds.length → i ≠ j → ∀ b, Fs i b → ¬ Fs j b
def upF (Fs : Nat → Nat → Prop) (k : Nat) (F' : Nat → Prop) : Nat → Nat → Prop := fun i b => (i = k ∧ F' b) ∨ (i ≠ k ∧ Fs i b)
theorem upF_at (Fs : Nat → Nat → Prop) (k : Nat) (F' : Nat → Prop) : upF Fs k F' k = F' := by
  funext b; simp [upF]
theorem upF_off (Fs : Nat → Nat → Prop) {k i : Nat} (F' : Nat → Prop) (h : i ≠ k) : upF Fs k F' i = Fs i := by
  funext b; simp [upF, h]
theorem cw {α : Type} {l : List α} {k : Nat} {x d : α} (h : k < l.length) : (l.set k x).getD k d = x := by simp [List.getD, h]
theorem bl {α : Type} {l : List α} {k i : Nat} {x d : α} (h : i ≠ k) : (l.set k x).getD i d = l.getD i d := by simp [List.getD, List.getElem?_set_ne (Ne.symm h)]
section
variable {K : DvK} {w w' : World} {Fs : Nat → Nat → Prop} {ps : List Nat} {ds : List DevS} {G F' : Nat → Prop} {k : Nat}
theorem Devs.lt (h : Devs K w Fs ps ds) : ∀ i, i < ds.length → ∀ b, Fs i b → b < w.heap.size := fun i hi b hb => K.lt (h.at_ i hi) b hb
theorem Devs.only (h : Devs K w Fs ps ds) (k : Only G w w') (hn : ∀ i, i < ds.length → ∀ b, Fs i b → ¬ G b) : Devs K w' Fs ps ds :=
  ⟨h.len, fun i hi => K.only (h.at_ i hi) k (hn i hi), h.off⟩
theorem Devs.set (h : Devs K w Fs ps ds) (hk : k < ds.length) (ho : Only G w w') (hG : ∀ i, i < ds.length → i ≠ k → ∀ b, Fs i b → ¬ G b) (hg : Grow w (Fs k) F') {p : Nat} {d : DevS} (hd : K.Dv w' F' p d.S d.L d.g) : Devs K w' (upF Fs k F') (ps.set k p) (ds.set k d) := by
  have hnew : ∀ i, i < ds.length → i ≠ k → ∀ b, F' b → ¬ Fs i b := fun i hi hik b hb hf => by
    rcases hg b hb with e | e
    · exact h.off k i hk hi (Ne.symm hik) b e hf
    · have := h.lt i hi b hf; omega
  refine ⟨by rw [List.length_set, List.length_set]; exact h.len, fun i hi => ?_, fun i j hi hj hij b hb => ?_⟩
  · rw [List.length_set] at hi
    by_cases e : i = k
    · subst e
      rw [upF_at, cw hk, cw (by rw [h.len]; exact hk)]
      exact hd
    · rw [upF_off _ _ e, bl e, bl e]
      exact K.only (h.at_ i hi) ho (hG i hi e)
  · rw [List.length_set] at hi hj
    by_cases e : i = k
    · subst e
      rw [upF_at] at hb
      rw [upF_off _ _ (Ne.symm hij)]
      exact hnew j hj (Ne.symm hij) b hb
    · rw [upF_off _ _ e] at hb
      by_cases e' : j = k
      · subst e'
        rw [upF_at]
        exact fun hf => hnew i hi e b hf hb
      · rw [upF_off _ _ e']
        exact h.off i j hi hj hij b hb
theorem set_self {α : Type} {l : List α} {k : Nat} {d : α} (h : k < l.length) : l.set k (l.getD k d) = l := by
  rw [List.getD_eq_getElem?_getD, List.getElem?_eq_getElem h]
  exact List.set_getElem_self h
theorem Devs.turn (h : Devs K w Fs ps ds) (hk : k < ds.length) (ho : Only (Fs k) w w') (hg : Grow w (Fs k) F') {d : DevS} (hd : K.Dv w' F' (ps.getD k 0) d.S d.L d.g) : Devs K w' (upF Fs k F') ps (ds.set k d) := by
  have := h.set hk ho (fun i hi hik b hb hf => h.off i k hi hk hik b hb hf) hg hd
  rwa [set_self (by rw [h.len]; exact hk)] at this
theorem Devs.push (h : Devs K w Fs ps ds) (hb : Below w.heap.size w w') {p : Nat} {d : DevS} (hF : ∀ b, F' b → w.heap.size ≤ b) (hd : K.Dv w' F' p d.S d.L d.g) : Devs K w' (upF Fs ds.length F') (ps ++ [p]) (ds ++ [d]) := by
  have hlen := h.len
  refine ⟨by simp [h.len], fun i hi => ?_, fun i j hi hj hij b hb' => ?_⟩
  · rw [List.length_append, List.length_singleton] at hi
    by_cases e : i = ds.length
    · subst e
      rw [upF_at]
      have e1 : (ps ++ [p]).getD ds.length 0 = p := by simp [List.getD, ← hlen]
      have e2 : (ds ++ [d]).getD ds.length bk = d := by simp [List.getD]
      rw [e1, e2]
      exact hd
    · have hi' : i < ds.length := by omega
      rw [upF_off _ _ e]
      have e1 : (ps ++ [p]).getD i 0 = ps.getD i 0 := by simp [List.getD, List.getElem?_append_left (show i < ps.length by omega)]
      have e2 : (ds ++ [d]).getD i bk = ds.getD i bk := by simp [List.getD, List.getElem?_append_left hi']
      rw [e1, e2]
      exact K.only (h.at_ i hi') (Only.of_below (fun _ => False) hb) fun _ _ e => e
  · rw [List.length_append, List.length_singleton] at hi hj
    by_cases e : i = ds.length
    · subst e
      rw [upF_at] at hb'
      rw [upF_off _ _ (Ne.symm hij)]
      intro hf
      have := h.lt j (by omega) b hf
      have := hF b hb'
      omega
    · rw [upF_off _ _ e] at hb'
      have := h.lt i (by omega) b hb'
      by_cases e' : j = ds.length
      · subst e'
        rw [upF_at]
        intro hf
        have := hF b hf
        omega
      · rw [upF_off _ _ e']
        exact h.off i j (by omega) (by omega) hij b hb'
end
def piece (b : List UInt8) (at_ k : Nat) : List UInt8 := (b.drop at_).take k
theorem bn {b : List UInt8} {p k : Nat} (h : p + k ≤ b.length) : (piece b p k).length = k := by simp [piece]; omega
def ofL (l : List UInt8) : Blk := Vector.ofFn fun i => l.getD i.val 0
theorem ofL_byt (l : List UInt8) {j : Nat} (h : j < 64) : byt (ofL l) j = bt l j := by
  rw [eH _ h]
  simp [ofL, bt]
theorem toList_ofL {l : List UInt8} (h : l.length = 64) : (ofL l).toList = l := eQ (by simp [h]) fun k hk => ofL_byt l (by simpa using hk)
theorem cu (b : Blk) : b.toList.length = 64 := by simp
theorem ei {l : List UInt8} {p k j : Nat} (h : j < k) : bt (piece l p k) j = bt l (p + j) := by
  unfold bt piece
  simp [List.getD, List.getElem?_take_of_lt h, List.getElem?_drop]
theorem piece_eq {a b : List UInt8} {p q k : Nat} (ha : p + k ≤ a.length) (hb : q + k ≤ b.length) (h : ∀ j, j < k → bt a (p + j) = bt b (q + j)) : piece a p k = piece b q k :=
  eQ (by rw [bn ha, bn hb]) fun j hj => by
    rw [bn ha] at hj
    rw [ei hj, ei hj, h j hj]
theorem of_piece_eq {a b : List UInt8} {p q k j : Nat} (h : piece a p k = piece b q k) (hj : j < k) : bt a (p + j) = bt b (q + j) := by
  rw [← ei hj, ← ei (l := b) hj, h]
theorem piece_mid (x y z : List UInt8) {p k : Nat} (hp : x.length = p) (hk : y.length = k) : piece (x ++ (y ++ z)) p k = y := by
  subst hp hk
  simp [piece]
theorem piece_head (y z : List UInt8) {k : Nat} (hk : y.length = k) : piece (y ++ z) 0 k = y := by
  subst hk
  simp [piece]
theorem bU {x y : List UInt8} {j : Nat} (h : j < x.length) : bt (x ++ y) j = bt x j := by
  unfold bt
  simp [List.getD, List.getElem?_append_left h]
theorem cv {x y : List UInt8} {j : Nat} (h : x.length ≤ j) : bt (x ++ y) j = bt y (j - x.length) := by
  unfold bt
  simp [List.getD, List.getElem?_append_right h]
theorem bt_noughts {n j : Nat} : bt (List.replicate n 0) j = 0 := by
  unfold bt
  by_cases h : j < n
  · simp [List.getD, h]
  · simp [List.getD, h]
theorem bt_splice {l x : List UInt8} {off j : Nat} (h : off + x.length ≤ l.length) : bt (splice l off x) j = if off ≤ j ∧ j < off + x.length then bt x (j - off) else bt l j := by
  unfold splice
  have h1 : (l.take off).length = off := by simp; omega
  by_cases hlo : j < off
  · rw [if_neg (by omega), bU (by omega)]
    unfold bt
    simp [List.getD, List.getElem?_take_of_lt hlo]
  · rw [cv (by omega), h1]
    by_cases hhi : j < off + x.length
    · rw [if_pos (by omega), bU (by omega)]
    · rw [if_neg (by omega), cv (by omega)]
      unfold bt
      simp only [List.getD, List.getElem?_drop]
      rw [show off + x.length + (j - off - x.length) = j from by omega]
theorem maySize_yes (s : Int) (w : World) (h1 : 1 ≤ s) (h2 : s ≤ 8) : Calls Tryz.prog 200 #[.int .i64 s] w fun e w' => e = .returned (.bool true) ∧ w = w' := by
  go_enter Tryz.func200, Tryz.ntmps200
  go_wp2
  go_ret
  exact ⟨rfl, rfl⟩
def fitB (n k : Nat) : Bool := decide (n < 2 ^ k)
theorem fits_any (n : Nat) (c : Int) (w : World) (h0 : 0 ≤ c) (h64 : c ≤ 64) : Calls Tryz.prog 201 #[.int .u64 n, .int .i64 c] w fun e w' => e = .returned (.bool (fitB n c.toNat)) ∧ w = w' := by
  obtain ⟨k, rfl⟩ := Int.eq_ofNat_of_zero_le h0
  rw [Int.toNat_natCast]
  go_enter Tryz.func201, Tryz.ntmps201
  go_wp2
  go_ret
  refine ⟨bM ?_, rfl⟩
  have e : ((n : Int) / 2 ^ k) = ((n / 2 ^ k : Nat) : Int) := by simp
  rw [e]
  unfold fitB
  have h2 : 0 < 2 ^ k := Nat.pow_pos (by omega)
  rw [Bool.eq_iff_iff]
  simp only [beq_iff_eq, decide_eq_true_eq]
  rw [← Nat.div_eq_zero_iff_lt h2]
  omega
theorem bt_digL8 (n k j : Nat) (h : j < k) : bt (aT 8 k n) j = (n : Int) / 2 ^ (j * 8) % 256 := by
  have hl : j < (aT 8 k n).length := by rw [ax]; exact h
  rw [bt_get hl, getElem_digL (by omega) hl, Nat.mul_comm 8 j]
  simp
theorem put_ok (n k : Nat) (w : World) (h1 : 1 ≤ k) (h2 : k ≤ 8) (hn : n < 256 ^ k) :
    Calls Tryz.prog 188 #[.int .u64 n, .int .i64 k] w fun e w' => ∃ v, e = .returned (.tuple #[v, .int .i64 0]) ∧ Own w' w.heap.size v (aT 8 k n) ∧ Below w.heap.size w w' := by
  have hf : fitB n (k * 8) = true := by
    have e : (2 : Nat) ^ (k * 8) = 256 ^ k := by rw [Nat.mul_comm, Nat.pow_mul]
    unfold fitB
    rw [e]
    simpa using hn
  have HF := Lib.hid hf
  clear hf
  have hmk := fun (kl kc : IntKind) (m : Nat) (h1 : 1 * m ≤ 281474976710656) (h2 : m ≤ 9223372036854775807) (W : World) => run_make_row' (P := Tryz.prog) 160 5 (.int .u8 0) 1 Tryz.underlying160 u8info rfl kl kc m h1 h2 W
  have hmk1 := hmk .i64 .i64 k (by omega) (by omega)
  clear hmk
  go_enter Tryz.func188, Tryz.ntmps188
  go_wp2_with (first | (go_at_call 200; refine (maySize_yes _ _ (by omega) (by omega)).mono ?_; rintro e w' ⟨rfl, rfl⟩))
  refine (fits_any _ _ _ (by omega) (by omega)).mono ?_
  rintro e w' ⟨rfl, rfl⟩
  rw [show ((k : Int) * 8).toNat = k * 8 from by omega, HF.out]
  go_wp2
  clear hmk1
  have hr0 := World.rowIs_made w (Value.int .u8 0) k 5
  obtain ⟨g, hg⟩ : ∃ g, g = w.heap.size := ⟨_, rfl⟩
  rw [← hg] at hr0 ⊢
  have hbl0 : Below g w (w.alloc (.cells (madeCells #[Value.int .u8 0] k) 5)) := by rw [hg]; exact (Below.refl _ _).alloc (Nat.le_refl _) _
  have HG := Lib.hid hg
  clear hg HF
  go_loopw [21] (fun i wr => ∃ (j : Nat) (f : Nat → Int), j ≤ k ∧ i = .int .i64 j ∧ wr.rowIs g 5 k (fun j => .int .u8 (f j)) ∧ (∀ m, m < j → f m = bt (aT 8 k n) m) ∧ (∀ m, 0 ≤ f m ∧ f m ≤ 255) ∧ Below g w wr) (fun i _ => k - (intOf i).toNat)
  case atStart => exact ⟨0, fun _ => 0, Nat.zero_le _, rfl, hr0, fun j hj => absurd hj (by omega), fun _ => by simp, hbl0⟩
  case round =>
    obtain ⟨j, f, hj, rfl, hrow, hf, hr, hbl⟩ := hrel
    by_cases hlt : j < k
    · have hc := hrow.cell hlt
      have hfr := hrow.frozen j
      have HFF := Lib.hid hf
      have HR := Lib.hid hr
      clear hf hr
      go_wp2
      go_roundw
      case rel =>
        refine ⟨j + 1, _, by omega, by go_num, (hrow.set j _).congr (g := fun m => .int .u8 (if m = j then bt (aT 8 k n) j else f m)) ?_, ?_, ?_, hbl.setCell (Nat.le_refl _) _⟩
        · intro m hm
          show (if m = j then Value.int IntKind.u8 (↑n / 2 ^ (j * 8) % 256) else Value.int .u8 (f m)) = _
          split
          · rw [bt_digL8 n k j hlt]
          · rfl
        · intro m hm
          show (if m = j then bt (aT 8 k n) j else f m) = _
          split
          · subst m; rfl
          · exact HFF.out m (by omega)
        · intro m
          show 0 ≤ (if m = j then bt (aT 8 k n) j else f m) ∧ (if m = j then bt (aT 8 k n) j else f m) ≤ 255
          split
          · exact ⟨bt_lo _ _, bt_hi _ _⟩
          · exact HR.out m
      case measure => simp [intOf]; omega
    · go_wp2
      go_ret2
      have hjk : j = k := by omega
      subst hjk
      refine ⟨_, rfl, Own.of_row (ax 8 j n) (Nat.le_of_eq HG.out.symm) hrow (Nat.le_refl _) (by unfold maxLen; omega) hf hr, ?_⟩
      rw [← HG.out]
      exact hbl
theorem val_piece_succ {b : List UInt8} {p k : Nat} (h : p + k < b.length) : (val 8 (piece b p (k + 1)) : Int) = val 8 (piece b p k) + 2 ^ (k * 8) * bt b (p + k) := by
  have hk : k < (b.drop p).length := by simp; omega
  have e : piece b p (k + 1) = piece b p k ++ [b[p + k]] := by
    unfold piece
    rw [List.take_succ_eq_append_getElem hk]
    simp
  rw [e, val_append, bn (by omega), bt_get h, Nat.mul_comm 8 k]
  rw [val_one]
  push_cast
  rfl
theorem co {b : List UInt8} {p k : Nat} (h : p + k ≤ b.length) : val 8 (piece b p k) < 2 ^ (k * 8) := by
  have := val_lt (all_256 (piece b p k))
  rwa [bn h, Nat.mul_comm] at this
theorem shl_fits {s : Nat} (x : Nat) (h1 : x ≤ 255) (hs : s ≤ 56) : x * 2 ^ s ≤ 18446744073709551615 := by
  have h2 : 2 ^ s ≤ 2 ^ 56 := Nat.pow_le_pow_right (by omega) hs
  have h3 : x * 2 ^ s ≤ 255 * 2 ^ 56 := Nat.mul_le_mul h1 h2
  omega
theorem or_shl {V s : Nat} {x : Int} (h0 : 0 ≤ x) (h1 : x ≤ 255) (hs : s ≤ 56) (hV : V < 2 ^ s) :
    bits .or .u64 (V : Int) (IntKind.u64.wrap (x * 2 ^ s)) = V + 2 ^ s * x := by
  obtain ⟨m, rfl⟩ := Int.eq_ofNat_of_zero_le h0
  have hf := shl_fits (s := s) m (by omega) hs
  have hV' : V < 18446744073709551616 := by
    have h2 : 2 ^ s ≤ 2 ^ 56 := Nat.pow_le_pow_right (by omega) hs
    omega
  have e : ((m : Int) * 2 ^ s) = ((m * 2 ^ s : Nat) : Int) := by push_cast; rfl
  rw [e, IntWalk.u64_in _ ⟨by omega, by omega⟩, u64_or_nat V _ hV' (by omega), Nat.or_comm, nat_join s _ _ (Nat.mul_mod_left m (2 ^ s)) hV]
  push_cast
  rw [Int.mul_comm (2 ^ s) (m : Int), Int.add_comm]
theorem get_ok (A : Option Addr) (n c N : Nat) (b : List UInt8) (p k : Nat) (w : World) (hb : Rd w N A n b) (hn : n ≤ maxLen) (h1 : 1 ≤ k) (h2 : k ≤ 8) (h3 : p + k ≤ n) :
    Calls Tryz.prog 198 #[.slice A n c, .int .i64 p, .int .i64 k] w fun e w' => e = .returned (.tuple #[.int .u64 (val 8 (piece b p k)), .int .i64 0]) ∧ w = w' := by
  unfold maxLen at hn
  go_enter Tryz.func198, Tryz.ntmps198
  go_wp2_with (first | (go_at_call 200; refine (maySize_yes _ _ (by omega) (by omega)).mono ?_; rintro e w' ⟨rfl, rfl⟩))
  go_loop [8, 30] (fun x i => ∃ j : Nat, j ≤ k ∧ i = .int .i64 j ∧ x = .int .u64 (val 8 (piece b p j))) (fun _ i => k - (intOf i).toNat)
  case atStart => exact ⟨0, Nat.zero_le _, rfl, by simp [piece, val]⟩
  case round =>
    obtain ⟨j, hj, rfl, rfl⟩ := hrel
    by_cases hlt : j < k
    · obtain ⟨bA, oA, rfl, hA, cA⟩ := hb.2 (p + j) (by omega)
      have hlo := bt_lo b (p + j)
      have hhi := bt_hi b (p + j)
      go_wp2
      go_round
      case rel =>
        refine ⟨j + 1, by omega, by go_num, ?_⟩
        rw [val_piece_succ (by have := hb.1; omega), or_shl hlo hhi (by omega) (co (by have := hb.1; omega))]
      case measure => simp [intOf]; omega
    · go_wp2
      go_ret2
      have e : j = k := by omega
      subst e
      exact ⟨rfl, rfl⟩
def bX (b : List UInt8) : List UInt8 := b ++ List.replicate (44 - b.length) 0
def dy (n : Nat) (b : List UInt8) : List UInt8 := aT 8 8 n ++ bX b
def cW (n : Nat) (b : List UInt8) : List UInt8 := dy n b ++ (aT 8 4 (more 0 (dy n b)) ++ aT 8 8 n)
theorem dk {b : List UInt8} (h : b.length ≤ 44) : (bX b).length = 44 := by simp [bX]; omega
theorem dL {b : List UInt8} (n : Nat) (h : b.length ≤ 44) : (dy n b).length = 52 := by simp [dy, ax, dk h]
theorem sealL_length {b : List UInt8} (n : Nat) (h : b.length ≤ 44) : (cW n b).length = 64 := by simp [cW, ax, dL n h]
theorem val_piece_inj {a b : List UInt8} {p q k : Nat} (ha : p + k ≤ a.length) (hb : q + k ≤ b.length) (h : val 8 (piece a p k) = val 8 (piece b q k)) : piece a p k = piece b q k :=
  val8_inj (by rw [bn ha, bn hb]) h
def cx (l : List UInt8) : Nat := val 8 (piece l 0 8)
def agO (l : List UInt8) : Nat := val 8 (piece l 56 8)
def sumO (l : List UInt8) : Nat := val 8 (piece l 52 4)
def crcO (l : List UInt8) : Nat := more 0 (piece l 0 52)
def cX (l : List UInt8) : Nat := if cx l = 0 ∨ cx l ≠ agO l then 5 else if sumO l ≠ crcO l then 6 else 0
def di (l : List UInt8) : Nat := if cX l = 0 then cx l else 0
def cM (l : List UInt8) : List UInt8 := if cX l = 0 then piece l 8 44 else []
theorem getE_form {l : List UInt8} (h : cx l = 0 ∨ cx l ≠ agO l) : cX l = 5 := by unfold cX; rw [if_pos h]
theorem getE_sum {l : List UInt8} (h0 : cx l ≠ 0) (h1 : cx l = agO l) (h : sumO l ≠ crcO l) : cX l = 6 := by
  unfold cX
  rw [if_neg (by omega), if_pos h]
theorem getE_ok {l : List UInt8} (h0 : cx l ≠ 0) (h1 : cx l = agO l) (h : sumO l = crcO l) : cX l = 0 := by
  unfold cX
  rw [if_neg (by omega), if_neg (by omega)]
theorem of_getE {l : List UInt8} (h : cX l = 0) : cx l ≠ 0 ∧ cx l = agO l ∧ sumO l = crcO l := by
  unfold cX at h
  split at h
  · omega
  · split at h
    · omega
    · omega
theorem getN_of {l : List UInt8} (h : cX l = 0) : di l = cx l := if_pos h
theorem getN_no {l : List UInt8} (h : cX l ≠ 0) : di l = 0 := if_neg h
theorem getB_of {l : List UInt8} (h : cX l = 0) : cM l = piece l 8 44 := if_pos h
theorem getB_no {l : List UInt8} (h : cX l ≠ 0) : cM l = [] := if_neg h
theorem numO_lt {l : List UInt8} (h : l.length = 64) : cx l < 18446744073709551616 := co (b := l) (p := 0) (k := 8) (by omega)
theorem sumO_lt {l : List UInt8} (h : l.length = 64) : sumO l < 4294967296 := co (b := l) (p := 52) (k := 4) (by omega)
theorem crcO_lt (l : List UInt8) : crcO l < 4294967296 := more_lt (by omega) _
theorem getN_lt {l : List UInt8} (h : l.length = 64) : di l < 18446744073709551616 := by
  have := numO_lt h
  unfold di
  split <;> omega
theorem seal_first (n : Nat) (b : List UInt8) : piece (cW n b) 0 8 = aT 8 8 n := by
  rw [show cW n b = aT 8 8 n ++ (bX b ++ (aT 8 4 (more 0 (dy n b)) ++ aT 8 8 n)) from by simp [cW, dy]]
  exact piece_head _ _ (ax _ _ _)
theorem seal_num {n : Nat} {b : List UInt8} (hn : n < 18446744073709551616) : cx (cW n b) = n := by
  unfold cx
  rw [seal_first, val_digL (by omega)]
  exact Nat.mod_eq_of_lt hn
section
variable {n : Nat} {b : List UInt8} (hb : b.length ≤ 44)
include hb
theorem seal_last : piece (cW n b) 56 8 = aT 8 8 n := by
  rw [show cW n b = (dy n b ++ aT 8 4 (more 0 (dy n b))) ++ (aT 8 8 n ++ []) from by simp [cW]]
  exact piece_mid _ _ _ (by simp [dL n hb, ax]) (ax _ _ _)
theorem seal_sum : piece (cW n b) 52 4 = aT 8 4 (more 0 (dy n b)) := piece_mid _ _ _ (dL n hb) (ax _ _ _)
theorem seal_head : piece (cW n b) 0 52 = dy n b := piece_head _ _ (dL n hb)
theorem seal_body : piece (cW n b) 8 44 = bX b := by
  rw [show cW n b = aT 8 8 n ++ (bX b ++ (aT 8 4 (more 0 (dy n b)) ++ aT 8 8 n)) from by simp [cW, dy]]
  exact piece_mid _ _ _ (ax _ _ _) (dk hb)
theorem seal_ag (hn : n < 18446744073709551616) : agO (cW n b) = n := by
  unfold agO
  rw [seal_last hb, val_digL (by omega)]
  exact Nat.mod_eq_of_lt hn
theorem seal_ok (hn : n < 18446744073709551616) (h0 : n ≠ 0) : cX (cW n b) = 0 := by
  refine getE_ok (by rw [seal_num hn]; exact h0) (by rw [seal_num hn, seal_ag hb hn]) ?_
  unfold sumO crcO
  rw [seal_sum hb, seal_head hb, val_digL (by omega)]
  exact Nat.mod_eq_of_lt (more_lt (by omega) _)
theorem seal_getN (hn : n < 18446744073709551616) (h0 : n ≠ 0) : di (cW n b) = n := by rw [getN_of (seal_ok hb hn h0), seal_num hn]
theorem seal_getB (hn : n < 18446744073709551616) (h0 : n ≠ 0) : cM (cW n b) = bX b := by rw [getB_of (seal_ok hb hn h0), seal_body hb]
end
def putE (n : Nat) (b : List UInt8) : Nat := if n = 0 then 2 else if 44 < b.length then 3 else 0
def putB (n : Nat) (b : List UInt8) : Blk := if putE n b = 0 then ofL (cW n b) else al
theorem putE_ok {n : Nat} {b : List UInt8} (h0 : n ≠ 0) (hb : b.length ≤ 44) : putE n b = 0 := by unfold putE; rw [if_neg h0, if_neg (by omega)]
theorem of_putE {n : Nat} {b : List UInt8} (h : putE n b = 0) : n ≠ 0 ∧ b.length ≤ 44 := by
  unfold putE at h
  split at h
  · omega
  · split at h <;> omega
theorem putB_ok {n : Nat} {b : List UInt8} (h : putE n b = 0) : putB n b = ofL (cW n b) := if_pos h
theorem putB_list {n : Nat} {b : List UInt8} (h : putE n b = 0) : (putB n b).toList = cW n b := by
  rw [putB_ok h, toList_ofL (sealL_length n (of_putE h).2)]
theorem put_getE {n : Nat} {b : List UInt8} (hn : n < 18446744073709551616) (h : putE n b = 0) : cX (putB n b).toList = 0 := by
  rw [putB_list h]; exact seal_ok (of_putE h).2 hn (of_putE h).1
theorem put_getN {n : Nat} {b : List UInt8} (hn : n < 18446744073709551616) (h : putE n b = 0) : di (putB n b).toList = n := by
  rw [putB_list h]; exact seal_getN (of_putE h).2 hn (of_putE h).1
theorem put_getB {n : Nat} {b : List UInt8} (hn : n < 18446744073709551616) (h : putE n b = 0) : cM (putB n b).toList = bX b := by
  rw [putB_list h]; exact seal_getB (of_putE h).2 hn (of_putE h).1
theorem zero_getE : cX al.toList = 5 := getE_form (.inl (by decide +kernel))
theorem ends_of {b : Blk} (h : cx b.toList = agO b.toList) {j : Nat} (hj : j < 8) : byt b j = byt b (56 + j) := by
  have := of_piece_eq (val_piece_inj (by simp) (by simp) h) hj
  rwa [Nat.zero_add] at this
theorem num_of_ends {a b : Blk} (h : ∀ j, j < 8 → byt a j = byt b j) : cx a.toList = cx b.toList := by
  unfold cx
  rw [piece_eq (a := a.toList) (b := b.toList) (p := 0) (q := 0) (k := 8) (by simp) (by simp) fun j hj => by rw [Nat.zero_add]; exact h j hj]
theorem torn_whole {old now : Blk} {n : Int} (hn : cx now.toList = agO now.toList) (ho : cx old.toList = agO old.toList) (hne : cx now.toList ≠ cx old.toList) (h : cx (torn old now n).toList = agO (torn old now n).toList) :
    torn old now n = now ∨ torn old now n = old := by
  by_cases hk : 56 < n
  · left
    apply blk_ext
    intro j hj
    rw [dR _ _ _ hj]
    split
    · rfl
    · rename_i hlt
      have e := ends_of h (j := j - 56) (by omega)
      rw [dR _ _ _ (by omega), dR _ _ _ (by omega), if_pos (by omega), if_neg (by omega), ends_of hn (by omega)] at e
      rw [show 56 + (j - 56) = j from by omega] at e
      exact e.symm
  · by_cases h8 : 8 ≤ n
    · exfalso
      apply hne
      apply num_of_ends
      intro j hj
      have e := ends_of h hj
      rw [dR _ _ _ (by omega), dR _ _ _ (by omega), if_pos (by omega), if_neg (by omega), ← ends_of ho hj] at e
      exact e
    · right
      apply blk_ext
      intro j hj
      rw [dR _ _ _ hj]
      split
      · rename_i hlt
        have hj8 : j < 8 := by omega
        have e := ends_of h hj8
        rw [dR _ _ _ (by omega), dR _ _ _ (by omega), if_pos (by omega), if_neg (by omega), ← ends_of ho hj8] at e
        exact e
      · rfl
def evB (n : Nat) : Bool := decide (1 ≤ n ∧ n ≤ 4611686018427387904)
theorem of_evB {n : Nat} (h : evB n = true) : 1 ≤ n ∧ n ≤ 4611686018427387904 := of_decide_eq_true h
theorem padL_full {b : List UInt8} (h : b.length = 44) : bX b = b := by simp [bX, h]
theorem headL_pad {b : List UInt8} (n : Nat) (h : b.length ≤ 44) : dy n (bX b) = dy n b := by unfold dy; rw [padL_full (dk h)]
theorem sealL_pad {b : List UInt8} (n : Nat) (h : b.length ≤ 44) : cW n (bX b) = cW n b := by unfold cW; rw [headL_pad n h]
theorem val_dig {k n : Nat} (h : n < 2 ^ (8 * k)) : val 8 (aT 8 k n) = n := by rw [val_digL (by omega), Nat.mod_eq_of_lt h]
theorem getN_lt64 (b : Blk) : di b.toList < 18446744073709551616 := getN_lt (by simp)
theorem eJ {b : Blk} (h : cX b.toList = 0) : (cM b.toList).length = 44 := by rw [getB_of h]; exact bn (by simp)
structure Cod (Y : Type) where
  zero : Y
  may : Y → Bool
  num : Y → Nat
  body : Y → List UInt8
  told : Nat → List UInt8 → Y
  fits : Y → Prop
  may_num : ∀ y, may y = true → 1 ≤ num y ∧ num y ≤ 4611686018427387904
  len : ∀ y, (body y).length ≤ 44
  back : ∀ y, fits y → may y = true → told (num y) (bX (body y)) = y
  num_told : ∀ n l, num (told n l) = n
  fits_told : ∀ n l, l.length = 44 → n < 18446744073709551616 → fits (told n l)
  zero_no : may zero = false
  zero_num : num zero = 0
  zero_fits : fits zero
namespace Cod
variable {Y : Type} (C : Cod Y)
def full (y : Y) : List UInt8 := bX (C.body y)
theorem full_length (y : Y) : (C.full y).length = 44 := dk (C.len y)
def pE (y : Y) : Nat := if C.may y = true then 0 else 2
def pB (y : Y) : Blk := if C.may y = true then putB (C.num y) (C.body y) else al
theorem pE_ok {y : Y} (h : C.may y = true) : C.pE y = 0 := if_pos h
theorem pB_ok {y : Y} (h : C.may y = true) : C.pB y = putB (C.num y) (C.body y) := if_pos h
theorem pE_no {y : Y} (h : ¬ C.may y = true) : C.pE y = 2 := if_neg h
theorem pB_no {y : Y} (h : ¬ C.may y = true) : C.pB y = al := if_neg h
theorem of_pE {y : Y} (h : C.pE y = 0) : C.may y = true := by
  unfold pE at h
  split at h
  · assumption
  · omega
theorem putE_full (n : Nat) (y : Y) : putE n (C.full y) = putE n (C.body y) := by
  have h1 := C.full_length y
  have h2 := C.len y
  unfold putE
  rw [if_neg (show ¬ 44 < (C.full y).length by omega), if_neg (show ¬ 44 < (C.body y).length by omega)]
theorem putB_full (n : Nat) (y : Y) : putB n (C.full y) = putB n (C.body y) := by
  unfold putB; rw [C.putE_full]; unfold full; rw [sealL_pad n (C.len y)]
theorem body_putE {n : Nat} (y : Y) (h : n ≠ 0) : putE n (C.body y) = 0 := putE_ok h (C.len y)
theorem may_putE {y : Y} (h : C.may y = true) : putE (C.num y) (C.body y) = 0 := C.body_putE y (by have := C.may_num y h; omega)
def raw (b : Blk) : Y := C.told (di b.toList) (cM b.toList)
def good (b : Blk) : Bool := C.may (C.raw b) && decide (C.full (C.raw b) = cM b.toList)
theorem ep {b : Blk} : C.good b = true ↔ C.may (C.raw b) = true ∧ C.full (C.raw b) = cM b.toList := by
  unfold good; simp
def gE (b : Blk) : Nat := if cX b.toList ≠ 0 then cX b.toList else if C.good b = true then 0 else 5
def gX (b : Blk) : Y := if C.gE b = 0 then C.raw b else C.zero
def gN (b : Blk) : Nat := C.num (C.gX b)
theorem gE_seal {b : Blk} (h : cX b.toList ≠ 0) : C.gE b = cX b.toList := if_pos h
theorem gE_form {b : Blk} (h : cX b.toList = 0) (h' : ¬ C.good b = true) : C.gE b = 5 := by
  unfold gE; rw [if_neg (by omega), if_neg h']
theorem gE_ok {b : Blk} (h : cX b.toList = 0) (h' : C.good b = true) : C.gE b = 0 := by
  unfold gE; rw [if_neg (by omega), if_pos h']
theorem of_gE {b : Blk} (h : C.gE b = 0) : cX b.toList = 0 ∧ C.may (C.raw b) = true ∧ C.full (C.raw b) = cM b.toList := by
  unfold gE at h
  split at h
  · omega
  · rename_i h0
    split at h
    · rename_i h1; exact ⟨by omega, C.ep.1 h1⟩
    · omega
theorem gX_of {b : Blk} (h : C.gE b = 0) : C.gX b = C.raw b := if_pos h
theorem gX_no {b : Blk} (h : C.gE b ≠ 0) : C.gX b = C.zero := if_neg h
theorem gN_of {b : Blk} (h : C.gE b = 0) : C.gN b = di b.toList := by unfold gN; rw [C.gX_of h]; exact C.num_told _ _
theorem gN_no {b : Blk} (h : C.gE b ≠ 0) : C.gN b = 0 := by unfold gN; rw [C.gX_no h]; exact C.zero_num
theorem gX_may {b : Blk} (h : C.gE b = 0) : C.may (C.gX b) = true := by rw [C.gX_of h]; exact (C.of_gE h).2.1
theorem gN_pos {b : Blk} (h : C.gE b = 0) : 1 ≤ C.gN b := (C.may_num _ (C.gX_may h)).1
theorem gN_zero {b : Blk} : C.gN b = 0 ↔ C.gE b ≠ 0 := by
  constructor
  · intro h e
    have := C.gN_pos e
    omega
  · exact C.gN_no
theorem gX_fits (b : Blk) : C.fits (C.gX b) := by
  by_cases h : C.gE b = 0
  · rw [C.gX_of h]
    exact C.fits_told _ _ (eJ (C.of_gE h).1) (getN_lt64 b)
  · rw [C.gX_no h]; exact C.zero_fits
theorem put_get {y : Y} (hf : C.fits y) (h : C.pE y = 0) : C.gE (C.pB y) = 0 ∧ C.gX (C.pB y) = y := by
  have h1 := C.of_pE h
  have h2 := C.may_num y h1
  have hn : C.num y < 18446744073709551616 := by omega
  have hp := C.may_putE h1
  have e1 := put_getE hn hp
  have e2 := put_getN hn hp
  have e3 := put_getB hn hp
  rw [C.pB_ok h1]
  have e4 : C.raw (putB (C.num y) (C.body y)) = y := by unfold raw; rw [e2, e3]; exact C.back y hf h1
  have hE : C.gE (putB (C.num y) (C.body y)) = 0 := C.gE_ok e1 (C.ep.2 ⟨by rw [e4]; exact h1, by rw [e4, e3]; rfl⟩)
  exact ⟨hE, by rw [C.gX_of hE, e4]⟩
theorem put_gN {y : Y} (hf : C.fits y) (h : C.pE y = 0) : C.gN (C.pB y) = C.num y := by unfold gN; rw [(C.put_get hf h).2]
theorem g_zero : C.gE al = 5 := by rw [C.gE_seal (by rw [zero_getE]; omega), zero_getE]
def nE (a b : Blk) : Nat := if C.gN a = 0 ∧ C.gN b = 0 then 7 else 0
def nX (a b : Blk) : Y := if C.gN a < C.gN b then C.gX b else C.gX a
end Cod
end Go.Proofs.YtcafafdimcecpaaGreatDoor
