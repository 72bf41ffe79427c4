/-
  Cells in memory of the call's own: a row of them made, one laid part by part; what was told so far.
-/
import Derived.Test.YtfemlaombdeebaaDoorCpm
import Derived.Laws.MakeOwn
namespace Go.Proofs.YtfemlaombdeebaaDoor
open Go.RowKit
set_option linter.unusedVariables false
set_option linter.unusedSimpArgs false
set_option maxRecDepth 100000

/-! ### A row made -/
theorem flatE_zeros {α : Type} (E : Elt α) (hz : E.z.cells.toList = E.cel E.d) (n : Nat) : (flatE E (List.replicate n E.d)).toArray = madeCells E.z.cells (n * E.n) := by
  have hp := E.pos
  apply Array.ext
  · rw [size_madeCells, List.size_toArray, flatE_length, List.length_replicate]
  · intro j h1 h2
    rw [size_madeCells] at h2
    have hjn : j / E.n < n := Nat.div_lt_of_lt_mul (by rw [Nat.mul_comm]; exact h2)
    have hr : j % E.n < E.n := Nat.mod_lt _ hp
    have hk : j / E.n < (List.replicate n E.d).length := by rw [List.length_replicate]; exact hjn
    have := flatE_at E (List.replicate n E.d) hk hr
    rw [Nat.div_add_mod'] at this
    have hd0 : (List.replicate n E.d).getD (j / E.n) E.d = E.d := by
      rw [List.getD, List.getElem?_replicate]
      split <;> rfl
    rw [hd0, List.getElem?_eq_getElem (by simpa using h1), List.getElem?_eq_getElem (by rw [E.len]; exact hr)] at this
    injection this with this
    have e1 : (flatE E (List.replicate n E.d)).toArray[j] = (flatE E (List.replicate n E.d))[j]'(by simpa using h1) := by simp
    rw [e1, this]
    simp only [madeCells, Array.getElem_map, Array.getElem_range, E.zc]
    have hs : j % E.n < E.z.cells.size := by rw [E.zc]; exact hr
    rw [getElem!_pos E.z.cells (j % E.n) hs]
    have e2 : E.z.cells[j % E.n] = E.z.cells.toList[j % E.n]'(by simpa using hs) := by simp
    rw [e2]
    simp only [hz]
theorem exec_makeE {α : Type} {E : Elt α} {ρ : Operand → Value} {o : Oper} {x y : Operand} {w : World} {n : Nat} (ho : o.op = .makeSlice E.s x y) (hx : ρ x = .int .i64 (n : Int)) (hy : ρ y = .int .i64 (n : Int)) (hn : n ≤ 1000000) :
    (execOp ρ o).run Tryd.prog w = .ok (.value (.slice (some ⟨w.heap.size, 0, none⟩) n n)) (w.alloc (.cells (madeCells E.z.cells (n * E.n)) E.t)) := by
  obtain ⟨i0, hi, hz0, hz1, hz2⟩ := info_parts E.info
  have hb : (i0.bytes : Int) * n ≤ 281474976710656 := by
    have h1 := Nat.mul_le_mul E.small hn
    rw [hz2]
    have h2 : E.by_ * n ≤ 4096000000 := by simpa using h1
    have : ((E.by_ * n : Nat) : Int) ≤ 4096000000 := by omega
    rw [Int.natCast_mul] at this
    omega
  have hr := run_make (P := Tryd.prog) w E.s E.t i0 E.z E.und hi hz0 .i64 .i64 n n (by omega) (Int.le_refl _) hb (by omega)
  rw [hz1] at hr
  simp only [Int.toNat_natCast] at hr
  unfold execOp
  simp only [ho, hx, hy, Sem.run_bind, hr, Result.andThen_ok, Sem.run_pure]
theorem cells_made (w : World) (n B : Nat) (hB : B ≤ w.heap.size) (hn : n ≤ 1000000) : MadeE CellE (w.alloc (.cells (madeCells CellE.z.cells (n * CellE.n)) CellE.t)) B (.slice (some ⟨w.heap.size, 0, none⟩) n n) (List.replicate n zeroC) := by
  refine MadeE.of_block (heap_alloc_new w _) ?_ hB (by simp) (by unfold maxLen; omega)
  rw [← flatE_zeros CellE rfl n]
  rfl
/-! ### A list of one block; a row's own block -/
theorem rdB_new1 (w : World) (b : Blk) : RdB (w.alloc (.cells (cel b).toArray 38)) (w.heap.size + 1) (some ⟨w.heap.size, 0, none⟩) 1 [b] := by
  have h := rdB_new w [b] 38
  have e : flat [b] = cel b := by simp [flat]
  rw [e] at h
  exact h
theorem MadeB.ltB {w : World} {B : Nat} {v : Value} {l : List Blk} (h : MadeB w B v l) : ∀ k, v.ownBlock = some k → B ≤ k := by
  intro k hk
  rcases h.2 with ⟨rfl, _⟩ | ⟨g, cap, cur, rfl, hbg, _⟩
  · simp [Value.ownBlock] at hk
  · simp [Value.ownBlock] at hk; omega
/-! ### An element's parts -/
section
variable {ρ : Operand → Value} {o : Oper} {x y : Operand} {w : World} {B g n c k : Nat} {l : List Cl} {s m s0 m0 : Int} {b b0 : Blk} {L : List Blk}
theorem exec_indexC (ho : o.op = .indexAddr 24 x y) (hx : ρ x = .slice (some ⟨g, 0, none⟩) n c) (hy : ρ y = .int .i64 (k : Int)) (hk : k < n) : (execOp ρ o).run Tryd.prog w = .ok (.value (.pointer (some ⟨g, k * 66, none⟩))) w := by
  have h := exec_indexE (E := CellE) (ρ := ρ) (o := o) (w := w) ho hx hy hk
  rwa [Nat.zero_add] at h
theorem stInt {a : Addr} {v : Value} {u : Int} (h : w.cell? a = some v) (hf : w.frozen? a = false) : (Instr.storeAt 3 (.pointer (some a)) (.int .i64 u)).run Tryd.prog w = .ok () (w.setCell a (.int .i64 u)) := by simp [go_sem, h, hf]
theorem exec_stInt {u : Int} {b off : Nat} (ho : o.op = .store 3 x y) (hx : ρ x = .pointer (some ⟨b, off, none⟩)) (hy : ρ y = .int .i64 u) (h : w.there b off 1) : (execOp ρ o).run Tryd.prog w = .ok .skip (w.setCells b off [.int .i64 u]) := by
  obtain ⟨h1, h2⟩ := h 0 (by omega)
  rw [Nat.add_zero] at h1 h2
  obtain ⟨v, hv⟩ := Option.isSome_iff_exists.1 h1
  exact exec_st ho hx hy (stInt hv h2)
theorem MadeE.cl_s (h : MadeE CellE w B (.slice (some ⟨g, 0, none⟩) n n) l) (hk : k < n) (hx : l.getD k zeroC = ⟨s0, m0, b0⟩) (s : Int) : MadeE CellE (w.setCells g (k * 66) [.int .i64 s]) B (.slice (some ⟨g, 0, none⟩) n n) (l.set k ⟨s, m0, b0⟩) := by
  have := MadeE.put (j := 0) (vs := [.int .i64 s]) h hk ⟨s, m0, b0⟩ (by show _ = List.take 0 (celC (l.getD k zeroC)) ++ _ ++ List.drop _ (celC (l.getD k zeroC)); rw [hx]; rfl) (by show 0 + 1 ≤ 66; omega)
  exact this
theorem MadeE.cl_m (h : MadeE CellE w B (.slice (some ⟨g, 0, none⟩) n n) l) (hk : k < n) (hx : l.getD k zeroC = ⟨s0, m0, b0⟩) (m : Int) : MadeE CellE (w.setCells g (k * 66 + 1) [.int .i64 m]) B (.slice (some ⟨g, 0, none⟩) n n) (l.set k ⟨s0, m, b0⟩) := by
  have := MadeE.put (j := 1) (vs := [.int .i64 m]) h hk ⟨s0, m, b0⟩ (by show _ = List.take 1 (celC (l.getD k zeroC)) ++ _ ++ List.drop _ (celC (l.getD k zeroC)); rw [hx]; rfl) (by show 1 + 1 ≤ 66; omega)
  exact this
theorem MadeE.cl_b (h : MadeE CellE w B (.slice (some ⟨g, 0, none⟩) n n) l) (hk : k < n) (hx : l.getD k zeroC = ⟨s0, m0, b0⟩) (b : Blk) : MadeE CellE (w.setCells g (k * 66 + 2) (cel b)) B (.slice (some ⟨g, 0, none⟩) n n) (l.set k ⟨s0, m0, b⟩) := by
  have := MadeE.put (j := 2) (vs := cel b) h hk ⟨s0, m0, b⟩ (by
    show celC _ = List.take 2 (celC (l.getD k zeroC)) ++ _ ++ List.drop _ (celC (l.getD k zeroC))
    rw [hx, List.drop_eq_nil_of_le (by rw [celC_length, cel_length]; omega), List.append_nil]
    rfl) (by rw [cel_length]; show 2 + 64 ≤ 66; omega)
  exact this
theorem MadeE.cl_there (h : MadeE CellE w B (.slice (some ⟨g, 0, none⟩) n n) l) (hk : k < n) {j m : Nat} (hj : j + m ≤ 66) : w.there g (k * 66 + j) m := MadeE.there h hk hj
/-! ### Bytes of sectors that came in -/
theorem RdB.byts {A : Option Addr} {N : Nat} (h : RdB w N A n L) : Rd w N A (64 * n) (byts L) :=
  ⟨by rw [byts_length, h.1], fun j hj => by
    obtain ⟨b, off, e, hb, hc⟩ := h.2 (j / 64) (by omega)
    refine ⟨b, off, e, hb, ?_⟩
    have h1 := hc (j % 64) _ (cel_at _ (by omega))
    have e2 : j = 64 * (j / 64) + j % 64 := by omega
    rw [show off + j / 64 * 64 + j % 64 = off + j from by omega] at h1
    rw [h1]
    conv => rhs; rw [e2]
    rw [bt_byts (by have := h.1; omega) (by omega)]⟩
end
/-! ### What was told so far -/
def tlK (T : List Cl) (k : Nat) : List Cl := T.take k ++ List.replicate (T.length - k) zeroC
theorem tlK_zero (T : List Cl) : tlK T 0 = List.replicate T.length zeroC := rfl
theorem tlK_all (T : List Cl) : tlK T T.length = T := by simp [tlK]
section
variable {T : List Cl} {k : Nat} (hk : k < T.length)
include hk
theorem tlK_at : (tlK T k).getD k zeroC = zeroC := by
  unfold tlK
  rw [List.getD, List.getElem?_append_right (by rw [List.length_take]; omega), List.getElem?_replicate]
  split <;> rfl
theorem tlK_len : (tlK T k).length = T.length := by
  unfold tlK
  rw [List.length_append, List.length_take, List.length_replicate]
  omega
theorem tlK_set : (tlK T k).set k (T.getD k zeroC) = tlK T (k + 1) := by
  have hlen : (T.take k).length = k := by rw [List.length_take]; omega
  unfold tlK
  rw [List.set_append_right _ _ (by omega), hlen, Nat.sub_self, show T.length - k = (T.length - (k + 1)) + 1 from by omega, List.replicate_succ, List.set_cons_zero, List.take_add_one, List.getElem?_eq_getElem hk, List.getD, List.getElem?_eq_getElem hk, Option.getD_some, Option.toList_some, List.append_assoc, List.singleton_append]
end
theorem set_at {l : List Cl} {k : Nat} (hk : k < l.length) (c : Cl) : (l.set k c).getD k zeroC = c := by
  rw [List.getD, List.getElem?_set_self hk]
  rfl
end Go.Proofs.YtfemlaombdeebaaDoor
