/-
  Rows of elements that a call makes, all 0. (Out of XCpk.)
-/
import Derived.Test.YtmhcpiafhbnclaaEltOps
import Derived.Laws.MakeOwn
namespace Go.Proofs.Ytmhcpiafhbnclaa
open Go.RowKit
set_option linter.unusedVariables false
set_option linter.unusedSimpArgs false
set_option maxRecDepth 100000

/-! ### A row made -/
theorem flatE_zeros {α : Type} (E : Elt α) (hz : E.z.cells.toList = E.cel E.d) (n : Nat) : (flatE E (List.replicate n E.d)).toArray = madeCells E.z.cells (n * E.n) := by
  have hp := E.pos
  apply Array.ext
  · rw [size_madeCells, List.size_toArray, flatE_length, List.length_replicate]
  · intro j h1 h2
    rw [size_madeCells] at h2
    have hjn : j / E.n < n := Nat.div_lt_of_lt_mul (by rw [Nat.mul_comm]; exact h2)
    have hr : j % E.n < E.n := Nat.mod_lt _ hp
    have hk : j / E.n < (List.replicate n E.d).length := by rw [List.length_replicate]; exact hjn
    have := flatE_at E (List.replicate n E.d) hk hr
    rw [Nat.div_add_mod'] at this
    have hd0 : (List.replicate n E.d).getD (j / E.n) E.d = E.d := by
      rw [List.getD, List.getElem?_replicate]
      split <;> rfl
    rw [hd0, List.getElem?_eq_getElem (by simpa using h1), List.getElem?_eq_getElem (by rw [E.len]; exact hr)] at this
    injection this with this
    have e1 : (flatE E (List.replicate n E.d)).toArray[j] = (flatE E (List.replicate n E.d))[j]'(by simpa using h1) := by simp
    rw [e1, this]
    simp only [madeCells, Array.getElem_map, Array.getElem_range, E.zc]
    have hs : j % E.n < E.z.cells.size := by rw [E.zc]; exact hr
    rw [getElem!_pos E.z.cells (j % E.n) hs]
    have e2 : E.z.cells[j % E.n] = E.z.cells.toList[j % E.n]'(by simpa using hs) := by simp
    rw [e2]
    simp only [hz]
theorem exec_makeE {α : Type} {E : Elt α} {ρ : Operand → Value} {o : Oper} {x y : Operand} {w : World} {n : Nat} (ho : o.op = .makeSlice E.s x y) (hx : ρ x = .int .i64 (n : Int)) (hy : ρ y = .int .i64 (n : Int)) (hn : n ≤ 1000000) :
    (execOp ρ o).run Try.prog w = .ok (.value (.slice (some ⟨w.heap.size, 0, none⟩) n n)) (w.alloc (.cells (madeCells E.z.cells (n * E.n)) E.t)) := by
  obtain ⟨i0, hi, hz0, hz1, hz2⟩ := info_parts E.info
  have hb : (i0.bytes : Int) * n ≤ 281474976710656 := by
    have h1 := Nat.mul_le_mul E.small hn
    rw [hz2]
    have h2 : E.by_ * n ≤ 4096000000 := by simpa using h1
    have : ((E.by_ * n : Nat) : Int) ≤ 4096000000 := by omega
    rw [Int.natCast_mul] at this
    omega
  have hr := run_make (P := Try.prog) w E.s E.t i0 E.z E.und hi hz0 .i64 .i64 n n (by omega) (Int.le_refl _) hb (by omega)
  rw [hz1] at hr
  simp only [Int.toNat_natCast] at hr
  unfold execOp
  simp only [ho, hx, hy, Sem.run_bind, hr, Result.andThen_ok, Sem.run_pure]
theorem made_zeros {α : Type} (E : Elt α) (hz : E.z.cells.toList = E.cel E.d) (w : World) (n B : Nat) (hB : B ≤ w.heap.size) (hn : n ≤ 1000000) : MadeE E (w.alloc (.cells (madeCells E.z.cells (n * E.n)) E.t)) B (.slice (some ⟨w.heap.size, 0, none⟩) n n) (List.replicate n E.d) := by
  refine MadeE.of_block (heap_alloc_new w _) ?_ hB (by simp) (by unfold maxLen; omega)
  rw [← flatE_zeros E hz n]
end Go.Proofs.Ytmhcpiafhbnclaa
