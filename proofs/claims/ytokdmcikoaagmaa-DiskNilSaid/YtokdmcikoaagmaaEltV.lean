/-
  Elements by value, whatever their type: load, alloc, store into what was laid last; ranges of the new block.
-/
import Derived.Test.YtokdmcikoaagmaaEltOps
import Derived.Test.YtokdmcikoaagmaaBlkE
namespace Go.Proofs.Ytokdmcikoaagmaa
open Go.RowKit
set_option linter.unusedVariables false

section
variable {α : Type} {E : Elt α} {ρ : Operand → Value} {o : Oper} {x y : Operand} {w : World} {b off : Nat} {a : α} {d : TypeDesc}
theorem size_infoE (E : Elt α) : (Try.prog.info? E.t).map (·.size) = some E.n := by
  obtain ⟨i0, hi, hz0, hz1, hz2⟩ := info_parts E.info
  rw [hi]; simp [hz1]
theorem exec_loadE (hu : Try.prog.underlying E.t = some d) (hd : d.isRow = true) (ho : o.op = .load E.t x) (hx : ρ x = .pointer (some ⟨b, off, none⟩)) (hc : w.rangeAt b off (E.cel a)) : (execOp ρ o).run Try.prog w = .ok (.value (.agg (E.cel a).toArray)) w :=
  exec_ld ho hx (run_loadAt_mid w b off E.t (E.cel a) d hc hu hd (by rw [E.len]; exact size_infoE E))
theorem exec_allocE (ho : o.op = .alloc E.t) : (execOp ρ o).run Try.prog w = .ok (.value (.pointer (some ⟨w.heap.size, 0, none⟩))) (w.alloc (.cells E.z.cells E.t)) := by
  have hz := run_zeroE E w
  unfold execOp
  simp [ho, Instr.alloc, hz, newVar, newRow]
theorem exec_fillE (ho : o.op = .store E.t x y) (hx : ρ x = .pointer (some ⟨w.heap.size, 0, none⟩)) (hy : ρ y = .agg (E.cel a).toArray) : (execOp ρ o).run Try.prog (w.alloc (.cells E.z.cells E.t)) = .ok .skip (w.alloc (.cells (E.cel a).toArray E.t)) :=
  exec_st ho hx hy (run_storeAt_new (P := Try.prog) w E.t E.z.cells (E.cel a).toArray (by simpa [E.len] using size_infoE E) (by simpa [E.len] using E.zc) (all_oneCell_toArray (E.one a)))
end
section
variable {w : World} {q : Int × Blk} {t : TypeId}
theorem pair_new (w : World) (q : Int × Blk) (t : TypeId) : (w.alloc (.cells (cel65 q).toArray t)).cell? ⟨w.heap.size, 0, none⟩ = some (.int .i64 q.1) ∧ (w.alloc (.cells (cel65 q).toArray t)).rangeAt w.heap.size 1 (cel q.2) := by
  have h := range_new w (cel65 q) t
  refine ⟨h 0 _ rfl, fun j v hj => ?_⟩
  have := h (j + 1) v hj
  rwa [show 0 + (j + 1) = 1 + j from by omega] at this
theorem RdE.pairs {s t : TypeId} {und : Try.prog.underlying s = some (.slice t)} {info : (Try.prog.info? t).map (fun i => (i.zero, i.size, i.bytes)) = some (some (pairV 0 zeroB), 65, 72)} {B n k : Nat} {A : Option Addr} {l : List (Int × Blk)}
    (h : RdE (pairE s t und info) w B A n l) (hk : k < n) : ∃ b off, A = some ⟨b, off, none⟩ ∧ b < B ∧ w.rangeAt b (off + k * 65) (cel65 (l.getD k (0, zeroB))) := h.2 k hk
end
end Go.Proofs.Ytokdmcikoaagmaa
