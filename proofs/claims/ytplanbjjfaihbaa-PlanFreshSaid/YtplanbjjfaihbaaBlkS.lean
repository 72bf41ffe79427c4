/-
  Slices of blocks: a slice that reads as a list of blocks, below a block of memory.
-/
import Derived.Test.YtplanbjjfaihbaaBlkW
namespace Go.Proofs.Ytplanbjjfaihbaa
open Go.RowKit
set_option maxRecDepth 100000
set_option linter.unusedVariables false

/-- The slice of address A and length n reads as the blocks l; it lies below block B. -/
def RdB (w : World) (B : Nat) (A : Option Addr) (n : Nat) (l : List Blk) : Prop :=
  l.length = n ∧ ∀ k, k < n → ∃ b off, A = some ⟨b, off, none⟩ ∧ b < B ∧ w.rangeAt b (off + k * 64) (cel (l.getD k zeroB))
section
variable {w w' : World} {B B' n : Nat} {A : Option Addr} {l : List Blk}
theorem RdB.nil (w : World) (B : Nat) (A : Option Addr) : RdB w B A 0 [] := ⟨rfl, fun k hk => absurd hk (by omega)⟩
theorem RdB.more (h : RdB w B A n l) (hB : B ≤ B') : RdB w B' A n l :=
  ⟨h.1, fun k hn => by
    obtain ⟨b, off, e, hb, hc⟩ := h.2 k hn
    exact ⟨b, off, e, by omega, hc⟩⟩
theorem RdB.below (h : RdB w B A n l) (hb : Below B w w') : RdB w' B A n l :=
  ⟨h.1, fun k hn => by
    obtain ⟨b, off, e, hlt, hc⟩ := h.2 k hn
    exact ⟨b, off, e, hlt, range_below hc hlt hb⟩⟩
theorem RdB.step (h : RdB w w.heap.size A n l) (hb : Below w.heap.size w w') : RdB w' w'.heap.size A n l := (h.below hb).more hb.size
theorem RdB.alloc (h : RdB w B A n l) (hN : B ≤ w.heap.size) (o : Obj) : RdB (w.alloc o) B A n l := h.below ((Below.refl B w).alloc hN o)
theorem RdB.over {o : Obj} (h : RdB w w.heap.size A n l) (hb : Below (w.heap.size + 1) (w.alloc o) w') : RdB w' w'.heap.size A n l := h.step (over_alloc hb)
theorem RdB.up (h : RdB w w.heap.size A n l) (o : Obj) : RdB (w.alloc o) (w.heap.size + 1) A n l := (h.alloc (Nat.le_refl _) o).more (by omega)
end

/-! ### Elements' addresses; pieces -/
theorem addr_zero (A : Option Addr) : A.map (fun x => x.add (0 * 64)) = A := by
  cases A with
  | none => rfl
  | some x =>
    simp only [Option.map_some, Nat.zero_mul]
    unfold Addr.add
    split <;> simp_all
theorem underS : Try.prog.underlying 32 = some (.slice 34) := Try.underlying32
section
variable {ρ : Operand → Value} {o : Oper} {x y : Operand} {w : World} {b off n c j k : Nat} {A : Option Addr}
theorem exec_index (ho : o.op = .indexAddr 32 x y) (hx : ρ x = .slice (some ⟨b, off, none⟩) n c) (hy : ρ y = .int .i64 (j : Int)) (hj : j < n) : (execOp ρ o).run Try.prog w = .ok (.value (.pointer (some ⟨b, off + j * 64, none⟩))) w := by
  unfold execOp
  simp [ho, hx, hy, Instr.indexAt, asIntOf, run_underlying underS, Addr.add_mid]
  intro hh
  omega
theorem exec_head (ho : o.op = .slice 32 x none (some y) none) (hx : ρ x = .slice A n c) (hy : ρ y = .int .i64 (k : Int)) (hk : k ≤ c) : (execOp ρ o).run Try.prog w = .ok (.value (.slice A k c)) w := by
  unfold execOp
  simp [ho, hx, hy, Instr.sliceAt, Instr.slice, Instr.sliceBounds, Instr.sliceBound, asIntOf, run_underlying underS]
  have := addr_zero A
  split <;> simp_all
/-- Where a piece from block k on begins. -/
def tailAt (A : Option Addr) (c k : Nat) : Option Addr := if c = k then A else A.map (fun x => x.add (k * 64))
theorem exec_tail (ho : o.op = .slice 32 x (some y) none none) (hx : ρ x = .slice A n c) (hy : ρ y = .int .i64 (k : Int)) (hk : k ≤ n) : (execOp ρ o).run Try.prog w = .ok (.value (.slice (tailAt A c k) (n - k) (c - k))) w := by
  unfold execOp tailAt
  simp [ho, hx, hy, Instr.sliceAt, Instr.slice, Instr.sliceBounds, Instr.sliceBound, asIntOf, run_underlying underS]
  intro hh
  omega
end
section
variable {w : World} {B n c k : Nat} {A : Option Addr} {l : List Blk}
theorem RdB.head (h : RdB w B A n l) (hk : k ≤ n) : RdB w B A k (l.take k) :=
  ⟨by rw [List.length_take, h.1]; omega, fun j hj => by
    obtain ⟨b, off, e, hb, hc⟩ := h.2 j (by omega)
    refine ⟨b, off, e, hb, ?_⟩
    rw [List.getD, List.getElem?_take_of_lt hj]
    exact hc⟩
theorem RdB.tail (h : RdB w B A n l) (hk : k ≤ n) (hc : n ≤ c) : RdB w B (tailAt A c k) (n - k) (l.drop k) :=
  ⟨by rw [List.length_drop, h.1], fun j hj => by
    obtain ⟨b, off, e, hb, hr⟩ := h.2 (k + j) (by omega)
    refine ⟨b, off + k * 64, ?_, hb, ?_⟩
    · unfold tailAt
      rw [if_neg (by omega), e]
      simp [Addr.add_mid]
    · rw [List.getD, List.getElem?_drop, show off + k * 64 + j * 64 = off + (k + j) * 64 from by omega]
      exact hr⟩
end
end Go.Proofs.Ytplanbjjfaihbaa
