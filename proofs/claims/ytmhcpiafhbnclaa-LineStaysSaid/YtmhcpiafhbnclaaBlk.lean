/-
  Blocks: arrays of 64 bytes, by value. What a block is as a list of cells, as a value; how it is read, laid, made, compared.
-/
import Derived.Test.YtmhcpiafhbnclaaPre
import Derived.Deep.MidRow
import Derived.Deep.Quiet
import Derived.Laws.StructEq
import Derived.Laws.IdiomCopy
import Derived.Laws.NewBlocks
namespace Go.Proofs.Ytmhcpiafhbnclaa
open Go.RowKit
set_option maxRecDepth 100000
set_option linter.unusedVariables false

abbrev Blk := Vector UInt8 64
def zeroB : Blk := Vector.replicate 64 0
/-- A block's cells. -/
def cel (b : Blk) : List Value := b.toList.map fun u => .int .u8 (u.toNat : Int)
/-- A block as a value. -/
def blk (b : Blk) : Value := .agg (cel b).toArray
/-- Byte number j of a block. -/
def byt (b : Blk) (j : Nat) : Int := bt b.toList j
theorem byt_lo (b : Blk) (j : Nat) : 0 ≤ byt b j := bt_lo _ _
theorem byt_hi (b : Blk) (j : Nat) : byt b j ≤ 255 := bt_hi _ _
theorem byt_get (b : Blk) {j : Nat} (h : j < 64) : byt b j = (b[j].toNat : Int) := by
  unfold byt
  rw [bt_get (by simpa using h)]
  simp
theorem cel_length (b : Blk) : (cel b).length = 64 := by simp [cel]
theorem cel_at (b : Blk) {j : Nat} (h : j < 64) : (cel b)[j]? = some (.int .u8 (byt b j)) := by
  rw [byt_get b h]
  simp [cel, h]
theorem cel_one (b : Blk) : ∀ v ∈ cel b, v.oneCell' = true := by
  intro v hv
  simp only [cel, List.mem_map] at hv
  obtain ⟨u, _, rfl⟩ := hv
  rfl
theorem blk_ext {a b : Blk} (h : ∀ j, j < 64 → byt a j = byt b j) : a = b := by
  apply Vector.ext
  intro i hi
  have := h i hi
  rw [byt_get a hi, byt_get b hi] at this
  exact UInt8.toNat_inj.1 (by omega)
theorem cells_blk (b : Blk) : (blk b).cells = (cel b).toArray := rfl

theorem infoB : (Try.prog.info? 33).map (fun i => (i.zero, i.size, i.bytes)) = some (some (blk zeroB), 64, 64) := by kernel_rfl
theorem undB : Try.prog.underlying 33 = some (.array 64 5) := Try.underlying33
theorem sizeB : (Try.prog.info? 33).map (·.size) = some 64 := by kernel_rfl
theorem guardB : Try.prog.eqGuardType Try.prog.depth 33 = false := by kernel_rfl

section
variable {w : World} {b off : Nat} {c : Blk}
theorem run_load (hc : w.rangeAt b off (cel c)) : (Instr.loadAt 33 (.pointer (some ⟨b, off, none⟩))).run Try.prog w = .ok (blk c) w :=
  run_loadAt_mid w b off 33 (cel c) _ hc undB rfl (by rw [cel_length]; exact sizeB)
theorem run_store (ht : w.there b off 64) : (Instr.storeAt 33 (.pointer (some ⟨b, off, none⟩)) (blk c)).run Try.prog w = .ok () (w.setCells b off (cel c)) := by
  have := run_storeAt_mid (P := Try.prog) w b off 33 (cel c).toArray (by simpa [cel_length] using ht) (by simpa [cel_length] using sizeB) (all_oneCell_toArray (cel_one c))
  simpa [blk] using this
theorem run_zeroB (w : World) : (zeroValue 33).run Try.prog w = .ok (blk zeroB) w := by
  have h := infoB
  cases hq : Try.prog.info? 33 with
  | none => rw [hq] at h; cases h
  | some i =>
    rw [hq] at h
    simp only [Option.map_some, Option.some.injEq, Prod.mk.injEq] at h
    simp [zeroValue, typeInfo, hq, h.1]
theorem run_newVar (w : World) (v : Value) : (newVar 33 v).run Try.prog w = .ok ⟨w.heap.size, 0, none⟩ (w.alloc (.cells v.cells 33)) := by
  simp [newVar, newRow]
theorem run_box (w : World) (c : Blk) : (Instr.box 33 (blk c)).run Try.prog w = .ok (.pointer (some ⟨w.heap.size, 0, none⟩)) (w.alloc (.cells (cel c).toArray 33)) := by
  simp [Instr.box, run_newVar, cells_blk]
theorem run_alloc (w : World) : (Instr.alloc 33 true (.tuple #[])).run Try.prog w = .ok (.pointer (some ⟨w.heap.size, 0, none⟩)) (w.alloc (.cells (cel zeroB).toArray 33)) := by
  simp only [Instr.alloc, Sem.run_bind, run_zeroB, Result.andThen_ok, run_newVar, Sem.run_pure, cells_blk]
end

/-! ### Comparing -/
theorem run_partB (w : World) (c : Blk) (i : Nat) (hi : i < 64) : (part 5 (cel c).toArray (i * 1)).run Try.prog w = .ok (.int .u8 (byt c i)) w := by
  have := cel_at c hi
  simp [part, this]
theorem run_eqB (w : World) (a b : Blk) (d : Nat) : (Op.equalIn (d + 2) 33 (blk a) (blk b)).run Try.prog w = .ok (decide (a = b)) w := by
  have he : ∀ x y : Int, (Op.equalIn (d + 1) 5 (.int .u8 x) (.int .u8 y)).run Try.prog w = .ok (x == y) w := fun x y => run_equalIn_int w d 5 .u8 .u8 x y Try.underlying5
  show (Op.equalIn ((d + 1) + 1) 33 (blk a) (blk b)).run Try.prog w = .ok (decide (a = b)) w
  generalize d + 1 = e at *
  have key : ∀ (l : List Nat), (∀ i ∈ l, i < 64) →
      ((forIn l ((none : Option Bool), ()) fun i r => do
        let x ← part 5 (cel a).toArray (i * 1)
        let y ← part 5 (cel b).toArray (i * 1)
        let z ← Op.equalIn e 5 x y
        if (!z) = true then pure (ForInStep.done (some false, ())) else pure (ForInStep.yield (none, ())) : Sem _)).run Try.prog w =
      .ok (if l.all (fun i => byt a i == byt b i) then (none, ()) else (some false, ())) w := by
    intro l
    induction l with
    | nil => intro _; simp
    | cons i l ih =>
      intro hl
      have hi := hl i (by simp)
      simp only [List.forIn_cons, Sem.run_bind, run_partB w a i hi, run_partB w b i hi, Result.andThen_ok, he]
      by_cases h : byt a i = byt b i
      · have hb : (byt a i == byt b i) = true := by simpa using h
        simp only [hb, Bool.not_true, Bool.false_eq_true, if_false, Sem.run_pure, Result.andThen_ok, List.all_cons, Bool.true_and]
        exact ih fun j hj => hl j (by simp [hj])
      · have hb : (byt a i == byt b i) = false := by simpa using h
        simp [hb]
  have hall : ((List.range' 0 64).all fun i => byt a i == byt b i) = decide (a = b) := by
    rw [Bool.eq_iff_iff, List.all_eq_true, decide_eq_true_iff]
    constructor
    · intro h
      exact blk_ext fun j hj => by simpa using h j (by simp [List.mem_range']; omega)
    · rintro rfl i _
      simp
  have hk := key (List.range' 0 64) (fun i hi => by simp [List.mem_range'] at hi; omega)
  rw [hall] at hk
  simp only [Op.equalIn, blk, Sem.run_bind, run_underlying undB, Result.andThen_ok, Try.sizeOf5, Std.Legacy.Range.forIn_eq_forIn_range']
  simp only [Std.Legacy.Range.size, Nat.sub_zero, Nat.add_sub_cancel, Nat.div_one]
  rw [hk]
  by_cases h : a = b
  · simp [h]
  · simp [h]
end Go.Proofs.Ytmhcpiafhbnclaa
