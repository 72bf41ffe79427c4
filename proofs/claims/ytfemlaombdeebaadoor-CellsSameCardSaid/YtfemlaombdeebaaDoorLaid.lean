/-
  The package-level table of crc: what the row's list gives the walks; a world in which it lies.
-/
import Derived.Test.YtfemlaombdeebaaDoorFrame
import Derived.Test.YtfemlaombdeebaaDoorCrcTab
import Derived.Deep.DeepHandedRow
import Derived.Lib.LaidTab
import Derived.Lib.SmallJoins
import Derived.LaidSub
import Derived.Deep.MidRow
namespace Go.Proofs.YtfemlaombdeebaaDoor
open Go.RowKit Go.ChangeShapes Go.WideShapes Go.ChangeAt

theorem gTab : Tryd.prog.globalNamed "ashlar/crc.halves" = some 0 := by kernel_rfl
theorem gTabType : (Tryd.prog.globals[0]?).map (·.type) = some 68 := by kernel_rfl
theorem cellsTab : Tryd.prog.cellsOf 68 = 16 := by kernel_rfl
theorem cellsU32 : Tryd.prog.cellsOf 29 = 1 := by kernel_rfl
def tabInts : List Int := [0, 274646895, 549293790, 820201905, 1098587580, 1361435347, 1640403810, 1905808397, 2197175160, 2460548119, 2722870694, 2987750089, 3280807620, 3553878443, 3811616794, 4084100981]
theorem tab_of_laid {W : World} {l : List (String × DataW Unit)} (hl : laidMetH Tryd.prog l W) (hf : l.filter (fun x => x.1 == "ashlar/crc.halves") = [("ashlar/crc.halves", Rows.laid_ashlar_crc_halves)] := by kernel_rfl) : Tab W := by
  have h := laidMetH.filter (fun x => x.1 == "ashlar/crc.halves") hl
  rw [hf] at h
  have h1 : Lib.TabIs Tryd.prog W "ashlar/crc.halves" .u32 tabInts :=
    Lib.tabIs_of_head (rest := []) gTab gTabType Tryd.underlying68 Tryd.underlying29 cellsU32 cellsTab h
  intro i hi
  rw [h1.cell gTab i (by simpa [tabInts] using hi)]
  have : ∀ i, i < 16 → tabInts.getD i 0 = (tab i : Int) := by decide
  rw [this i hi]

/-- A row laid into a variable's block. -/
def layTab (w : World) (g : Nat) (cs : Array Value) : World :=
  { w with heap := w.heap.modify g fun
      | .cells _ t frozen => .cells cs t frozen
      | o => o }
/-- A world for the witness: each table holds what its initialiser lays. -/
noncomputable def laidWorld (os : Os) : World :=
  layTab (World.holding Tryd.prog os ⟨#[], #[], []⟩) 0 (tabInts.map fun z => Value.int .u32 z).toArray

section
variable {H : Type} {enc : TypeId × Value → H} {W : World} {base : Nat} {v : Value} {d : DataW H} {p : List MemPlace}
theorem one_byte {m : Nat} {x : Value} {y : DataW H × List MemPlace} (h : DataW.trod enc Tryd.prog W 0 (fun _ => true) true m 5 [x] = some y) : ∃ u : UInt8, x = .int .u8 (u.toNat : Int) := by
  obtain ⟨k, e, _, hw⟩ := DataW.trod_int Tryd.underlying5 h
  have hr : 0 ≤ k ∧ k ≤ 255 := bounds_u8 hw
  injection e with e
  refine ⟨UInt8.ofNat k.toNat, ?_⟩
  rw [e, UInt8.toNat_ofNat']
  congr 1
  omega
end
end Go.Proofs.YtfemlaombdeebaaDoor
