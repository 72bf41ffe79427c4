/-
  The package-level table of crc: what the row's list gives the walks; a world in which it lies.
-/
import Derived.Test.YtiandcigoflcmaaDoorFrame
import Derived.Test.YtiandcigoflcmaaDoorCrcTab
import Derived.Deep.DeepHandedRow
import Derived.Lib.LaidTab
import Derived.Lib.SmallJoins
import Derived.LaidSub
import Derived.Deep.MidRow
namespace Go.Proofs.YtiandcigoflcmaaDoor
open Go.RowKit Go.ChangeShapes Go.WideShapes Go.ChangeAt

theorem gTab : Tryd.prog.globalNamed "ashlar/crc.halves" = some 1 := by kernel_rfl
theorem gTabType : (Tryd.prog.globals[1]?).map (·.type) = some 73 := by kernel_rfl
theorem cellsTab : Tryd.prog.cellsOf 73 = 16 := by kernel_rfl
theorem cellsU32 : Tryd.prog.cellsOf 23 = 1 := by kernel_rfl
def tabInts : List Int := [0, 274646895, 549293790, 820201905, 1098587580, 1361435347, 1640403810, 1905808397, 2197175160, 2460548119, 2722870694, 2987750089, 3280807620, 3553878443, 3811616794, 4084100981]
theorem tab_of_laid {W : World} {l : List (String × DataW Unit)} (hl : laidMetH Tryd.prog l W) (hf : l.filter (fun x => x.1 == "ashlar/crc.halves") = [("ashlar/crc.halves", Rows.laid_ashlar_crc_halves)] := by kernel_rfl) : Tab W := by
  have h := laidMetH.filter (fun x => x.1 == "ashlar/crc.halves") hl
  rw [hf] at h
  have h1 : Lib.TabIs Tryd.prog W "ashlar/crc.halves" .u32 tabInts :=
    Lib.tabIs_of_head (rest := []) gTab gTabType Tryd.underlying73 Tryd.underlying23 cellsU32 cellsTab h
  intro i hi
  rw [h1.cell gTab i (by simpa [tabInts] using hi)]
  have : ∀ i, i < 16 → tabInts.getD i 0 = (tab i : Int) := by decide
  rw [this i hi]
theorem gSizn : Tryd.prog.globalNamed "ashlar/note.sizes" = some 0 := by kernel_rfl
theorem gSiznType : (Tryd.prog.globals[0]?).map (·.type) = some 60 := by kernel_rfl
theorem cellsSizn : Tryd.prog.cellsOf 60 = 3 := by kernel_rfl
theorem cellsInt1n : Tryd.prog.cellsOf 3 = 1 := by kernel_rfl
def siznInts : List Int := [8, 2, 4]
theorem sizn_of_laid {W : World} {l : List (String × DataW Unit)} (hl : laidMetH Tryd.prog l W) (hf : l.filter (fun x => x.1 == "ashlar/note.sizes") = [("ashlar/note.sizes", Rows.laid_ashlar_note_sizes)] := by kernel_rfl) : W.rangeAt 0 0 (siznInts.map fun z => Value.int .i64 z) := by
  have h := laidMetH.filter (fun x => x.1 == "ashlar/note.sizes") hl
  rw [hf] at h
  have h1 : Lib.TabIs Tryd.prog W "ashlar/note.sizes" .i64 siznInts :=
    Lib.tabIs_of_head (rest := []) gSizn gSiznType Tryd.underlying60 Tryd.underlying3 cellsInt1n cellsSizn h
  intro i v hv
  have hi : i < 3 := by simpa [siznInts] using (List.getElem?_eq_some_iff.1 hv).1
  rw [Nat.zero_add, h1.cell gSizn i (by simpa [siznInts] using hi), ← hv]
  match i, hi with
  | 0, _ => rfl
  | 1, _ => rfl
  | 2, _ => rfl

/-- A row laid into a variable's block. -/
def layTab (w : World) (g : Nat) (cs : Array Value) : World :=
  { w with heap := w.heap.modify g fun
      | .cells _ t frozen => .cells cs t frozen
      | o => o }
/-- A world for the witness: each table holds what its initialiser lays. -/
noncomputable def laidM (w : World) : World := w
noncomputable def laidN (w : World) : World := layTab w 0 (siznInts.map fun z => Value.int .i64 z).toArray
noncomputable def laidWorld (os : Os) : World :=
  laidN (laidM (layTab (World.holding Tryd.prog os ⟨#[], #[], []⟩) 1 (tabInts.map fun z => Value.int .u32 z).toArray))

section
variable {H : Type} {enc : TypeId × Value → H} {W : World} {base : Nat} {v : Value} {d : DataW H} {p : List MemPlace}
theorem one_byte {m : Nat} {x : Value} {y : DataW H × List MemPlace} (h : DataW.trod enc Tryd.prog W 0 (fun _ => true) true m 5 [x] = some y) : ∃ u : UInt8, x = .int .u8 (u.toNat : Int) := by
  obtain ⟨k, e, _, hw⟩ := DataW.trod_int Tryd.underlying5 h
  have hr : 0 ≤ k ∧ k ≤ 255 := bounds_u8 hw
  injection e with e
  refine ⟨UInt8.ofNat k.toNat, ?_⟩
  rw [e, UInt8.toNat_ofNat']
  congr 1
  omega
end
end Go.Proofs.YtiandcigoflcmaaDoor
