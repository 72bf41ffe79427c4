/-
  The package-level table of crc: what the row's list gives the walks; a world in which it lies.
-/
import Derived.Test.YtlncjakfckdjcaaGreatDoorFrame
import Derived.Test.YtlncjakfckdjcaaGreatDoorCrcTab
import Derived.Deep.DeepHandedRow
import Derived.Lib.LaidTab
import Derived.Lib.SmallJoins
import Derived.LaidSub
import Derived.Deep.MidRow
namespace Go.Proofs.YtlncjakfckdjcaaGreatDoor
open Go.RowKit Go.ChangeShapes Go.WideShapes Go.ChangeAt
set_option maxRecDepth 100000

theorem gTab : Tryz.prog.globalNamed "ashlar/crc.halves" = some 2 := by kernel_rfl
theorem gTabType : (Tryz.prog.globals[2]?).map (·.type) = some 235 := by kernel_rfl
theorem cellsTab : Tryz.prog.cellsOf 235 = 16 := by kernel_rfl
theorem cellsU32 : Tryz.prog.cellsOf 90 = 1 := by kernel_rfl
def tabInts : List Int := [0, 274646895, 549293790, 820201905, 1098587580, 1361435347, 1640403810, 1905808397, 2197175160, 2460548119, 2722870694, 2987750089, 3280807620, 3553878443, 3811616794, 4084100981]
theorem tab_of_laid {W : World} {l : List (String × DataW Unit)} (hl : laidMetH Tryz.prog l W) (hf : l.filter (fun x => x.1 == "ashlar/crc.halves") = [("ashlar/crc.halves", Rows.laid_ashlar_crc_halves)] := by kernel_rfl) : Tab W := by
  have h := laidMetH.filter (fun x => x.1 == "ashlar/crc.halves") hl
  rw [hf] at h
  have h1 : Lib.TabIs Tryz.prog W "ashlar/crc.halves" .u32 tabInts :=
    Lib.tabIs_of_head (rest := []) gTab gTabType Tryz.underlying235 Tryz.underlying90 cellsU32 cellsTab h
  intro i hi
  rw [h1.cell gTab i (by simpa [tabInts] using hi)]
  have : ∀ i, i < 16 → tabInts.getD i 0 = (tab i : Int) := by decide
  rw [this i hi]
theorem gSiz : Tryz.prog.globalNamed "ashlar/mark.sizes" = some 1 := by kernel_rfl
theorem gSizType : (Tryz.prog.globals[1]?).map (·.type) = some 232 := by kernel_rfl
theorem cellsSiz : Tryz.prog.cellsOf 232 = 4 := by kernel_rfl
theorem cellsInt1 : Tryz.prog.cellsOf 3 = 1 := by kernel_rfl
def sizInts : List Int := [8, 2, 8, 8]
theorem siz_of_laid {W : World} {l : List (String × DataW Unit)} (hl : laidMetH Tryz.prog l W) (hf : l.filter (fun x => x.1 == "ashlar/mark.sizes") = [("ashlar/mark.sizes", Rows.laid_ashlar_mark_sizes)] := by kernel_rfl) : W.rangeAt 1 0 (sizInts.map fun z => Value.int .i64 z) := by
  have h := laidMetH.filter (fun x => x.1 == "ashlar/mark.sizes") hl
  rw [hf] at h
  have h1 : Lib.TabIs Tryz.prog W "ashlar/mark.sizes" .i64 sizInts :=
    Lib.tabIs_of_head (rest := []) gSiz gSizType Tryz.underlying232 Tryz.underlying3 cellsInt1 cellsSiz h
  intro i v hv
  have hi : i < 4 := by simpa [sizInts] using (List.getElem?_eq_some_iff.1 hv).1
  rw [Nat.zero_add, h1.cell gSiz i (by simpa [sizInts] using hi), ← hv]
  match i, hi with
  | 0, _ => rfl
  | 1, _ => rfl
  | 2, _ => rfl
  | 3, _ => rfl
theorem gSizn : Tryz.prog.globalNamed "ashlar/note.sizes" = some 0 := by kernel_rfl
theorem gSiznType : (Tryz.prog.globals[0]?).map (·.type) = some 212 := by kernel_rfl
theorem cellsSizn : Tryz.prog.cellsOf 212 = 3 := by kernel_rfl
theorem cellsInt1n : Tryz.prog.cellsOf 3 = 1 := by kernel_rfl
def siznInts : List Int := [8, 2, 4]
theorem sizn_of_laid {W : World} {l : List (String × DataW Unit)} (hl : laidMetH Tryz.prog l W) (hf : l.filter (fun x => x.1 == "ashlar/note.sizes") = [("ashlar/note.sizes", Rows.laid_ashlar_note_sizes)] := by kernel_rfl) : W.rangeAt 0 0 (siznInts.map fun z => Value.int .i64 z) := by
  have h := laidMetH.filter (fun x => x.1 == "ashlar/note.sizes") hl
  rw [hf] at h
  have h1 : Lib.TabIs Tryz.prog W "ashlar/note.sizes" .i64 siznInts :=
    Lib.tabIs_of_head (rest := []) gSizn gSiznType Tryz.underlying212 Tryz.underlying3 cellsInt1n cellsSizn h
  intro i v hv
  have hi : i < 3 := by simpa [siznInts] using (List.getElem?_eq_some_iff.1 hv).1
  rw [Nat.zero_add, h1.cell gSizn i (by simpa [siznInts] using hi), ← hv]
  match i, hi with
  | 0, _ => rfl
  | 1, _ => rfl
  | 2, _ => rfl

/-- A row laid into a variable's block. -/
def layTab (w : World) (g : Nat) (cs : Array Value) : World :=
  { w with heap := w.heap.modify g fun
      | .cells _ t frozen => .cells cs t frozen
      | o => o }
/-- A world for the witness: each table holds what its initialiser lays. -/
noncomputable def laidM (w : World) : World := layTab w 1 (sizInts.map fun z => Value.int .i64 z).toArray
noncomputable def laidN (w : World) : World := layTab w 0 (siznInts.map fun z => Value.int .i64 z).toArray
noncomputable def laidWorld (os : Os) : World :=
  laidN (laidM (layTab (World.holding Tryz.prog os ⟨#[], #[], []⟩) 2 (tabInts.map fun z => Value.int .u32 z).toArray))

section
variable {H : Type} {enc : TypeId × Value → H} {W : World} {base : Nat} {v : Value} {d : DataW H} {p : List MemPlace}
theorem one_byte {m : Nat} {x : Value} {y : DataW H × List MemPlace} (h : DataW.trod enc Tryz.prog W 0 (fun _ => true) true m 5 [x] = some y) : ∃ u : UInt8, x = .int .u8 (u.toNat : Int) := by
  obtain ⟨k, e, _, hw⟩ := DataW.trod_int Tryz.underlying5 h
  have hr : 0 ≤ k ∧ k ≤ 255 := bounds_u8 hw
  injection e with e
  refine ⟨UInt8.ofNat k.toNat, ?_⟩
  rw [e, UInt8.toNat_ofNat']
  congr 1
  omega
end
end Go.Proofs.YtlncjakfckdjcaaGreatDoor
