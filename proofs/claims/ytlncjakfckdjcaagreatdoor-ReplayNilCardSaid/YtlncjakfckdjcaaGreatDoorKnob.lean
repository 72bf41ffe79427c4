/-
  The steps that are alike in all rows of this seat.
-/
import Derived.Test.YtlncjakfckdjcaaGreatDoorRows
import Derived.Test.YtlncjakfckdjcaaGreatDoorBase
import Derived.WalkKit
import Derived.ProofKit
import Derived.OpenShut
import Derived.ShutString
import Derived.ChangeOld
import Derived.SizedLaws
import Derived.JoinedCond
namespace Go.Proofs.YtlncjakfckdjcaaGreatDoor
open Go.RowKit Go.ChangeShapes Go.WideShapes Go.ChangeAt
set_option maxRecDepth 100000

theorem own_knob : ownKnob Tryz.prog.godebug = none := by kernel_rfl
theorem laid_out : laidOutB Tryz.prog = true := by kernel_rfl
theorem u8cells : Tryz.prog.cellsOf 5 = 1 := by kernel_rfl
theorem u8bytes : Tryz.prog.bytesOf 5 = 1 := by kernel_rfl

/-- The bytes of a list of numbers that each fit a byte. -/
def toBytes (zs : List Int) : List UInt8 := zs.map fun z => UInt8.ofNat z.toNat
theorem bt_toBytes {zs : List Int} (h : ∀ z ∈ zs, (Lit.int .u8 z).wf = true) {k : Nat} (hk : k < zs.length) : bt (toBytes zs) k = zs.getD k 0 := by
  have hl : k < (toBytes zs).length := by simpa [toBytes] using hk
  have hb := h zs[k] (List.getElem_mem hk)
  have hr : 0 ≤ zs[k] ∧ zs[k] ≤ 255 := bounds_u8 hb
  rw [bt_get hl]
  simp only [toBytes, List.getElem_map, UInt8.toNat_ofNat', List.getD, List.getElem?_eq_getElem hk, Option.getD_some]
  omega

/-! What the bound of an '..UptoSaid' gives: the length of each slice. -/
theorem bulk_pos {H : Type} (d : DataW H) : 1 ≤ Rows.uptoBulk d := by
  cases d with
  | lit l => cases l <;> simp [Rows.uptoBulk]
  | _ => simp [Rows.uptoBulk]
theorem bulk_length {H : Type} (l : List (DataW H)) : l.length ≤ Rows.uptoBulkAll l := by
  induction l with
  | nil => simp [Rows.uptoBulkAll]
  | cons d r ih =>
    have h := bulk_pos d
    simp only [Rows.uptoBulkAll, List.length_cons]
    omega
theorem bulk_mem {H : Type} {d : DataW H} {l : List (DataW H)} (h : d ∈ l) : Rows.uptoBulk d ≤ Rows.uptoBulkAll l := by
  induction l with
  | nil => cases h
  | cons x r ih =>
    simp only [Rows.uptoBulkAll]
    rcases List.mem_cons.1 h with e | e
    · subst e; omega
    · have := ih e; omega
theorem bulk_all {H : Type} {l : List (DataW H)} (h : Rows.uptoSmall H l = true) : Rows.uptoBulkAll l ≤ 1048576 := of_decide_eq_true h

end Go.Proofs.YtlncjakfckdjcaaGreatDoor
