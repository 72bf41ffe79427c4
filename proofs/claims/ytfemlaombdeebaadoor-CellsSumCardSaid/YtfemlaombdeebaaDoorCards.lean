/-
  DERIVED. GIVEN WITH THE SEED: THE CARDS: each row of YtfemlaombdeebaaDoorRows.lean that lists a variable, with what it lists TIED to the program's text (the seventh form; the later family's looks); each row that meets fmt, with fmt's text TOLD by the authors' own Lean function (tested against real Go, not proved from fmt's source: count such statements apart). THE CARD IS WHAT COUNTS. Prove the row's statement (the work); the ties are given (YtfemlaombdeebaaDoorTie.lean); close each card by the builder's one call (the guide's Derived/Test/ToyasCard.lean, 'card_holds'). Laid BY PROGRAM, IN A SANDBOX (cutbox-door.mjs). By AI agents, Wed Nov 11 2026. No macro, syntax, notation, axiom, sorry.
-/
import Derived.Test.YtfemlaombdeebaaDoorRows
import GoSem.ClaimSeven
namespace Go.Proofs.YtfemlaombdeebaaDoor
namespace Rows

/-- THE TIED CARD OF 'ashlarlaw11.CellsGets'. -/
def cellsGetsCard : Claim7 := { stood := { row := cellsGetsRow, standIns := [], harness := (true, "f6bab6f41ba80152ebe4dbf6ab1c97d63853e3bb941b2eb1a27a9eb0928f905d"), looks := false }, kinds := [], alts := [], laidByText := true, laidKinds := [.data], laidTests := true, laidLooks := .later }
def CellsGetsCardSaid : Prop := Claim7.holds Tryd.pinned (.plain (OpenSpec.ofChange cellsGetsSpec)) cellsGetsCard

/-- THE TIED CARD OF 'ashlarlaw11.CellsSame'. -/
def cellsSameCard : Claim7 := { stood := { row := cellsSameRow, standIns := [], harness := (true, "f6bab6f41ba80152ebe4dbf6ab1c97d63853e3bb941b2eb1a27a9eb0928f905d"), looks := false }, kinds := [], alts := [], laidByText := true, laidKinds := [.data], laidTests := true, laidLooks := .later }
def CellsSameCardSaid : Prop := Claim7.holds Tryd.pinned (.plain (OpenSpec.ofChange cellsSameSpec)) cellsSameCard

/-- THE TIED CARD OF 'ashlarlaw11.CellsSum'. -/
def cellsSumCard : Claim7 := { stood := { row := cellsSumRow, standIns := [], harness := (true, "f6bab6f41ba80152ebe4dbf6ab1c97d63853e3bb941b2eb1a27a9eb0928f905d"), looks := false }, kinds := [], alts := [], laidByText := true, laidKinds := [.data], laidTests := true, laidLooks := .later }
def CellsSumCardSaid : Prop := Claim7.holds Tryd.pinned (.plain (OpenSpec.ofChange cellsSumSpec)) cellsSumCard

/-- THE SECOND FORM's CARD OF 'ashlarlaw11.CellsGets'. -/
def cellsGetsUptoCard : Claim7 := { stood := { row := cellsGetsUptoRow, standIns := [], harness := (true, "f6bab6f41ba80152ebe4dbf6ab1c97d63853e3bb941b2eb1a27a9eb0928f905d"), looks := false }, kinds := [], alts := [], laidByText := true, laidKinds := [.data], laidTests := true, laidLooks := .later }
def CellsGetsUptoCardSaid : Prop := Claim7.holds Tryd.pinned (.plain (OpenSpec.upto cellsGetsSpec)) cellsGetsUptoCard

/-- THE SECOND FORM's CARD OF 'ashlarlaw11.CellsSame'. -/
def cellsSameUptoCard : Claim7 := { stood := { row := cellsSameUptoRow, standIns := [], harness := (true, "f6bab6f41ba80152ebe4dbf6ab1c97d63853e3bb941b2eb1a27a9eb0928f905d"), looks := false }, kinds := [], alts := [], laidByText := true, laidKinds := [.data], laidTests := true, laidLooks := .later }
def CellsSameUptoCardSaid : Prop := Claim7.holds Tryd.pinned (.plain (OpenSpec.upto cellsSameSpec)) cellsSameUptoCard

/-- THE SECOND FORM's CARD OF 'ashlarlaw11.CellsSum'. -/
def cellsSumUptoCard : Claim7 := { stood := { row := cellsSumUptoRow, standIns := [], harness := (true, "f6bab6f41ba80152ebe4dbf6ab1c97d63853e3bb941b2eb1a27a9eb0928f905d"), looks := false }, kinds := [], alts := [], laidByText := true, laidKinds := [.data], laidTests := true, laidLooks := .later }
def CellsSumUptoCardSaid : Prop := Claim7.holds Tryd.pinned (.plain (OpenSpec.upto cellsSumSpec)) cellsSumUptoCard
end Rows
end Go.Proofs.YtfemlaombdeebaaDoor
