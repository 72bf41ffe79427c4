/-
  DERIVED. GIVEN WITH THE SEED: THE CARDS: each row of YtlmdklakcmnaiaaGreatDoorRows.lean that lists a variable, with what it lists TIED to the program's text (the seventh form; the later family's looks); each row that meets fmt, with fmt's text TOLD by the authors' own Lean function (tested against real Go, not proved from fmt's source: count such statements apart). THE CARD IS WHAT COUNTS. Prove the row's statement (the work); the ties are given (YtlmdklakcmnaiaaGreatDoorTie.lean); close each card by the builder's one call (the guide's Derived/Test/ToyasCard.lean, 'card_holds'). Laid BY PROGRAM, IN A SANDBOX (cutbox-door.mjs). By AI agents, Wed Nov 11 2026. No macro, syntax, notation, axiom, sorry.
-/
import Derived.Test.YtlmdklakcmnaiaaGreatDoorRows
import GoSem.ClaimSeven
namespace Go.Proofs.YtlmdklakcmnaiaaGreatDoor
namespace Rows

/-- THE TIED CARD OF 'ashlarlaw21.BackHome'. -/
def backHomeCard : Claim7 := { stood := { row := backHomeRow, standIns := [], harness := (true, "08344e4b96770ee5ada9f94338233b5923b157262ac65534e5e31b89899d68a8"), looks := false }, kinds := [], alts := [], laidByText := true, laidKinds := [.data], laidTests := true, laidLooks := .later }
def BackHomeCardSaid : Prop := Claim7.holds Tryz.pinned (.plain (OpenSpec.ofChange backHomeSpec)) backHomeCard

/-- THE TIED CARD OF 'ashlarlaw21.BackNil'. -/
def backNilCard : Claim7 := { stood := { row := backNilRow, standIns := [], harness := (true, "08344e4b96770ee5ada9f94338233b5923b157262ac65534e5e31b89899d68a8"), looks := false }, kinds := [], alts := [], laidByText := true, laidKinds := [.data], laidTests := true, laidLooks := .later }
def BackNilCardSaid : Prop := Claim7.holds Tryz.pinned (.plain (OpenSpec.ofChange backNilSpec)) backNilCard

/-- THE SECOND FORM's CARD OF 'ashlarlaw21.BackHome'. -/
def backHomeUptoCard : Claim7 := { stood := { row := backHomeUptoRow, standIns := [], harness := (true, "08344e4b96770ee5ada9f94338233b5923b157262ac65534e5e31b89899d68a8"), looks := false }, kinds := [], alts := [], laidByText := true, laidKinds := [.data], laidTests := true, laidLooks := .later }
def BackHomeUptoCardSaid : Prop := Claim7.holds Tryz.pinned (.plain (OpenSpec.upto backHomeSpec)) backHomeUptoCard

/-- THE SECOND FORM's CARD OF 'ashlarlaw21.BackNil'. -/
def backNilUptoCard : Claim7 := { stood := { row := backNilUptoRow, standIns := [], harness := (true, "08344e4b96770ee5ada9f94338233b5923b157262ac65534e5e31b89899d68a8"), looks := false }, kinds := [], alts := [], laidByText := true, laidKinds := [.data], laidTests := true, laidLooks := .later }
def BackNilUptoCardSaid : Prop := Claim7.holds Tryz.pinned (.plain (OpenSpec.upto backNilSpec)) backNilUptoCard
end Rows
end Go.Proofs.YtlmdklakcmnaiaaGreatDoor
