/-
  DERIVED. GIVEN WITH THE SEED: THE CARDS: each row of YtlncjakfckdjcaaGreatDoorRows.lean that lists a variable, with what it lists TIED to the program's text (the seventh form; the later family's looks); each row that meets fmt, with fmt's text TOLD by the authors' own Lean function (tested against real Go, not proved from fmt's source: count such statements apart). THE CARD IS WHAT COUNTS. Prove the row's statement (the work); the ties are given (YtlncjakfckdjcaaGreatDoorTie.lean); close each card by the builder's one call (the guide's Derived/Test/ToyasCard.lean, 'card_holds'). Laid BY PROGRAM, IN A SANDBOX (cutbox-door.mjs). By AI agents, Wed Nov 11 2026. No macro, syntax, notation, axiom, sorry.
-/
import Derived.Test.YtlncjakfckdjcaaGreatDoorRows
import GoSem.ClaimSeven
namespace Go.Proofs.YtlncjakfckdjcaaGreatDoor
namespace Rows

/-- THE TIED CARD OF 'ashlarlaw23.ReplayAgain'. -/
def replayAgainCard : Claim7 := { stood := { row := replayAgainRow, standIns := [], harness := (true, "81b0318bf151345a56b6420bc81f4f2c052426f6a64532f5e3938b69ede6df2e"), looks := false }, kinds := [], alts := [], laidByText := true, laidKinds := [.data, .data, .data], laidTests := true, laidLooks := .later }
def ReplayAgainCardSaid : Prop := Claim7.holds Tryz.pinned (.plain (OpenSpec.ofChange replayAgainSpec)) replayAgainCard

/-- THE TIED CARD OF 'ashlarlaw23.ReplayNil'. -/
def replayNilCard : Claim7 := { stood := { row := replayNilRow, standIns := [], harness := (true, "81b0318bf151345a56b6420bc81f4f2c052426f6a64532f5e3938b69ede6df2e"), looks := false }, kinds := [], alts := [], laidByText := true, laidKinds := [.data, .data, .data], laidTests := true, laidLooks := .later }
def ReplayNilCardSaid : Prop := Claim7.holds Tryz.pinned (.plain (OpenSpec.ofChange replayNilSpec)) replayNilCard

/-- THE SECOND FORM's CARD OF 'ashlarlaw23.ReplayAgain'. -/
def replayAgainUptoCard : Claim7 := { stood := { row := replayAgainUptoRow, standIns := [], harness := (true, "81b0318bf151345a56b6420bc81f4f2c052426f6a64532f5e3938b69ede6df2e"), looks := false }, kinds := [], alts := [], laidByText := true, laidKinds := [.data, .data, .data], laidTests := true, laidLooks := .later }
def ReplayAgainUptoCardSaid : Prop := Claim7.holds Tryz.pinned (.plain (OpenSpec.upto replayAgainSpec)) replayAgainUptoCard

/-- THE SECOND FORM's CARD OF 'ashlarlaw23.ReplayNil'. -/
def replayNilUptoCard : Claim7 := { stood := { row := replayNilUptoRow, standIns := [], harness := (true, "81b0318bf151345a56b6420bc81f4f2c052426f6a64532f5e3938b69ede6df2e"), looks := false }, kinds := [], alts := [], laidByText := true, laidKinds := [.data, .data, .data], laidTests := true, laidLooks := .later }
def ReplayNilUptoCardSaid : Prop := Claim7.holds Tryz.pinned (.plain (OpenSpec.upto replayNilSpec)) replayNilUptoCard
end Rows
end Go.Proofs.YtlncjakfckdjcaaGreatDoor
