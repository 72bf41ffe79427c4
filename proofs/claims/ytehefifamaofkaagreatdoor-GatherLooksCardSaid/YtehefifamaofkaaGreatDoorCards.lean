/-
  DERIVED. GIVEN WITH THE SEED: THE CARDS: each row of YtehefifamaofkaaGreatDoorRows.lean that lists a variable, with what it lists TIED to the program's text (the seventh form; the later family's looks); each row that meets fmt, with fmt's text TOLD by the authors' own Lean function (tested against real Go, not proved from fmt's source: count such statements apart). THE CARD IS WHAT COUNTS. Prove the row's statement (the work); the ties are given (YtehefifamaofkaaGreatDoorTie.lean); close each card by the builder's one call (the guide's Derived/Test/ToyasCard.lean, 'card_holds'). Laid BY PROGRAM, IN A SANDBOX (cutbox-door.mjs). By AI agents, Wed Nov 11 2026. No macro, syntax, notation, axiom, sorry.
-/
import Derived.Test.YtehefifamaofkaaGreatDoorRows
import GoSem.ClaimSeven
namespace Go.Proofs.YtehefifamaofkaaGreatDoor
namespace Rows

/-- THE TIED CARD OF 'ashlarlaw22.GatherLooks'. -/
def gatherLooksCard : Claim7 := { stood := { row := gatherLooksRow, standIns := [], harness := (true, "f7e02c51105088509bbc77fc2b0c696ef89df9ff931601aee0aa0ac1820513b1"), looks := false }, kinds := [], alts := [], laidByText := true, laidKinds := [.data], laidTests := true, laidLooks := .later }
def GatherLooksCardSaid : Prop := Claim7.holds Tryz.pinned (.plain (OpenSpec.ofChange gatherLooksSpec)) gatherLooksCard

/-- THE TIED CARD OF 'ashlarlaw22.GatherFits'. -/
def gatherFitsCard : Claim7 := { stood := { row := gatherFitsRow, standIns := [], harness := (true, "f7e02c51105088509bbc77fc2b0c696ef89df9ff931601aee0aa0ac1820513b1"), looks := false }, kinds := [], alts := [], laidByText := true, laidKinds := [.data], laidTests := true, laidLooks := .later }
def GatherFitsCardSaid : Prop := Claim7.holds Tryz.pinned (.plain (OpenSpec.ofChange gatherFitsSpec)) gatherFitsCard

/-- THE TIED CARD OF 'ashlarlaw22.GatherSaved'. -/
def gatherSavedCard : Claim7 := { stood := { row := gatherSavedRow, standIns := [], harness := (true, "f7e02c51105088509bbc77fc2b0c696ef89df9ff931601aee0aa0ac1820513b1"), looks := false }, kinds := [], alts := [], laidByText := true, laidKinds := [.data], laidTests := true, laidLooks := .later }
def GatherSavedCardSaid : Prop := Claim7.holds Tryz.pinned (.plain (OpenSpec.ofChange gatherSavedSpec)) gatherSavedCard

/-- THE TIED CARD OF 'ashlarlaw22.GatherNil'. -/
def gatherNilCard : Claim7 := { stood := { row := gatherNilRow, standIns := [], harness := (true, "f7e02c51105088509bbc77fc2b0c696ef89df9ff931601aee0aa0ac1820513b1"), looks := false }, kinds := [], alts := [], laidByText := true, laidKinds := [.data], laidTests := true, laidLooks := .later }
def GatherNilCardSaid : Prop := Claim7.holds Tryz.pinned (.plain (OpenSpec.ofChange gatherNilSpec)) gatherNilCard

/-- THE SECOND FORM's CARD OF 'ashlarlaw22.GatherLooks'. -/
def gatherLooksUptoCard : Claim7 := { stood := { row := gatherLooksUptoRow, standIns := [], harness := (true, "f7e02c51105088509bbc77fc2b0c696ef89df9ff931601aee0aa0ac1820513b1"), looks := false }, kinds := [], alts := [], laidByText := true, laidKinds := [.data], laidTests := true, laidLooks := .later }
def GatherLooksUptoCardSaid : Prop := Claim7.holds Tryz.pinned (.plain (OpenSpec.upto gatherLooksSpec)) gatherLooksUptoCard

/-- THE SECOND FORM's CARD OF 'ashlarlaw22.GatherFits'. -/
def gatherFitsUptoCard : Claim7 := { stood := { row := gatherFitsUptoRow, standIns := [], harness := (true, "f7e02c51105088509bbc77fc2b0c696ef89df9ff931601aee0aa0ac1820513b1"), looks := false }, kinds := [], alts := [], laidByText := true, laidKinds := [.data], laidTests := true, laidLooks := .later }
def GatherFitsUptoCardSaid : Prop := Claim7.holds Tryz.pinned (.plain (OpenSpec.upto gatherFitsSpec)) gatherFitsUptoCard

/-- THE SECOND FORM's CARD OF 'ashlarlaw22.GatherSaved'. -/
def gatherSavedUptoCard : Claim7 := { stood := { row := gatherSavedUptoRow, standIns := [], harness := (true, "f7e02c51105088509bbc77fc2b0c696ef89df9ff931601aee0aa0ac1820513b1"), looks := false }, kinds := [], alts := [], laidByText := true, laidKinds := [.data], laidTests := true, laidLooks := .later }
def GatherSavedUptoCardSaid : Prop := Claim7.holds Tryz.pinned (.plain (OpenSpec.upto gatherSavedSpec)) gatherSavedUptoCard

/-- THE SECOND FORM's CARD OF 'ashlarlaw22.GatherNil'. -/
def gatherNilUptoCard : Claim7 := { stood := { row := gatherNilUptoRow, standIns := [], harness := (true, "f7e02c51105088509bbc77fc2b0c696ef89df9ff931601aee0aa0ac1820513b1"), looks := false }, kinds := [], alts := [], laidByText := true, laidKinds := [.data], laidTests := true, laidLooks := .later }
def GatherNilUptoCardSaid : Prop := Claim7.holds Tryz.pinned (.plain (OpenSpec.upto gatherNilSpec)) gatherNilUptoCard
end Rows
end Go.Proofs.YtehefifamaofkaaGreatDoor
