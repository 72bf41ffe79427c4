/-
  DERIVED. GIVEN WITH THE SEED: THE CARDS: each row of YtnliphgjcaippaaGreatDoorRows.lean that lists a variable, with what it lists TIED to the program's text (the seventh form; the later family's looks); each row that meets fmt, with fmt's text TOLD by the authors' own Lean function (tested against real Go, not proved from fmt's source: count such statements apart). THE CARD IS WHAT COUNTS. Prove the row's statement (the work); the ties are given (YtnliphgjcaippaaGreatDoorTie.lean); close each card by the builder's one call (the guide's Derived/Test/ToyasCard.lean, 'card_holds'). Laid BY PROGRAM, IN A SANDBOX (cutbox-door.mjs). By AI agents, Wed Nov 11 2026. No macro, syntax, notation, axiom, sorry.
-/
import Derived.Test.YtnliphgjcaippaaGreatDoorRows
import GoSem.ClaimSeven
namespace Go.Proofs.YtnliphgjcaippaaGreatDoor
namespace Rows

/-- THE TIED CARD OF 'ashlarlaw18.HullNew'. -/
def hullNewCard : Claim7 := { stood := { row := hullNewRow, standIns := [], harness := (true, "c52106385aaacf1d3762fd64b7f029ea3732206b070783da78b5f48205d7e155"), looks := false }, kinds := [], alts := [], laidByText := true, laidKinds := [.data], laidTests := true, laidLooks := .later }
def HullNewCardSaid : Prop := Claim7.holds Tryz.pinned (.plain (OpenSpec.ofChange hullNewSpec)) hullNewCard

/-- THE TIED CARD OF 'ashlarlaw18.HullSaves'. -/
def hullSavesCard : Claim7 := { stood := { row := hullSavesRow, standIns := [], harness := (true, "c52106385aaacf1d3762fd64b7f029ea3732206b070783da78b5f48205d7e155"), looks := false }, kinds := [], alts := [], laidByText := true, laidKinds := [.data], laidTests := true, laidLooks := .later }
def HullSavesCardSaid : Prop := Claim7.holds Tryz.pinned (.plain (OpenSpec.ofChange hullSavesSpec)) hullSavesCard

/-- THE TIED CARD OF 'ashlarlaw18.HullNil'. -/
def hullNilCard : Claim7 := { stood := { row := hullNilRow, standIns := [], harness := (true, "c52106385aaacf1d3762fd64b7f029ea3732206b070783da78b5f48205d7e155"), looks := false }, kinds := [], alts := [], laidByText := true, laidKinds := [.data], laidTests := true, laidLooks := .later }
def HullNilCardSaid : Prop := Claim7.holds Tryz.pinned (.plain (OpenSpec.ofChange hullNilSpec)) hullNilCard

/-- THE SECOND FORM's CARD OF 'ashlarlaw18.HullNew'. -/
def hullNewUptoCard : Claim7 := { stood := { row := hullNewUptoRow, standIns := [], harness := (true, "c52106385aaacf1d3762fd64b7f029ea3732206b070783da78b5f48205d7e155"), looks := false }, kinds := [], alts := [], laidByText := true, laidKinds := [.data], laidTests := true, laidLooks := .later }
def HullNewUptoCardSaid : Prop := Claim7.holds Tryz.pinned (.plain (OpenSpec.upto hullNewSpec)) hullNewUptoCard

/-- THE SECOND FORM's CARD OF 'ashlarlaw18.HullSaves'. -/
def hullSavesUptoCard : Claim7 := { stood := { row := hullSavesUptoRow, standIns := [], harness := (true, "c52106385aaacf1d3762fd64b7f029ea3732206b070783da78b5f48205d7e155"), looks := false }, kinds := [], alts := [], laidByText := true, laidKinds := [.data], laidTests := true, laidLooks := .later }
def HullSavesUptoCardSaid : Prop := Claim7.holds Tryz.pinned (.plain (OpenSpec.upto hullSavesSpec)) hullSavesUptoCard

/-- THE SECOND FORM's CARD OF 'ashlarlaw18.HullNil'. -/
def hullNilUptoCard : Claim7 := { stood := { row := hullNilUptoRow, standIns := [], harness := (true, "c52106385aaacf1d3762fd64b7f029ea3732206b070783da78b5f48205d7e155"), looks := false }, kinds := [], alts := [], laidByText := true, laidKinds := [.data], laidTests := true, laidLooks := .later }
def HullNilUptoCardSaid : Prop := Claim7.holds Tryz.pinned (.plain (OpenSpec.upto hullNilSpec)) hullNilUptoCard
end Rows
end Go.Proofs.YtnliphgjcaippaaGreatDoor
