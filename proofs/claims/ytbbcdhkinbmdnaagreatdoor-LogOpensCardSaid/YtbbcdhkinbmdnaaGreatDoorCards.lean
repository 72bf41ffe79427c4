/-
  DERIVED. GIVEN WITH THE SEED: THE CARDS: each row of YtbbcdhkinbmdnaaGreatDoorRows.lean that lists a variable, with what it lists TIED to the program's text (the seventh form; the later family's looks); each row that meets fmt, with fmt's text TOLD by the authors' own Lean function (tested against real Go, not proved from fmt's source: count such statements apart). THE CARD IS WHAT COUNTS. Prove the row's statement (the work); the ties are given (YtbbcdhkinbmdnaaGreatDoorTie.lean); close each card by the builder's one call (the guide's Derived/Test/ToyasCard.lean, 'card_holds'). Laid BY PROGRAM, IN A SANDBOX (cutbox-door.mjs). By AI agents, Wed Nov 11 2026. No macro, syntax, notation, axiom, sorry.
-/
import Derived.Test.YtbbcdhkinbmdnaaGreatDoorRows
import GoSem.ClaimSeven
namespace Go.Proofs.YtbbcdhkinbmdnaaGreatDoor
namespace Rows

/-- THE TIED CARD OF 'ashlarlaw14.LogOpens'. -/
def logOpensCard : Claim7 := { stood := { row := logOpensRow, standIns := [], harness := (true, "3575b3db85dd5e9c33cd6a113e12ea996e42f9b8ac726a5c9e611adfdf7c88a3"), looks := false }, kinds := [], alts := [], laidByText := true, laidKinds := [.data, .data, .data], laidTests := true, laidLooks := .later }
def LogOpensCardSaid : Prop := Claim7.holds Tryz.pinned (.plain (OpenSpec.ofChange logOpensSpec)) logOpensCard

/-- THE SECOND FORM's CARD OF 'ashlarlaw14.LogOpens'. -/
def logOpensUptoCard : Claim7 := { stood := { row := logOpensUptoRow, standIns := [], harness := (true, "3575b3db85dd5e9c33cd6a113e12ea996e42f9b8ac726a5c9e611adfdf7c88a3"), looks := false }, kinds := [], alts := [], laidByText := true, laidKinds := [.data, .data, .data], laidTests := true, laidLooks := .later }
def LogOpensUptoCardSaid : Prop := Claim7.holds Tryz.pinned (.plain (OpenSpec.upto logOpensSpec)) logOpensUptoCard
end Rows
end Go.Proofs.YtbbcdhkinbmdnaaGreatDoor
