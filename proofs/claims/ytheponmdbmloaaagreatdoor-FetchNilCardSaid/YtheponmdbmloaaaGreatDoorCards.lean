/-
  DERIVED. GIVEN WITH THE SEED: THE CARDS: each row of YtheponmdbmloaaaGreatDoorRows.lean that lists a variable, with what it lists TIED to the program's text (the seventh form; the later family's looks); each row that meets fmt, with fmt's text TOLD by the authors' own Lean function (tested against real Go, not proved from fmt's source: count such statements apart). THE CARD IS WHAT COUNTS. Prove the row's statement (the work); the ties are given (YtheponmdbmloaaaGreatDoorTie.lean); close each card by the builder's one call (the guide's Derived/Test/ToyasCard.lean, 'card_holds'). Laid BY PROGRAM, IN A SANDBOX (cutbox-door.mjs). By AI agents, Wed Nov 11 2026. No macro, syntax, notation, axiom, sorry.
-/
import Derived.Test.YtheponmdbmloaaaGreatDoorRows
import GoSem.ClaimSeven
namespace Go.Proofs.YtheponmdbmloaaaGreatDoor
namespace Rows

/-- THE TIED CARD OF 'ashlarlaw19.FetchSame'. -/
def fetchSameCard : Claim7 := { stood := { row := fetchSameRow, standIns := [], harness := (true, "c8b8783f76f2b5d84e26d53123cb8af04c06d4b4f3ee675a23cbec9193d62527"), looks := false }, kinds := [], alts := [], laidByText := true, laidKinds := [.data], laidTests := true, laidLooks := .later }
def FetchSameCardSaid : Prop := Claim7.holds Tryz.pinned (.plain (OpenSpec.ofChange fetchSameSpec)) fetchSameCard

/-- THE TIED CARD OF 'ashlarlaw19.FetchNil'. -/
def fetchNilCard : Claim7 := { stood := { row := fetchNilRow, standIns := [], harness := (true, "c8b8783f76f2b5d84e26d53123cb8af04c06d4b4f3ee675a23cbec9193d62527"), looks := false }, kinds := [], alts := [], laidByText := true, laidKinds := [.data], laidTests := true, laidLooks := .later }
def FetchNilCardSaid : Prop := Claim7.holds Tryz.pinned (.plain (OpenSpec.ofChange fetchNilSpec)) fetchNilCard

/-- THE SECOND FORM's CARD OF 'ashlarlaw19.FetchSame'. -/
def fetchSameUptoCard : Claim7 := { stood := { row := fetchSameUptoRow, standIns := [], harness := (true, "c8b8783f76f2b5d84e26d53123cb8af04c06d4b4f3ee675a23cbec9193d62527"), looks := false }, kinds := [], alts := [], laidByText := true, laidKinds := [.data], laidTests := true, laidLooks := .later }
def FetchSameUptoCardSaid : Prop := Claim7.holds Tryz.pinned (.plain (OpenSpec.upto fetchSameSpec)) fetchSameUptoCard

/-- THE SECOND FORM's CARD OF 'ashlarlaw19.FetchNil'. -/
def fetchNilUptoCard : Claim7 := { stood := { row := fetchNilUptoRow, standIns := [], harness := (true, "c8b8783f76f2b5d84e26d53123cb8af04c06d4b4f3ee675a23cbec9193d62527"), looks := false }, kinds := [], alts := [], laidByText := true, laidKinds := [.data], laidTests := true, laidLooks := .later }
def FetchNilUptoCardSaid : Prop := Claim7.holds Tryz.pinned (.plain (OpenSpec.upto fetchNilSpec)) fetchNilUptoCard
end Rows
end Go.Proofs.YtheponmdbmloaaaGreatDoor
