/-
  DERIVED. GIVEN WITH THE SEED: THE CARDS: each row of YtiandcigoflcmaaDoorRows.lean that lists a variable, with what it lists TIED to the program's text (the seventh form; the later family's looks); each row that meets fmt, with fmt's text TOLD by the authors' own Lean function (tested against real Go, not proved from fmt's source: count such statements apart). THE CARD IS WHAT COUNTS. Prove the row's statement (the work); the ties are given (YtiandcigoflcmaaDoorTie.lean); close each card by the builder's one call (the guide's Derived/Test/ToyasCard.lean, 'card_holds'). Laid BY PROGRAM, IN A SANDBOX (cutbox-door.mjs). By AI agents, Wed Nov 11 2026. No macro, syntax, notation, axiom, sorry.
-/
import Derived.Test.YtiandcigoflcmaaDoorRows
import GoSem.ClaimSeven
namespace Go.Proofs.YtiandcigoflcmaaDoor
namespace Rows

/-- THE TIED CARD OF 'ashlarlaw13.NotePuts'. -/
def notePutsCard : Claim7 := { stood := { row := notePutsRow, standIns := [], harness := (true, "dd64f4db6aabbcf377b5257ffb408a75361ee9984afc4896cf44f4c6cc9c2b03"), looks := false }, kinds := [], alts := [], laidByText := true, laidKinds := [.data, .data], laidTests := true, laidLooks := .later }
def NotePutsCardSaid : Prop := Claim7.holds Tryd.pinned (.plain (OpenSpec.ofChange notePutsSpec)) notePutsCard

/-- THE TIED CARD OF 'ashlarlaw13.NoteGets'. -/
def noteGetsCard : Claim7 := { stood := { row := noteGetsRow, standIns := [], harness := (true, "dd64f4db6aabbcf377b5257ffb408a75361ee9984afc4896cf44f4c6cc9c2b03"), looks := false }, kinds := [], alts := [], laidByText := true, laidKinds := [.data, .data], laidTests := true, laidLooks := .later }
def NoteGetsCardSaid : Prop := Claim7.holds Tryd.pinned (.plain (OpenSpec.ofChange noteGetsSpec)) noteGetsCard

/-- THE TIED CARD OF 'ashlarlaw13.NoteBack'. -/
def noteBackCard : Claim7 := { stood := { row := noteBackRow, standIns := [], harness := (true, "dd64f4db6aabbcf377b5257ffb408a75361ee9984afc4896cf44f4c6cc9c2b03"), looks := false }, kinds := [], alts := [], laidByText := true, laidKinds := [.data, .data], laidTests := true, laidLooks := .later }
def NoteBackCardSaid : Prop := Claim7.holds Tryd.pinned (.plain (OpenSpec.ofChange noteBackSpec)) noteBackCard

/-- THE TIED CARD OF 'ashlarlaw13.NoteFollows'. -/
def noteFollowsCard : Claim7 := { stood := { row := noteFollowsRow, standIns := [], harness := (true, "dd64f4db6aabbcf377b5257ffb408a75361ee9984afc4896cf44f4c6cc9c2b03"), looks := false }, kinds := [], alts := [], laidByText := true, laidKinds := [.data, .data], laidTests := true, laidLooks := .later }
def NoteFollowsCardSaid : Prop := Claim7.holds Tryd.pinned (.plain (OpenSpec.ofChange noteFollowsSpec)) noteFollowsCard

/-- THE SECOND FORM's CARD OF 'ashlarlaw13.NotePuts'. -/
def notePutsUptoCard : Claim7 := { stood := { row := notePutsUptoRow, standIns := [], harness := (true, "dd64f4db6aabbcf377b5257ffb408a75361ee9984afc4896cf44f4c6cc9c2b03"), looks := false }, kinds := [], alts := [], laidByText := true, laidKinds := [.data, .data], laidTests := true, laidLooks := .later }
def NotePutsUptoCardSaid : Prop := Claim7.holds Tryd.pinned (.plain (OpenSpec.upto notePutsSpec)) notePutsUptoCard

/-- THE SECOND FORM's CARD OF 'ashlarlaw13.NoteGets'. -/
def noteGetsUptoCard : Claim7 := { stood := { row := noteGetsUptoRow, standIns := [], harness := (true, "dd64f4db6aabbcf377b5257ffb408a75361ee9984afc4896cf44f4c6cc9c2b03"), looks := false }, kinds := [], alts := [], laidByText := true, laidKinds := [.data, .data], laidTests := true, laidLooks := .later }
def NoteGetsUptoCardSaid : Prop := Claim7.holds Tryd.pinned (.plain (OpenSpec.upto noteGetsSpec)) noteGetsUptoCard

/-- THE SECOND FORM's CARD OF 'ashlarlaw13.NoteBack'. -/
def noteBackUptoCard : Claim7 := { stood := { row := noteBackUptoRow, standIns := [], harness := (true, "dd64f4db6aabbcf377b5257ffb408a75361ee9984afc4896cf44f4c6cc9c2b03"), looks := false }, kinds := [], alts := [], laidByText := true, laidKinds := [.data, .data], laidTests := true, laidLooks := .later }
def NoteBackUptoCardSaid : Prop := Claim7.holds Tryd.pinned (.plain (OpenSpec.upto noteBackSpec)) noteBackUptoCard

/-- THE SECOND FORM's CARD OF 'ashlarlaw13.NoteFollows'. -/
def noteFollowsUptoCard : Claim7 := { stood := { row := noteFollowsUptoRow, standIns := [], harness := (true, "dd64f4db6aabbcf377b5257ffb408a75361ee9984afc4896cf44f4c6cc9c2b03"), looks := false }, kinds := [], alts := [], laidByText := true, laidKinds := [.data, .data], laidTests := true, laidLooks := .later }
def NoteFollowsUptoCardSaid : Prop := Claim7.holds Tryd.pinned (.plain (OpenSpec.upto noteFollowsSpec)) noteFollowsUptoCard
end Rows
end Go.Proofs.YtiandcigoflcmaaDoor
