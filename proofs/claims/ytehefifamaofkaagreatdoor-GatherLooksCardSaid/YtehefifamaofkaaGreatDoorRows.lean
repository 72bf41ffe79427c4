/-
  NARROWER THAN 'FOR EVERY INPUT', by the rows' own cells (each row's printed sentence says how): GatherLooks: laid · GatherFits: laid · GatherSaved: laid · GatherNil: laid.
  DERIVED. THE GIVEN ROWS OF THIS SEAT. 4 by the template 'for every input the law returns true; each argument reads behind the call as it read before'; 0 by the template 'total and deterministic' (their statements: YtehefifamaofkaaGreatDoorTotals.lean).
  GIVEN WITH THE SEED: the statements are not yours to turn. If you find one false, say at which input.
  Laid BY PROGRAM, IN A SANDBOX (cutbox-rows.mjs): the forced cells as the released guide's own fill.sh prints them over the translation 7787fc03ab4c2f3f… (all of the seat's roots in one cut). By AI agents, Wed Nov 11 2026. No macro, syntax, notation, axiom, sorry.
-/
import Derived.Test.YtehefifamaofkaaGreatDoorChecked
import GoSem.Claim
import GoSem.ClaimJoined
import GoSem.ClaimMapViews
import Derived.JoinedTies
import Derived.KernelRfl
namespace Go.Proofs.YtehefifamaofkaaGreatDoor
/- THE CELL 'sum', in the pinned program and in every row, IS THE sha256 OF THE DUMP (.gsa) THAT YtehefifamaofkaaGreatDoorProg.lean LOADS. Nothing in Lean hashes anything: it is a label: what it is worth is what the hold of that sum in a sandbox is worth. -/
noncomputable def Tryz.pinned : Pinned := { name := "ytehefifamaofkaagreatdoor", sum := "7787fc03ab4c2f3f5ee59500554a428e965312a28ac0959874c1a868f2a5531a", checked := Tryz.checked }
namespace Rows
def none {H : Type} : Left H := { results := [], args := [] }

/- WHAT THE LISTED PACKAGE-LEVEL VARIABLES READ AS WHEN THE CALL BEGINS. Each datum BY PROGRAM (the guide's laid-datum.mjs) off the statement by which the dump's own 'gosem.cut.vars' lays the variable. In a bare row this is a premise. The card (YtehefifamaofkaaGreatDoorCards.lean) ties it to the program's text. -/
def laid_ashlar_crc_halves {H : Type} : DataW H := .agg [.lit (.int .u32 0), .lit (.int .u32 274646895), .lit (.int .u32 549293790), .lit (.int .u32 820201905), .lit (.int .u32 1098587580), .lit (.int .u32 1361435347), .lit (.int .u32 1640403810), .lit (.int .u32 1905808397), .lit (.int .u32 2197175160), .lit (.int .u32 2460548119), .lit (.int .u32 2722870694), .lit (.int .u32 2987750089), .lit (.int .u32 3280807620), .lit (.int .u32 3553878443), .lit (.int .u32 3811616794), .lit (.int .u32 4084100981)]

/-- 'ashlarlaw22.GatherLooks': WHATEVER THE INPUT: true; the input reads as it did. -/
def gatherLooksSpec : ChangeSpec := { name := "gatherLooks", fn := fun _ => fun
  | [d1, d2, d3, d4] => { results := [.lit (.bool true)], args := [d1, d2, d3, d4] }
  | _ => none }
def gatherLooksRow : OpenClaim := { program := "ytehefifamaofkaagreatdoor", sum := "7787fc03ab4c2f3f5ee59500554a428e965312a28ac0959874c1a868f2a5531a", func := "ashlar/ashlarlaw22.GatherLooks", spec := "gatherLooks", unfollowed := true, recurses := true, named := ["ashlar/crc.halves"], apart := false, laid := [("ashlar/crc.halves", laid_ashlar_crc_halves)] }
def GatherLooksSaid : Prop := gatherLooksRow.holds Tryz.pinned (OpenSpec.ofChange gatherLooksSpec)

/-- ITS FALSE NEIGHBOUR: 'it returns false'. Refute it at one input. -/
def gatherLooksWrong : ChangeSpec := { name := "gatherLooks", fn := fun _ => fun
  | [d1, d2, d3, d4] => { results := [.lit (.bool false)], args := [d1, d2, d3, d4] }
  | _ => none }
def GatherLooksWrongFalsely : Prop := gatherLooksRow.holds Tryz.pinned (OpenSpec.ofChange gatherLooksWrong)

/-- 'ashlarlaw22.GatherFits': WHATEVER THE INPUT: true; the input reads as it did. -/
def gatherFitsSpec : ChangeSpec := { name := "gatherFits", fn := fun _ => fun
  | [d1, d2] => { results := [.lit (.bool true)], args := [d1, d2] }
  | _ => none }
def gatherFitsRow : OpenClaim := { program := "ytehefifamaofkaagreatdoor", sum := "7787fc03ab4c2f3f5ee59500554a428e965312a28ac0959874c1a868f2a5531a", func := "ashlar/ashlarlaw22.GatherFits", spec := "gatherFits", unfollowed := true, recurses := true, named := ["ashlar/crc.halves"], apart := false, laid := [("ashlar/crc.halves", laid_ashlar_crc_halves)] }
def GatherFitsSaid : Prop := gatherFitsRow.holds Tryz.pinned (OpenSpec.ofChange gatherFitsSpec)

/-- ITS FALSE NEIGHBOUR: 'it returns false'. Refute it at one input. -/
def gatherFitsWrong : ChangeSpec := { name := "gatherFits", fn := fun _ => fun
  | [d1, d2] => { results := [.lit (.bool false)], args := [d1, d2] }
  | _ => none }
def GatherFitsWrongFalsely : Prop := gatherFitsRow.holds Tryz.pinned (OpenSpec.ofChange gatherFitsWrong)

/-- 'ashlarlaw22.GatherSaved': WHATEVER THE INPUT: true; the input reads as it did. -/
def gatherSavedSpec : ChangeSpec := { name := "gatherSaved", fn := fun _ => fun
  | [d1, d2, d3, d4] => { results := [.lit (.bool true)], args := [d1, d2, d3, d4] }
  | _ => none }
def gatherSavedRow : OpenClaim := { program := "ytehefifamaofkaagreatdoor", sum := "7787fc03ab4c2f3f5ee59500554a428e965312a28ac0959874c1a868f2a5531a", func := "ashlar/ashlarlaw22.GatherSaved", spec := "gatherSaved", unfollowed := true, recurses := true, named := ["ashlar/crc.halves"], apart := false, laid := [("ashlar/crc.halves", laid_ashlar_crc_halves)] }
def GatherSavedSaid : Prop := gatherSavedRow.holds Tryz.pinned (OpenSpec.ofChange gatherSavedSpec)

/-- ITS FALSE NEIGHBOUR: 'it returns false'. Refute it at one input. -/
def gatherSavedWrong : ChangeSpec := { name := "gatherSaved", fn := fun _ => fun
  | [d1, d2, d3, d4] => { results := [.lit (.bool false)], args := [d1, d2, d3, d4] }
  | _ => none }
def GatherSavedWrongFalsely : Prop := gatherSavedRow.holds Tryz.pinned (OpenSpec.ofChange gatherSavedWrong)

/-- 'ashlarlaw22.GatherNil': WHATEVER THE INPUT: true; the input reads as it did. -/
def gatherNilSpec : ChangeSpec := { name := "gatherNil", fn := fun _ => fun
  | [d1, d2] => { results := [.lit (.bool true)], args := [d1, d2] }
  | _ => none }
def gatherNilRow : OpenClaim := { program := "ytehefifamaofkaagreatdoor", sum := "7787fc03ab4c2f3f5ee59500554a428e965312a28ac0959874c1a868f2a5531a", func := "ashlar/ashlarlaw22.GatherNil", spec := "gatherNil", unfollowed := true, recurses := true, named := ["ashlar/crc.halves"], apart := false, laid := [("ashlar/crc.halves", laid_ashlar_crc_halves)] }
def GatherNilSaid : Prop := gatherNilRow.holds Tryz.pinned (OpenSpec.ofChange gatherNilSpec)

/-- ITS FALSE NEIGHBOUR: 'it returns false'. Refute it at one input. -/
def gatherNilWrong : ChangeSpec := { name := "gatherNil", fn := fun _ => fun
  | [d1, d2] => { results := [.lit (.bool false)], args := [d1, d2] }
  | _ => none }
def GatherNilWrongFalsely : Prop := gatherNilRow.holds Tryz.pinned (OpenSpec.ofChange gatherNilWrong)

/- THE SECOND FORM. 'bulk': how many values and letters a reading holds, each counted each time it is reached (what is shared counts as often as it is met; a slice's spare places count too). A statement '..UptoSaid' is the law's where the arguments, and the package variables that the reading takes, are together of bulk at most 1048576: NARROWER than '..Said'. Prove '..Said' where nothing that the law and all that it calls make is longer than what came in: it says more and counts as full. Else prove '..UptoSaid'. A law counts once. -/
mutual
def uptoBulk {H : Type} : DataW H → Nat
  | .lit (.string bytes) => bytes.length + 1
  | .lit _ => 1
  | .nil => 1
  | .ptr d => uptoBulk d + 1
  | .slice elems spare => uptoBulkAll elems + uptoBulkAll spare + 1
  | .agg parts => uptoBulkAll parts + 1
  | .iface _ d => uptoBulk d + 1
  | .map entries => uptoBulkEntries entries + 1
  | .held _ => 1
def uptoBulkAll {H : Type} : List (DataW H) → Nat
  | [] => 0
  | d :: r => uptoBulk d + uptoBulkAll r
def uptoBulkEntries {H : Type} : List (Lit × DataW H) → Nat
  | [] => 0
  | x :: r => uptoBulkEntry x + uptoBulkEntries r
def uptoBulkEntry {H : Type} : Lit × DataW H → Nat
  | (.string bytes, d) => bytes.length + uptoBulk d + 1
  | (_, d) => uptoBulk d + 1
 end
def uptoSmall : (H : Type) → List (DataW H) → Bool := fun _ ds => decide (uptoBulkAll ds ≤ 1048576)
def OpenSpec.upto (s : _root_.Go.ChangeSpec) : _root_.Go.OpenSpec := { _root_.Go.OpenSpec.ofChange s with cond := some uptoSmall }

/-- 'ashlarlaw22.GatherLooks', WHERE WHAT IT READS IS OF BULK AT MOST 1048576: true; the input reads as it did. -/
def gatherLooksUptoRow : OpenClaim := { program := "ytehefifamaofkaagreatdoor", sum := "7787fc03ab4c2f3f5ee59500554a428e965312a28ac0959874c1a868f2a5531a", func := "ashlar/ashlarlaw22.GatherLooks", spec := "gatherLooks", unfollowed := true, recurses := true, named := ["ashlar/crc.halves"], apart := false, laid := [("ashlar/crc.halves", laid_ashlar_crc_halves)], narrowed := true }
def GatherLooksUptoSaid : Prop := gatherLooksUptoRow.holds Tryz.pinned (OpenSpec.upto gatherLooksSpec)

/-- 'ashlarlaw22.GatherFits', WHERE WHAT IT READS IS OF BULK AT MOST 1048576: true; the input reads as it did. -/
def gatherFitsUptoRow : OpenClaim := { program := "ytehefifamaofkaagreatdoor", sum := "7787fc03ab4c2f3f5ee59500554a428e965312a28ac0959874c1a868f2a5531a", func := "ashlar/ashlarlaw22.GatherFits", spec := "gatherFits", unfollowed := true, recurses := true, named := ["ashlar/crc.halves"], apart := false, laid := [("ashlar/crc.halves", laid_ashlar_crc_halves)], narrowed := true }
def GatherFitsUptoSaid : Prop := gatherFitsUptoRow.holds Tryz.pinned (OpenSpec.upto gatherFitsSpec)

/-- 'ashlarlaw22.GatherSaved', WHERE WHAT IT READS IS OF BULK AT MOST 1048576: true; the input reads as it did. -/
def gatherSavedUptoRow : OpenClaim := { program := "ytehefifamaofkaagreatdoor", sum := "7787fc03ab4c2f3f5ee59500554a428e965312a28ac0959874c1a868f2a5531a", func := "ashlar/ashlarlaw22.GatherSaved", spec := "gatherSaved", unfollowed := true, recurses := true, named := ["ashlar/crc.halves"], apart := false, laid := [("ashlar/crc.halves", laid_ashlar_crc_halves)], narrowed := true }
def GatherSavedUptoSaid : Prop := gatherSavedUptoRow.holds Tryz.pinned (OpenSpec.upto gatherSavedSpec)

/-- 'ashlarlaw22.GatherNil', WHERE WHAT IT READS IS OF BULK AT MOST 1048576: true; the input reads as it did. -/
def gatherNilUptoRow : OpenClaim := { program := "ytehefifamaofkaagreatdoor", sum := "7787fc03ab4c2f3f5ee59500554a428e965312a28ac0959874c1a868f2a5531a", func := "ashlar/ashlarlaw22.GatherNil", spec := "gatherNil", unfollowed := true, recurses := true, named := ["ashlar/crc.halves"], apart := false, laid := [("ashlar/crc.halves", laid_ashlar_crc_halves)], narrowed := true }
def GatherNilUptoSaid : Prop := gatherNilUptoRow.holds Tryz.pinned (OpenSpec.upto gatherNilSpec)

end Rows
end Go.Proofs.YtehefifamaofkaaGreatDoor
