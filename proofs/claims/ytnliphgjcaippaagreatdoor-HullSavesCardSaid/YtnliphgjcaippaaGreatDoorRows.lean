/-
  NARROWER THAN 'FOR EVERY INPUT', by the rows' own cells (each row's printed sentence says how): HullNew: laid · HullSaves: laid · HullNil: laid.
  DERIVED. THE GIVEN ROWS OF THIS SEAT. 3 by the template 'for every input the law returns true; each argument reads behind the call as it read before'; 0 by the template 'total and deterministic' (their statements: YtnliphgjcaippaaGreatDoorTotals.lean).
  GIVEN WITH THE SEED: the statements are not yours to turn. If you find one false, say at which input.
  Laid BY PROGRAM, IN A SANDBOX (cutbox-rows.mjs): the forced cells as the released guide's own fill.sh prints them over the translation 9016da7aa8dafc51… (all of the seat's roots in one cut). By AI agents, Wed Nov 11 2026. No macro, syntax, notation, axiom, sorry.
-/
import Derived.Test.YtnliphgjcaippaaGreatDoorChecked
import GoSem.Claim
import GoSem.ClaimJoined
import GoSem.ClaimMapViews
import Derived.JoinedTies
import Derived.KernelRfl
namespace Go.Proofs.YtnliphgjcaippaaGreatDoor
/- THE CELL 'sum', in the pinned program and in every row, IS THE sha256 OF THE DUMP (.gsa) THAT YtnliphgjcaippaaGreatDoorProg.lean LOADS. Nothing in Lean hashes anything: it is a label: what it is worth is what the hold of that sum in a sandbox is worth. -/
noncomputable def Tryz.pinned : Pinned := { name := "ytnliphgjcaippaagreatdoor", sum := "9016da7aa8dafc511885061f8c63eddd8833e04ca8581f4e71210e046b13b39f", checked := Tryz.checked }
namespace Rows
def none {H : Type} : Left H := { results := [], args := [] }

/- WHAT THE LISTED PACKAGE-LEVEL VARIABLES READ AS WHEN THE CALL BEGINS. Each datum BY PROGRAM (the guide's laid-datum.mjs) off the statement by which the dump's own 'gosem.cut.vars' lays the variable. In a bare row this is a premise. The card (YtnliphgjcaippaaGreatDoorCards.lean) ties it to the program's text. -/
def laid_ashlar_crc_halves {H : Type} : DataW H := .agg [.lit (.int .u32 0), .lit (.int .u32 274646895), .lit (.int .u32 549293790), .lit (.int .u32 820201905), .lit (.int .u32 1098587580), .lit (.int .u32 1361435347), .lit (.int .u32 1640403810), .lit (.int .u32 1905808397), .lit (.int .u32 2197175160), .lit (.int .u32 2460548119), .lit (.int .u32 2722870694), .lit (.int .u32 2987750089), .lit (.int .u32 3280807620), .lit (.int .u32 3553878443), .lit (.int .u32 3811616794), .lit (.int .u32 4084100981)]

/-- 'ashlarlaw18.HullNew': WHATEVER THE INPUT: true; the input reads as it did. -/
def hullNewSpec : ChangeSpec := { name := "hullNew", fn := fun _ => fun
  | [d1, d2, d3, d4] => { results := [.lit (.bool true)], args := [d1, d2, d3, d4] }
  | _ => none }
def hullNewRow : OpenClaim := { program := "ytnliphgjcaippaagreatdoor", sum := "9016da7aa8dafc511885061f8c63eddd8833e04ca8581f4e71210e046b13b39f", func := "ashlar/ashlarlaw18.HullNew", spec := "hullNew", unfollowed := true, recurses := true, named := ["ashlar/crc.halves"], apart := false, laid := [("ashlar/crc.halves", laid_ashlar_crc_halves)] }
def HullNewSaid : Prop := hullNewRow.holds Tryz.pinned (OpenSpec.ofChange hullNewSpec)

/-- ITS FALSE NEIGHBOUR: 'it returns false'. Refute it at one input. -/
def hullNewWrong : ChangeSpec := { name := "hullNew", fn := fun _ => fun
  | [d1, d2, d3, d4] => { results := [.lit (.bool false)], args := [d1, d2, d3, d4] }
  | _ => none }
def HullNewWrongFalsely : Prop := hullNewRow.holds Tryz.pinned (OpenSpec.ofChange hullNewWrong)

/-- 'ashlarlaw18.HullSaves': WHATEVER THE INPUT: true; the input reads as it did. -/
def hullSavesSpec : ChangeSpec := { name := "hullSaves", fn := fun _ => fun
  | [d1, d2, d3] => { results := [.lit (.bool true)], args := [d1, d2, d3] }
  | _ => none }
def hullSavesRow : OpenClaim := { program := "ytnliphgjcaippaagreatdoor", sum := "9016da7aa8dafc511885061f8c63eddd8833e04ca8581f4e71210e046b13b39f", func := "ashlar/ashlarlaw18.HullSaves", spec := "hullSaves", unfollowed := true, recurses := true, named := ["ashlar/crc.halves"], apart := false, laid := [("ashlar/crc.halves", laid_ashlar_crc_halves)] }
def HullSavesSaid : Prop := hullSavesRow.holds Tryz.pinned (OpenSpec.ofChange hullSavesSpec)

/-- ITS FALSE NEIGHBOUR: 'it returns false'. Refute it at one input. -/
def hullSavesWrong : ChangeSpec := { name := "hullSaves", fn := fun _ => fun
  | [d1, d2, d3] => { results := [.lit (.bool false)], args := [d1, d2, d3] }
  | _ => none }
def HullSavesWrongFalsely : Prop := hullSavesRow.holds Tryz.pinned (OpenSpec.ofChange hullSavesWrong)

/-- 'ashlarlaw18.HullNil': WHATEVER THE INPUT: true; the input reads as it did. -/
def hullNilSpec : ChangeSpec := { name := "hullNil", fn := fun _ => fun
  | [d1, d2, d3, d4] => { results := [.lit (.bool true)], args := [d1, d2, d3, d4] }
  | _ => none }
def hullNilRow : OpenClaim := { program := "ytnliphgjcaippaagreatdoor", sum := "9016da7aa8dafc511885061f8c63eddd8833e04ca8581f4e71210e046b13b39f", func := "ashlar/ashlarlaw18.HullNil", spec := "hullNil", unfollowed := true, recurses := true, named := ["ashlar/crc.halves"], apart := false, laid := [("ashlar/crc.halves", laid_ashlar_crc_halves)] }
def HullNilSaid : Prop := hullNilRow.holds Tryz.pinned (OpenSpec.ofChange hullNilSpec)

/-- ITS FALSE NEIGHBOUR: 'it returns false'. Refute it at one input. -/
def hullNilWrong : ChangeSpec := { name := "hullNil", fn := fun _ => fun
  | [d1, d2, d3, d4] => { results := [.lit (.bool false)], args := [d1, d2, d3, d4] }
  | _ => none }
def HullNilWrongFalsely : Prop := hullNilRow.holds Tryz.pinned (OpenSpec.ofChange hullNilWrong)

/- THE SECOND FORM. 'bulk': how many values and letters a reading holds, each counted each time it is reached (what is shared counts as often as it is met; a slice's spare places count too). A statement '..UptoSaid' is the law's where the arguments, and the package variables that the reading takes, are together of bulk at most 1048576: NARROWER than '..Said'. Prove '..Said' where nothing that the law and all that it calls make is longer than what came in: it says more and counts as full. Else prove '..UptoSaid'. A law counts once. -/
mutual
def uptoBulk {H : Type} : DataW H → Nat
  | .lit (.string bytes) => bytes.length + 1
  | .lit _ => 1
  | .nil => 1
  | .ptr d => uptoBulk d + 1
  | .slice elems spare => uptoBulkAll elems + uptoBulkAll spare + 1
  | .agg parts => uptoBulkAll parts + 1
  | .iface _ d => uptoBulk d + 1
  | .map entries => uptoBulkEntries entries + 1
  | .held _ => 1
def uptoBulkAll {H : Type} : List (DataW H) → Nat
  | [] => 0
  | d :: r => uptoBulk d + uptoBulkAll r
def uptoBulkEntries {H : Type} : List (Lit × DataW H) → Nat
  | [] => 0
  | x :: r => uptoBulkEntry x + uptoBulkEntries r
def uptoBulkEntry {H : Type} : Lit × DataW H → Nat
  | (.string bytes, d) => bytes.length + uptoBulk d + 1
  | (_, d) => uptoBulk d + 1
 end
def uptoSmall : (H : Type) → List (DataW H) → Bool := fun _ ds => decide (uptoBulkAll ds ≤ 1048576)
def OpenSpec.upto (s : _root_.Go.ChangeSpec) : _root_.Go.OpenSpec := { _root_.Go.OpenSpec.ofChange s with cond := some uptoSmall }

/-- 'ashlarlaw18.HullNew', WHERE WHAT IT READS IS OF BULK AT MOST 1048576: true; the input reads as it did. -/
def hullNewUptoRow : OpenClaim := { program := "ytnliphgjcaippaagreatdoor", sum := "9016da7aa8dafc511885061f8c63eddd8833e04ca8581f4e71210e046b13b39f", func := "ashlar/ashlarlaw18.HullNew", spec := "hullNew", unfollowed := true, recurses := true, named := ["ashlar/crc.halves"], apart := false, laid := [("ashlar/crc.halves", laid_ashlar_crc_halves)], narrowed := true }
def HullNewUptoSaid : Prop := hullNewUptoRow.holds Tryz.pinned (OpenSpec.upto hullNewSpec)

/-- 'ashlarlaw18.HullSaves', WHERE WHAT IT READS IS OF BULK AT MOST 1048576: true; the input reads as it did. -/
def hullSavesUptoRow : OpenClaim := { program := "ytnliphgjcaippaagreatdoor", sum := "9016da7aa8dafc511885061f8c63eddd8833e04ca8581f4e71210e046b13b39f", func := "ashlar/ashlarlaw18.HullSaves", spec := "hullSaves", unfollowed := true, recurses := true, named := ["ashlar/crc.halves"], apart := false, laid := [("ashlar/crc.halves", laid_ashlar_crc_halves)], narrowed := true }
def HullSavesUptoSaid : Prop := hullSavesUptoRow.holds Tryz.pinned (OpenSpec.upto hullSavesSpec)

/-- 'ashlarlaw18.HullNil', WHERE WHAT IT READS IS OF BULK AT MOST 1048576: true; the input reads as it did. -/
def hullNilUptoRow : OpenClaim := { program := "ytnliphgjcaippaagreatdoor", sum := "9016da7aa8dafc511885061f8c63eddd8833e04ca8581f4e71210e046b13b39f", func := "ashlar/ashlarlaw18.HullNil", spec := "hullNil", unfollowed := true, recurses := true, named := ["ashlar/crc.halves"], apart := false, laid := [("ashlar/crc.halves", laid_ashlar_crc_halves)], narrowed := true }
def HullNilUptoSaid : Prop := hullNilUptoRow.holds Tryz.pinned (OpenSpec.upto hullNilSpec)

end Rows
end Go.Proofs.YtnliphgjcaippaaGreatDoor
