/-
  NARROWER THAN 'FOR EVERY INPUT', by the rows' own cells (each row's printed sentence says how): MarkPuts: laid · MarkGets: laid · MarkBack: laid · MarkNewest: laid.
  DERIVED. THE GIVEN ROWS OF THIS SEAT. 4 by the template 'for every input the law returns true; each argument reads behind the call as it read before'; 0 by the template 'total and deterministic' (their statements: YtmdpbnolgbfaeaaDoorTotals.lean).
  GIVEN WITH THE SEED: the statements are not yours to turn. If you find one false, say at which input.
  Laid BY PROGRAM, IN A SANDBOX (cutbox-rows.mjs): the forced cells as the released guide's own fill.sh prints them over the translation f48a6e65c1c81751… (all of the seat's roots in one cut). By AI agents, Wed Nov 11 2026. No macro, syntax, notation, axiom, sorry.
-/
import Derived.Test.YtmdpbnolgbfaeaaDoorChecked
import GoSem.Claim
import GoSem.ClaimJoined
import GoSem.ClaimMapViews
import Derived.JoinedTies
import Derived.KernelRfl
namespace Go.Proofs.YtmdpbnolgbfaeaaDoor
/- THE CELL 'sum', in the pinned program and in every row, IS THE sha256 OF THE DUMP (.gsa) THAT YtmdpbnolgbfaeaaDoorProg.lean LOADS. Nothing in Lean hashes anything: it is a label: what it is worth is what the hold of that sum in a sandbox is worth. -/
noncomputable def Tryd.pinned : Pinned := { name := "ytmdpbnolgbfaeaadoor", sum := "f48a6e65c1c8175157545b3935f9d70ede0040bcc4e3c9809d03fb548f5aaeb4", checked := Tryd.checked }
namespace Rows
def none {H : Type} : Left H := { results := [], args := [] }

/- WHAT THE LISTED PACKAGE-LEVEL VARIABLES READ AS WHEN THE CALL BEGINS. Each datum BY PROGRAM (the guide's laid-datum.mjs) off the statement by which the dump's own 'gosem.cut.vars' lays the variable. In a bare row this is a premise. The card (YtmdpbnolgbfaeaaDoorCards.lean) ties it to the program's text. -/
def laid_ashlar_crc_halves {H : Type} : DataW H := .agg [.lit (.int .u32 0), .lit (.int .u32 274646895), .lit (.int .u32 549293790), .lit (.int .u32 820201905), .lit (.int .u32 1098587580), .lit (.int .u32 1361435347), .lit (.int .u32 1640403810), .lit (.int .u32 1905808397), .lit (.int .u32 2197175160), .lit (.int .u32 2460548119), .lit (.int .u32 2722870694), .lit (.int .u32 2987750089), .lit (.int .u32 3280807620), .lit (.int .u32 3553878443), .lit (.int .u32 3811616794), .lit (.int .u32 4084100981)]
def laid_ashlar_mark_sizes {H : Type} : DataW H := .agg [.lit (.int .i64 8), .lit (.int .i64 2), .lit (.int .i64 8), .lit (.int .i64 8)]

/-- 'ashlarlaw09.MarkPuts': WHATEVER THE INPUT: true; the input reads as it did. -/
def markPutsSpec : ChangeSpec := { name := "markPuts", fn := fun _ => fun
  | [d1, d2] => { results := [.lit (.bool true)], args := [d1, d2] }
  | _ => none }
def markPutsRow : OpenClaim := { program := "ytmdpbnolgbfaeaadoor", sum := "f48a6e65c1c8175157545b3935f9d70ede0040bcc4e3c9809d03fb548f5aaeb4", func := "ashlar/ashlarlaw09.MarkPuts", spec := "markPuts", named := ["ashlar/mark.sizes", "ashlar/crc.halves"], apart := false, laid := [("ashlar/crc.halves", laid_ashlar_crc_halves), ("ashlar/mark.sizes", laid_ashlar_mark_sizes)] }
def MarkPutsSaid : Prop := markPutsRow.holds Tryd.pinned (OpenSpec.ofChange markPutsSpec)

/-- ITS FALSE NEIGHBOUR: 'it returns false'. Refute it at one input. -/
def markPutsWrong : ChangeSpec := { name := "markPuts", fn := fun _ => fun
  | [d1, d2] => { results := [.lit (.bool false)], args := [d1, d2] }
  | _ => none }
def MarkPutsWrongFalsely : Prop := markPutsRow.holds Tryd.pinned (OpenSpec.ofChange markPutsWrong)

/-- 'ashlarlaw09.MarkGets': WHATEVER THE INPUT: true; the input reads as it did. -/
def markGetsSpec : ChangeSpec := { name := "markGets", fn := fun _ => fun
  | [d1, d2, d3] => { results := [.lit (.bool true)], args := [d1, d2, d3] }
  | _ => none }
def markGetsRow : OpenClaim := { program := "ytmdpbnolgbfaeaadoor", sum := "f48a6e65c1c8175157545b3935f9d70ede0040bcc4e3c9809d03fb548f5aaeb4", func := "ashlar/ashlarlaw09.MarkGets", spec := "markGets", named := ["ashlar/crc.halves", "ashlar/mark.sizes"], apart := false, laid := [("ashlar/crc.halves", laid_ashlar_crc_halves), ("ashlar/mark.sizes", laid_ashlar_mark_sizes)] }
def MarkGetsSaid : Prop := markGetsRow.holds Tryd.pinned (OpenSpec.ofChange markGetsSpec)

/-- ITS FALSE NEIGHBOUR: 'it returns false'. Refute it at one input. -/
def markGetsWrong : ChangeSpec := { name := "markGets", fn := fun _ => fun
  | [d1, d2, d3] => { results := [.lit (.bool false)], args := [d1, d2, d3] }
  | _ => none }
def MarkGetsWrongFalsely : Prop := markGetsRow.holds Tryd.pinned (OpenSpec.ofChange markGetsWrong)

/-- 'ashlarlaw09.MarkBack': WHATEVER THE INPUT: true; the input reads as it did. -/
def markBackSpec : ChangeSpec := { name := "markBack", fn := fun _ => fun
  | [d1, d2, d3] => { results := [.lit (.bool true)], args := [d1, d2, d3] }
  | _ => none }
def markBackRow : OpenClaim := { program := "ytmdpbnolgbfaeaadoor", sum := "f48a6e65c1c8175157545b3935f9d70ede0040bcc4e3c9809d03fb548f5aaeb4", func := "ashlar/ashlarlaw09.MarkBack", spec := "markBack", named := ["ashlar/mark.sizes", "ashlar/crc.halves"], apart := false, laid := [("ashlar/crc.halves", laid_ashlar_crc_halves), ("ashlar/mark.sizes", laid_ashlar_mark_sizes)] }
def MarkBackSaid : Prop := markBackRow.holds Tryd.pinned (OpenSpec.ofChange markBackSpec)

/-- ITS FALSE NEIGHBOUR: 'it returns false'. Refute it at one input. -/
def markBackWrong : ChangeSpec := { name := "markBack", fn := fun _ => fun
  | [d1, d2, d3] => { results := [.lit (.bool false)], args := [d1, d2, d3] }
  | _ => none }
def MarkBackWrongFalsely : Prop := markBackRow.holds Tryd.pinned (OpenSpec.ofChange markBackWrong)

/-- 'ashlarlaw09.MarkNewest': WHATEVER THE INPUT: true; the input reads as it did. -/
def markNewestSpec : ChangeSpec := { name := "markNewest", fn := fun _ => fun
  | [d1, d2, d3, d4, d5, d6] => { results := [.lit (.bool true)], args := [d1, d2, d3, d4, d5, d6] }
  | _ => none }
def markNewestRow : OpenClaim := { program := "ytmdpbnolgbfaeaadoor", sum := "f48a6e65c1c8175157545b3935f9d70ede0040bcc4e3c9809d03fb548f5aaeb4", func := "ashlar/ashlarlaw09.MarkNewest", spec := "markNewest", named := ["ashlar/crc.halves", "ashlar/mark.sizes"], apart := false, laid := [("ashlar/crc.halves", laid_ashlar_crc_halves), ("ashlar/mark.sizes", laid_ashlar_mark_sizes)] }
def MarkNewestSaid : Prop := markNewestRow.holds Tryd.pinned (OpenSpec.ofChange markNewestSpec)

/-- ITS FALSE NEIGHBOUR: 'it returns false'. Refute it at one input. -/
def markNewestWrong : ChangeSpec := { name := "markNewest", fn := fun _ => fun
  | [d1, d2, d3, d4, d5, d6] => { results := [.lit (.bool false)], args := [d1, d2, d3, d4, d5, d6] }
  | _ => none }
def MarkNewestWrongFalsely : Prop := markNewestRow.holds Tryd.pinned (OpenSpec.ofChange markNewestWrong)

/- THE SECOND FORM. 'bulk': how many values and letters a reading holds, each counted each time it is reached (what is shared counts as often as it is met; a slice's spare places count too). A statement '..UptoSaid' is the law's where the arguments, and the package variables that the reading takes, are together of bulk at most 1048576: NARROWER than '..Said'. Prove '..Said' where nothing that the law and all that it calls make is longer than what came in: it says more and counts as full. Else prove '..UptoSaid'. A law counts once. -/
mutual
def uptoBulk {H : Type} : DataW H → Nat
  | .lit (.string bytes) => bytes.length + 1
  | .lit _ => 1
  | .nil => 1
  | .ptr d => uptoBulk d + 1
  | .slice elems spare => uptoBulkAll elems + uptoBulkAll spare + 1
  | .agg parts => uptoBulkAll parts + 1
  | .iface _ d => uptoBulk d + 1
  | .map entries => uptoBulkEntries entries + 1
  | .held _ => 1
def uptoBulkAll {H : Type} : List (DataW H) → Nat
  | [] => 0
  | d :: r => uptoBulk d + uptoBulkAll r
def uptoBulkEntries {H : Type} : List (Lit × DataW H) → Nat
  | [] => 0
  | x :: r => uptoBulkEntry x + uptoBulkEntries r
def uptoBulkEntry {H : Type} : Lit × DataW H → Nat
  | (.string bytes, d) => bytes.length + uptoBulk d + 1
  | (_, d) => uptoBulk d + 1
 end
def uptoSmall : (H : Type) → List (DataW H) → Bool := fun _ ds => decide (uptoBulkAll ds ≤ 1048576)
def OpenSpec.upto (s : _root_.Go.ChangeSpec) : _root_.Go.OpenSpec := { _root_.Go.OpenSpec.ofChange s with cond := some uptoSmall }

/-- 'ashlarlaw09.MarkPuts', WHERE WHAT IT READS IS OF BULK AT MOST 1048576: true; the input reads as it did. -/
def markPutsUptoRow : OpenClaim := { program := "ytmdpbnolgbfaeaadoor", sum := "f48a6e65c1c8175157545b3935f9d70ede0040bcc4e3c9809d03fb548f5aaeb4", func := "ashlar/ashlarlaw09.MarkPuts", spec := "markPuts", named := ["ashlar/mark.sizes", "ashlar/crc.halves"], apart := false, laid := [("ashlar/crc.halves", laid_ashlar_crc_halves), ("ashlar/mark.sizes", laid_ashlar_mark_sizes)], narrowed := true }
def MarkPutsUptoSaid : Prop := markPutsUptoRow.holds Tryd.pinned (OpenSpec.upto markPutsSpec)

/-- 'ashlarlaw09.MarkGets', WHERE WHAT IT READS IS OF BULK AT MOST 1048576: true; the input reads as it did. -/
def markGetsUptoRow : OpenClaim := { program := "ytmdpbnolgbfaeaadoor", sum := "f48a6e65c1c8175157545b3935f9d70ede0040bcc4e3c9809d03fb548f5aaeb4", func := "ashlar/ashlarlaw09.MarkGets", spec := "markGets", named := ["ashlar/crc.halves", "ashlar/mark.sizes"], apart := false, laid := [("ashlar/crc.halves", laid_ashlar_crc_halves), ("ashlar/mark.sizes", laid_ashlar_mark_sizes)], narrowed := true }
def MarkGetsUptoSaid : Prop := markGetsUptoRow.holds Tryd.pinned (OpenSpec.upto markGetsSpec)

/-- 'ashlarlaw09.MarkBack', WHERE WHAT IT READS IS OF BULK AT MOST 1048576: true; the input reads as it did. -/
def markBackUptoRow : OpenClaim := { program := "ytmdpbnolgbfaeaadoor", sum := "f48a6e65c1c8175157545b3935f9d70ede0040bcc4e3c9809d03fb548f5aaeb4", func := "ashlar/ashlarlaw09.MarkBack", spec := "markBack", named := ["ashlar/mark.sizes", "ashlar/crc.halves"], apart := false, laid := [("ashlar/crc.halves", laid_ashlar_crc_halves), ("ashlar/mark.sizes", laid_ashlar_mark_sizes)], narrowed := true }
def MarkBackUptoSaid : Prop := markBackUptoRow.holds Tryd.pinned (OpenSpec.upto markBackSpec)

/-- 'ashlarlaw09.MarkNewest', WHERE WHAT IT READS IS OF BULK AT MOST 1048576: true; the input reads as it did. -/
def markNewestUptoRow : OpenClaim := { program := "ytmdpbnolgbfaeaadoor", sum := "f48a6e65c1c8175157545b3935f9d70ede0040bcc4e3c9809d03fb548f5aaeb4", func := "ashlar/ashlarlaw09.MarkNewest", spec := "markNewest", named := ["ashlar/crc.halves", "ashlar/mark.sizes"], apart := false, laid := [("ashlar/crc.halves", laid_ashlar_crc_halves), ("ashlar/mark.sizes", laid_ashlar_mark_sizes)], narrowed := true }
def MarkNewestUptoSaid : Prop := markNewestUptoRow.holds Tryd.pinned (OpenSpec.upto markNewestSpec)

end Rows
end Go.Proofs.YtmdpbnolgbfaeaaDoor
