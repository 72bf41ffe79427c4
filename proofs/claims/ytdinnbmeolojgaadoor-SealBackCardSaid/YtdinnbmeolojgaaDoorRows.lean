/-
  NARROWER THAN 'FOR EVERY INPUT', by the rows' own cells (each row's printed sentence says how): SealPuts: laid · SealGets: laid · SealBack: laid · SealTorn: laid · SealByte: laid · SealNewest: laid.
  DERIVED. THE GIVEN ROWS OF THIS SEAT. 6 by the template 'for every input the law returns true; each argument reads behind the call as it read before'; 0 by the template 'total and deterministic' (their statements: YtdinnbmeolojgaaDoorTotals.lean).
  GIVEN WITH THE SEED: the statements are not yours to turn. If you find one false, say at which input.
  Laid BY PROGRAM, IN A SANDBOX (cutbox-rows.mjs): the forced cells as the released guide's own fill.sh prints them over the translation 285f0ee03e8c5be0… (all of the seat's roots in one cut). By AI agents, Wed Nov 11 2026. No macro, syntax, notation, axiom, sorry.
-/
import Derived.Test.YtdinnbmeolojgaaDoorChecked
import GoSem.Claim
import GoSem.ClaimJoined
import GoSem.ClaimMapViews
import Derived.JoinedTies
import Derived.KernelRfl
namespace Go.Proofs.YtdinnbmeolojgaaDoor
/- THE CELL 'sum', in the pinned program and in every row, IS THE sha256 OF THE DUMP (.gsa) THAT YtdinnbmeolojgaaDoorProg.lean LOADS. Nothing in Lean hashes anything: it is a label: what it is worth is what the hold of that sum in a sandbox is worth. -/
noncomputable def Tryd.pinned : Pinned := { name := "ytdinnbmeolojgaadoor", sum := "285f0ee03e8c5be0983a93e8e4ba32a98d92a7307abda2e79b852e047cde58e7", checked := Tryd.checked }
namespace Rows
def none {H : Type} : Left H := { results := [], args := [] }

/- WHAT THE LISTED PACKAGE-LEVEL VARIABLES READ AS WHEN THE CALL BEGINS. Each datum BY PROGRAM (the guide's laid-datum.mjs) off the statement by which the dump's own 'gosem.cut.vars' lays the variable. In a bare row this is a premise. The card (YtdinnbmeolojgaaDoorCards.lean) ties it to the program's text. -/
def laid_ashlar_crc_halves {H : Type} : DataW H := .agg [.lit (.int .u32 0), .lit (.int .u32 274646895), .lit (.int .u32 549293790), .lit (.int .u32 820201905), .lit (.int .u32 1098587580), .lit (.int .u32 1361435347), .lit (.int .u32 1640403810), .lit (.int .u32 1905808397), .lit (.int .u32 2197175160), .lit (.int .u32 2460548119), .lit (.int .u32 2722870694), .lit (.int .u32 2987750089), .lit (.int .u32 3280807620), .lit (.int .u32 3553878443), .lit (.int .u32 3811616794), .lit (.int .u32 4084100981)]

/-- 'ashlarlaw07.SealPuts': WHATEVER THE INPUT: true; the input reads as it did. -/
def sealPutsSpec : ChangeSpec := { name := "sealPuts", fn := fun _ => fun
  | [d1, d2] => { results := [.lit (.bool true)], args := [d1, d2] }
  | _ => none }
def sealPutsRow : OpenClaim := { program := "ytdinnbmeolojgaadoor", sum := "285f0ee03e8c5be0983a93e8e4ba32a98d92a7307abda2e79b852e047cde58e7", func := "ashlar/ashlarlaw07.SealPuts", spec := "sealPuts", named := ["ashlar/crc.halves"], apart := false, laid := [("ashlar/crc.halves", laid_ashlar_crc_halves)] }
def SealPutsSaid : Prop := sealPutsRow.holds Tryd.pinned (OpenSpec.ofChange sealPutsSpec)

/-- ITS FALSE NEIGHBOUR: 'it returns false'. Refute it at one input. -/
def sealPutsWrong : ChangeSpec := { name := "sealPuts", fn := fun _ => fun
  | [d1, d2] => { results := [.lit (.bool false)], args := [d1, d2] }
  | _ => none }
def SealPutsWrongFalsely : Prop := sealPutsRow.holds Tryd.pinned (OpenSpec.ofChange sealPutsWrong)

/-- 'ashlarlaw07.SealGets': WHATEVER THE INPUT: true; the input reads as it did. -/
def sealGetsSpec : ChangeSpec := { name := "sealGets", fn := fun _ => fun
  | [d1, d2] => { results := [.lit (.bool true)], args := [d1, d2] }
  | _ => none }
def sealGetsRow : OpenClaim := { program := "ytdinnbmeolojgaadoor", sum := "285f0ee03e8c5be0983a93e8e4ba32a98d92a7307abda2e79b852e047cde58e7", func := "ashlar/ashlarlaw07.SealGets", spec := "sealGets", named := ["ashlar/crc.halves"], apart := false, laid := [("ashlar/crc.halves", laid_ashlar_crc_halves)] }
def SealGetsSaid : Prop := sealGetsRow.holds Tryd.pinned (OpenSpec.ofChange sealGetsSpec)

/-- ITS FALSE NEIGHBOUR: 'it returns false'. Refute it at one input. -/
def sealGetsWrong : ChangeSpec := { name := "sealGets", fn := fun _ => fun
  | [d1, d2] => { results := [.lit (.bool false)], args := [d1, d2] }
  | _ => none }
def SealGetsWrongFalsely : Prop := sealGetsRow.holds Tryd.pinned (OpenSpec.ofChange sealGetsWrong)

/-- 'ashlarlaw07.SealBack': WHATEVER THE INPUT: true; the input reads as it did. -/
def sealBackSpec : ChangeSpec := { name := "sealBack", fn := fun _ => fun
  | [d1, d2] => { results := [.lit (.bool true)], args := [d1, d2] }
  | _ => none }
def sealBackRow : OpenClaim := { program := "ytdinnbmeolojgaadoor", sum := "285f0ee03e8c5be0983a93e8e4ba32a98d92a7307abda2e79b852e047cde58e7", func := "ashlar/ashlarlaw07.SealBack", spec := "sealBack", named := ["ashlar/crc.halves"], apart := false, laid := [("ashlar/crc.halves", laid_ashlar_crc_halves)] }
def SealBackSaid : Prop := sealBackRow.holds Tryd.pinned (OpenSpec.ofChange sealBackSpec)

/-- ITS FALSE NEIGHBOUR: 'it returns false'. Refute it at one input. -/
def sealBackWrong : ChangeSpec := { name := "sealBack", fn := fun _ => fun
  | [d1, d2] => { results := [.lit (.bool false)], args := [d1, d2] }
  | _ => none }
def SealBackWrongFalsely : Prop := sealBackRow.holds Tryd.pinned (OpenSpec.ofChange sealBackWrong)

/-- 'ashlarlaw07.SealTorn': WHATEVER THE INPUT: true; the input reads as it did. -/
def sealTornSpec : ChangeSpec := { name := "sealTorn", fn := fun _ => fun
  | [d1, d2, d3, d4, d5] => { results := [.lit (.bool true)], args := [d1, d2, d3, d4, d5] }
  | _ => none }
def sealTornRow : OpenClaim := { program := "ytdinnbmeolojgaadoor", sum := "285f0ee03e8c5be0983a93e8e4ba32a98d92a7307abda2e79b852e047cde58e7", func := "ashlar/ashlarlaw07.SealTorn", spec := "sealTorn", named := ["ashlar/crc.halves"], apart := false, laid := [("ashlar/crc.halves", laid_ashlar_crc_halves)] }
def SealTornSaid : Prop := sealTornRow.holds Tryd.pinned (OpenSpec.ofChange sealTornSpec)

/-- ITS FALSE NEIGHBOUR: 'it returns false'. Refute it at one input. -/
def sealTornWrong : ChangeSpec := { name := "sealTorn", fn := fun _ => fun
  | [d1, d2, d3, d4, d5] => { results := [.lit (.bool false)], args := [d1, d2, d3, d4, d5] }
  | _ => none }
def SealTornWrongFalsely : Prop := sealTornRow.holds Tryd.pinned (OpenSpec.ofChange sealTornWrong)

/-- 'ashlarlaw07.SealByte': WHATEVER THE INPUT: true; the input reads as it did. -/
def sealByteSpec : ChangeSpec := { name := "sealByte", fn := fun _ => fun
  | [d1, d2, d3, d4] => { results := [.lit (.bool true)], args := [d1, d2, d3, d4] }
  | _ => none }
def sealByteRow : OpenClaim := { program := "ytdinnbmeolojgaadoor", sum := "285f0ee03e8c5be0983a93e8e4ba32a98d92a7307abda2e79b852e047cde58e7", func := "ashlar/ashlarlaw07.SealByte", spec := "sealByte", named := ["ashlar/crc.halves"], apart := false, laid := [("ashlar/crc.halves", laid_ashlar_crc_halves)] }
def SealByteSaid : Prop := sealByteRow.holds Tryd.pinned (OpenSpec.ofChange sealByteSpec)

/-- ITS FALSE NEIGHBOUR: 'it returns false'. Refute it at one input. -/
def sealByteWrong : ChangeSpec := { name := "sealByte", fn := fun _ => fun
  | [d1, d2, d3, d4] => { results := [.lit (.bool false)], args := [d1, d2, d3, d4] }
  | _ => none }
def SealByteWrongFalsely : Prop := sealByteRow.holds Tryd.pinned (OpenSpec.ofChange sealByteWrong)

/-- 'ashlarlaw07.SealNewest': WHATEVER THE INPUT: true; the input reads as it did. -/
def sealNewestSpec : ChangeSpec := { name := "sealNewest", fn := fun _ => fun
  | [d1, d2, d3, d4, d5] => { results := [.lit (.bool true)], args := [d1, d2, d3, d4, d5] }
  | _ => none }
def sealNewestRow : OpenClaim := { program := "ytdinnbmeolojgaadoor", sum := "285f0ee03e8c5be0983a93e8e4ba32a98d92a7307abda2e79b852e047cde58e7", func := "ashlar/ashlarlaw07.SealNewest", spec := "sealNewest", named := ["ashlar/crc.halves"], apart := false, laid := [("ashlar/crc.halves", laid_ashlar_crc_halves)] }
def SealNewestSaid : Prop := sealNewestRow.holds Tryd.pinned (OpenSpec.ofChange sealNewestSpec)

/-- ITS FALSE NEIGHBOUR: 'it returns false'. Refute it at one input. -/
def sealNewestWrong : ChangeSpec := { name := "sealNewest", fn := fun _ => fun
  | [d1, d2, d3, d4, d5] => { results := [.lit (.bool false)], args := [d1, d2, d3, d4, d5] }
  | _ => none }
def SealNewestWrongFalsely : Prop := sealNewestRow.holds Tryd.pinned (OpenSpec.ofChange sealNewestWrong)

/- THE SECOND FORM. 'bulk': how many values and letters a reading holds, each counted each time it is reached (what is shared counts as often as it is met; a slice's spare places count too). A statement '..UptoSaid' is the law's where the arguments, and the package variables that the reading takes, are together of bulk at most 1048576: NARROWER than '..Said'. Prove '..Said' where nothing that the law and all that it calls make is longer than what came in: it says more and counts as full. Else prove '..UptoSaid'. A law counts once. -/
mutual
def uptoBulk {H : Type} : DataW H → Nat
  | .lit (.string bytes) => bytes.length + 1
  | .lit _ => 1
  | .nil => 1
  | .ptr d => uptoBulk d + 1
  | .slice elems spare => uptoBulkAll elems + uptoBulkAll spare + 1
  | .agg parts => uptoBulkAll parts + 1
  | .iface _ d => uptoBulk d + 1
  | .map entries => uptoBulkEntries entries + 1
  | .held _ => 1
def uptoBulkAll {H : Type} : List (DataW H) → Nat
  | [] => 0
  | d :: r => uptoBulk d + uptoBulkAll r
def uptoBulkEntries {H : Type} : List (Lit × DataW H) → Nat
  | [] => 0
  | x :: r => uptoBulkEntry x + uptoBulkEntries r
def uptoBulkEntry {H : Type} : Lit × DataW H → Nat
  | (.string bytes, d) => bytes.length + uptoBulk d + 1
  | (_, d) => uptoBulk d + 1
 end
def uptoSmall : (H : Type) → List (DataW H) → Bool := fun _ ds => decide (uptoBulkAll ds ≤ 1048576)
def OpenSpec.upto (s : _root_.Go.ChangeSpec) : _root_.Go.OpenSpec := { _root_.Go.OpenSpec.ofChange s with cond := some uptoSmall }

/-- 'ashlarlaw07.SealPuts', WHERE WHAT IT READS IS OF BULK AT MOST 1048576: true; the input reads as it did. -/
def sealPutsUptoRow : OpenClaim := { program := "ytdinnbmeolojgaadoor", sum := "285f0ee03e8c5be0983a93e8e4ba32a98d92a7307abda2e79b852e047cde58e7", func := "ashlar/ashlarlaw07.SealPuts", spec := "sealPuts", named := ["ashlar/crc.halves"], apart := false, laid := [("ashlar/crc.halves", laid_ashlar_crc_halves)], narrowed := true }
def SealPutsUptoSaid : Prop := sealPutsUptoRow.holds Tryd.pinned (OpenSpec.upto sealPutsSpec)

/-- 'ashlarlaw07.SealGets', WHERE WHAT IT READS IS OF BULK AT MOST 1048576: true; the input reads as it did. -/
def sealGetsUptoRow : OpenClaim := { program := "ytdinnbmeolojgaadoor", sum := "285f0ee03e8c5be0983a93e8e4ba32a98d92a7307abda2e79b852e047cde58e7", func := "ashlar/ashlarlaw07.SealGets", spec := "sealGets", named := ["ashlar/crc.halves"], apart := false, laid := [("ashlar/crc.halves", laid_ashlar_crc_halves)], narrowed := true }
def SealGetsUptoSaid : Prop := sealGetsUptoRow.holds Tryd.pinned (OpenSpec.upto sealGetsSpec)

/-- 'ashlarlaw07.SealBack', WHERE WHAT IT READS IS OF BULK AT MOST 1048576: true; the input reads as it did. -/
def sealBackUptoRow : OpenClaim := { program := "ytdinnbmeolojgaadoor", sum := "285f0ee03e8c5be0983a93e8e4ba32a98d92a7307abda2e79b852e047cde58e7", func := "ashlar/ashlarlaw07.SealBack", spec := "sealBack", named := ["ashlar/crc.halves"], apart := false, laid := [("ashlar/crc.halves", laid_ashlar_crc_halves)], narrowed := true }
def SealBackUptoSaid : Prop := sealBackUptoRow.holds Tryd.pinned (OpenSpec.upto sealBackSpec)

/-- 'ashlarlaw07.SealTorn', WHERE WHAT IT READS IS OF BULK AT MOST 1048576: true; the input reads as it did. -/
def sealTornUptoRow : OpenClaim := { program := "ytdinnbmeolojgaadoor", sum := "285f0ee03e8c5be0983a93e8e4ba32a98d92a7307abda2e79b852e047cde58e7", func := "ashlar/ashlarlaw07.SealTorn", spec := "sealTorn", named := ["ashlar/crc.halves"], apart := false, laid := [("ashlar/crc.halves", laid_ashlar_crc_halves)], narrowed := true }
def SealTornUptoSaid : Prop := sealTornUptoRow.holds Tryd.pinned (OpenSpec.upto sealTornSpec)

/-- 'ashlarlaw07.SealByte', WHERE WHAT IT READS IS OF BULK AT MOST 1048576: true; the input reads as it did. -/
def sealByteUptoRow : OpenClaim := { program := "ytdinnbmeolojgaadoor", sum := "285f0ee03e8c5be0983a93e8e4ba32a98d92a7307abda2e79b852e047cde58e7", func := "ashlar/ashlarlaw07.SealByte", spec := "sealByte", named := ["ashlar/crc.halves"], apart := false, laid := [("ashlar/crc.halves", laid_ashlar_crc_halves)], narrowed := true }
def SealByteUptoSaid : Prop := sealByteUptoRow.holds Tryd.pinned (OpenSpec.upto sealByteSpec)

/-- 'ashlarlaw07.SealNewest', WHERE WHAT IT READS IS OF BULK AT MOST 1048576: true; the input reads as it did. -/
def sealNewestUptoRow : OpenClaim := { program := "ytdinnbmeolojgaadoor", sum := "285f0ee03e8c5be0983a93e8e4ba32a98d92a7307abda2e79b852e047cde58e7", func := "ashlar/ashlarlaw07.SealNewest", spec := "sealNewest", named := ["ashlar/crc.halves"], apart := false, laid := [("ashlar/crc.halves", laid_ashlar_crc_halves)], narrowed := true }
def SealNewestUptoSaid : Prop := sealNewestUptoRow.holds Tryd.pinned (OpenSpec.upto sealNewestSpec)

end Rows
end Go.Proofs.YtdinnbmeolojgaaDoor
