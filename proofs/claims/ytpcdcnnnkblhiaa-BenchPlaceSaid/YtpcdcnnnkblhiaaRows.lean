/-
  No cell of these rows narrows 'for every input' (looked for: loops, veiled, ifaces, maps, wideKeys, modest, calm, conditions, laid).
  DERIVED. THE GIVEN ROWS OF THIS SEAT. 5 by the template 'for every input the law returns true; each argument reads behind the call as it read before'; 0 by the template 'total and deterministic' (their statements: YtpcdcnnnkblhiaaTotals.lean).
  GIVEN WITH THE SEED: the statements are not yours to turn. If you find one false, say at which input.
  Laid BY PROGRAM, IN A SANDBOX (cutbox-rows.mjs): the forced cells as the released guide's own fill.sh prints them over the translation 1fe0f7c05abe033d… (all of the seat's roots in one cut). By AI agents, Wed Nov 11 2026. No macro, syntax, notation, axiom, sorry.
-/
import Derived.Test.YtpcdcnnnkblhiaaChecked
import GoSem.Claim
import GoSem.ClaimJoined
import GoSem.ClaimMapViews
import Derived.JoinedTies
import Derived.KernelRfl
namespace Go.Proofs.Ytpcdcnnnkblhiaa
/- THE CELL 'sum', in the pinned program and in every row, IS THE sha256 OF THE DUMP (.gsa) THAT YtpcdcnnnkblhiaaProg.lean LOADS. Nothing in Lean hashes anything: it is a label: what it is worth is what the hold of that sum in a sandbox is worth. -/
noncomputable def Try.pinned : Pinned := { name := "ytpcdcnnnkblhiaa", sum := "1fe0f7c05abe033d06c683451f7500d970292fd19faa6165d8fbcbbec971dcf0", checked := Try.checked }
namespace Rows
def none {H : Type} : Left H := { results := [], args := [] }

/-- 'ashlarlaw06.BenchPlays': WHATEVER THE INPUT: true; the input reads as it did. -/
def benchPlaysSpec : ChangeSpec := { name := "benchPlays", fn := fun _ => fun
  | [d1, d2] => { results := [.lit (.bool true)], args := [d1, d2] }
  | _ => none }
def benchPlaysRow : OpenClaim := { program := "ytpcdcnnnkblhiaa", sum := "1fe0f7c05abe033d06c683451f7500d970292fd19faa6165d8fbcbbec971dcf0", func := "ashlar/ashlarlaw06.BenchPlays", spec := "benchPlays", unfollowed := true, recurses := true, apart := false }
def BenchPlaysSaid : Prop := benchPlaysRow.holds Try.pinned (OpenSpec.ofChange benchPlaysSpec)

/-- ITS FALSE NEIGHBOUR: 'it returns false'. Refute it at one input. -/
def benchPlaysWrong : ChangeSpec := { name := "benchPlays", fn := fun _ => fun
  | [d1, d2] => { results := [.lit (.bool false)], args := [d1, d2] }
  | _ => none }
def BenchPlaysWrongFalsely : Prop := benchPlaysRow.holds Try.pinned (OpenSpec.ofChange benchPlaysWrong)

/-- 'ashlarlaw06.BenchArm': WHATEVER THE INPUT: true; the input reads as it did. -/
def benchArmSpec : ChangeSpec := { name := "benchArm", fn := fun _ => fun
  | [d1, d2] => { results := [.lit (.bool true)], args := [d1, d2] }
  | _ => none }
def benchArmRow : OpenClaim := { program := "ytpcdcnnnkblhiaa", sum := "1fe0f7c05abe033d06c683451f7500d970292fd19faa6165d8fbcbbec971dcf0", func := "ashlar/ashlarlaw06.BenchArm", spec := "benchArm", unfollowed := true, recurses := true, apart := false }
def BenchArmSaid : Prop := benchArmRow.holds Try.pinned (OpenSpec.ofChange benchArmSpec)

/-- ITS FALSE NEIGHBOUR: 'it returns false'. Refute it at one input. -/
def benchArmWrong : ChangeSpec := { name := "benchArm", fn := fun _ => fun
  | [d1, d2] => { results := [.lit (.bool false)], args := [d1, d2] }
  | _ => none }
def BenchArmWrongFalsely : Prop := benchArmRow.holds Try.pinned (OpenSpec.ofChange benchArmWrong)

/-- 'ashlarlaw06.BenchOwn': WHATEVER THE INPUT: true; the input reads as it did. -/
def benchOwnSpec : ChangeSpec := { name := "benchOwn", fn := fun _ => fun
  | [d1, d2] => { results := [.lit (.bool true)], args := [d1, d2] }
  | _ => none }
def benchOwnRow : OpenClaim := { program := "ytpcdcnnnkblhiaa", sum := "1fe0f7c05abe033d06c683451f7500d970292fd19faa6165d8fbcbbec971dcf0", func := "ashlar/ashlarlaw06.BenchOwn", spec := "benchOwn", unfollowed := true, recurses := true, apart := false }
def BenchOwnSaid : Prop := benchOwnRow.holds Try.pinned (OpenSpec.ofChange benchOwnSpec)

/-- ITS FALSE NEIGHBOUR: 'it returns false'. Refute it at one input. -/
def benchOwnWrong : ChangeSpec := { name := "benchOwn", fn := fun _ => fun
  | [d1, d2] => { results := [.lit (.bool false)], args := [d1, d2] }
  | _ => none }
def BenchOwnWrongFalsely : Prop := benchOwnRow.holds Try.pinned (OpenSpec.ofChange benchOwnWrong)

/-- 'ashlarlaw06.BenchPlace': WHATEVER THE INPUT: true; the input reads as it did. -/
def benchPlaceSpec : ChangeSpec := { name := "benchPlace", fn := fun _ => fun
  | [d1, d2, d3] => { results := [.lit (.bool true)], args := [d1, d2, d3] }
  | _ => none }
def benchPlaceRow : OpenClaim := { program := "ytpcdcnnnkblhiaa", sum := "1fe0f7c05abe033d06c683451f7500d970292fd19faa6165d8fbcbbec971dcf0", func := "ashlar/ashlarlaw06.BenchPlace", spec := "benchPlace", unfollowed := true, recurses := true, apart := false }
def BenchPlaceSaid : Prop := benchPlaceRow.holds Try.pinned (OpenSpec.ofChange benchPlaceSpec)

/-- ITS FALSE NEIGHBOUR: 'it returns false'. Refute it at one input. -/
def benchPlaceWrong : ChangeSpec := { name := "benchPlace", fn := fun _ => fun
  | [d1, d2, d3] => { results := [.lit (.bool false)], args := [d1, d2, d3] }
  | _ => none }
def BenchPlaceWrongFalsely : Prop := benchPlaceRow.holds Try.pinned (OpenSpec.ofChange benchPlaceWrong)

/-- 'ashlarlaw06.BenchNil': WHATEVER THE INPUT: true; the input reads as it did. -/
def benchNilSpec : ChangeSpec := { name := "benchNil", fn := fun _ => fun
  | [d1, d2] => { results := [.lit (.bool true)], args := [d1, d2] }
  | _ => none }
def benchNilRow : OpenClaim := { program := "ytpcdcnnnkblhiaa", sum := "1fe0f7c05abe033d06c683451f7500d970292fd19faa6165d8fbcbbec971dcf0", func := "ashlar/ashlarlaw06.BenchNil", spec := "benchNil", unfollowed := true, recurses := true, apart := false }
def BenchNilSaid : Prop := benchNilRow.holds Try.pinned (OpenSpec.ofChange benchNilSpec)

/-- ITS FALSE NEIGHBOUR: 'it returns false'. Refute it at one input. -/
def benchNilWrong : ChangeSpec := { name := "benchNil", fn := fun _ => fun
  | [d1, d2] => { results := [.lit (.bool false)], args := [d1, d2] }
  | _ => none }
def BenchNilWrongFalsely : Prop := benchNilRow.holds Try.pinned (OpenSpec.ofChange benchNilWrong)

/- THE SECOND FORM. 'bulk': how many values and letters a reading holds, each counted each time it is reached (what is shared counts as often as it is met; a slice's spare places count too). A statement '..UptoSaid' is the law's where the arguments, and the package variables that the reading takes, are together of bulk at most 1048576: NARROWER than '..Said'. Prove '..Said' where nothing that the law and all that it calls make is longer than what came in: it says more and counts as full. Else prove '..UptoSaid'. A law counts once. -/
mutual
def uptoBulk {H : Type} : DataW H → Nat
  | .lit (.string bytes) => bytes.length + 1
  | .lit _ => 1
  | .nil => 1
  | .ptr d => uptoBulk d + 1
  | .slice elems spare => uptoBulkAll elems + uptoBulkAll spare + 1
  | .agg parts => uptoBulkAll parts + 1
  | .iface _ d => uptoBulk d + 1
  | .map entries => uptoBulkEntries entries + 1
  | .held _ => 1
def uptoBulkAll {H : Type} : List (DataW H) → Nat
  | [] => 0
  | d :: r => uptoBulk d + uptoBulkAll r
def uptoBulkEntries {H : Type} : List (Lit × DataW H) → Nat
  | [] => 0
  | x :: r => uptoBulkEntry x + uptoBulkEntries r
def uptoBulkEntry {H : Type} : Lit × DataW H → Nat
  | (.string bytes, d) => bytes.length + uptoBulk d + 1
  | (_, d) => uptoBulk d + 1
 end
def uptoSmall : (H : Type) → List (DataW H) → Bool := fun _ ds => decide (uptoBulkAll ds ≤ 1048576)
def OpenSpec.upto (s : _root_.Go.ChangeSpec) : _root_.Go.OpenSpec := { _root_.Go.OpenSpec.ofChange s with cond := some uptoSmall }

/-- 'ashlarlaw06.BenchPlays', WHERE WHAT IT READS IS OF BULK AT MOST 1048576: true; the input reads as it did. -/
def benchPlaysUptoRow : OpenClaim := { program := "ytpcdcnnnkblhiaa", sum := "1fe0f7c05abe033d06c683451f7500d970292fd19faa6165d8fbcbbec971dcf0", func := "ashlar/ashlarlaw06.BenchPlays", spec := "benchPlays", unfollowed := true, recurses := true, apart := false, narrowed := true }
def BenchPlaysUptoSaid : Prop := benchPlaysUptoRow.holds Try.pinned (OpenSpec.upto benchPlaysSpec)

/-- 'ashlarlaw06.BenchArm', WHERE WHAT IT READS IS OF BULK AT MOST 1048576: true; the input reads as it did. -/
def benchArmUptoRow : OpenClaim := { program := "ytpcdcnnnkblhiaa", sum := "1fe0f7c05abe033d06c683451f7500d970292fd19faa6165d8fbcbbec971dcf0", func := "ashlar/ashlarlaw06.BenchArm", spec := "benchArm", unfollowed := true, recurses := true, apart := false, narrowed := true }
def BenchArmUptoSaid : Prop := benchArmUptoRow.holds Try.pinned (OpenSpec.upto benchArmSpec)

/-- 'ashlarlaw06.BenchOwn', WHERE WHAT IT READS IS OF BULK AT MOST 1048576: true; the input reads as it did. -/
def benchOwnUptoRow : OpenClaim := { program := "ytpcdcnnnkblhiaa", sum := "1fe0f7c05abe033d06c683451f7500d970292fd19faa6165d8fbcbbec971dcf0", func := "ashlar/ashlarlaw06.BenchOwn", spec := "benchOwn", unfollowed := true, recurses := true, apart := false, narrowed := true }
def BenchOwnUptoSaid : Prop := benchOwnUptoRow.holds Try.pinned (OpenSpec.upto benchOwnSpec)

/-- 'ashlarlaw06.BenchPlace', WHERE WHAT IT READS IS OF BULK AT MOST 1048576: true; the input reads as it did. -/
def benchPlaceUptoRow : OpenClaim := { program := "ytpcdcnnnkblhiaa", sum := "1fe0f7c05abe033d06c683451f7500d970292fd19faa6165d8fbcbbec971dcf0", func := "ashlar/ashlarlaw06.BenchPlace", spec := "benchPlace", unfollowed := true, recurses := true, apart := false, narrowed := true }
def BenchPlaceUptoSaid : Prop := benchPlaceUptoRow.holds Try.pinned (OpenSpec.upto benchPlaceSpec)

/-- 'ashlarlaw06.BenchNil', WHERE WHAT IT READS IS OF BULK AT MOST 1048576: true; the input reads as it did. -/
def benchNilUptoRow : OpenClaim := { program := "ytpcdcnnnkblhiaa", sum := "1fe0f7c05abe033d06c683451f7500d970292fd19faa6165d8fbcbbec971dcf0", func := "ashlar/ashlarlaw06.BenchNil", spec := "benchNil", unfollowed := true, recurses := true, apart := false, narrowed := true }
def BenchNilUptoSaid : Prop := benchNilUptoRow.holds Try.pinned (OpenSpec.upto benchNilSpec)

end Rows
end Go.Proofs.Ytpcdcnnnkblhiaa
