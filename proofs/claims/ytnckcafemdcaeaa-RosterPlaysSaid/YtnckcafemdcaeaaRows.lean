/-
  No cell of these rows narrows 'for every input' (looked for: loops, veiled, ifaces, maps, wideKeys, modest, calm, conditions, laid).
  DERIVED. THE GIVEN ROWS OF THIS SEAT. 4 by the template 'for every input the law returns true; each argument reads behind the call as it read before'; 0 by the template 'total and deterministic' (their statements: YtnckcafemdcaeaaTotals.lean).
  GIVEN WITH THE SEED: the statements are not yours to turn. If you find one false, say at which input.
  Laid BY PROGRAM, IN A SANDBOX (cutbox-rows.mjs): the forced cells as the released guide's own fill.sh prints them over the translation 8e8eec65c8579e98… (all of the seat's roots in one cut). By AI agents, Wed Nov 11 2026. No macro, syntax, notation, axiom, sorry.
-/
import Derived.Test.YtnckcafemdcaeaaChecked
import GoSem.Claim
import GoSem.ClaimJoined
import GoSem.ClaimMapViews
import Derived.JoinedTies
import Derived.KernelRfl
namespace Go.Proofs.Ytnckcafemdcaeaa
/- THE CELL 'sum', in the pinned program and in every row, IS THE sha256 OF THE DUMP (.gsa) THAT YtnckcafemdcaeaaProg.lean LOADS. Nothing in Lean hashes anything: it is a label: what it is worth is what the hold of that sum in a sandbox is worth. -/
noncomputable def Try.pinned : Pinned := { name := "ytnckcafemdcaeaa", sum := "8e8eec65c8579e9852ae032f91e6c83acf7cfa52912838fb9cd538e6285558bb", checked := Try.checked }
namespace Rows
def none {H : Type} : Left H := { results := [], args := [] }

/-- 'ashlarlaw10.RosterTells': WHATEVER THE INPUT: true; the input reads as it did. -/
def rosterTellsSpec : ChangeSpec := { name := "rosterTells", fn := fun _ => fun
  | [d1, d2, d3, d4] => { results := [.lit (.bool true)], args := [d1, d2, d3, d4] }
  | _ => none }
def rosterTellsRow : OpenClaim := { program := "ytnckcafemdcaeaa", sum := "8e8eec65c8579e9852ae032f91e6c83acf7cfa52912838fb9cd538e6285558bb", func := "ashlar/ashlarlaw10.RosterTells", spec := "rosterTells", apart := false }
def RosterTellsSaid : Prop := rosterTellsRow.holds Try.pinned (OpenSpec.ofChange rosterTellsSpec)

/-- ITS FALSE NEIGHBOUR: 'it returns false'. Refute it at one input. -/
def rosterTellsWrong : ChangeSpec := { name := "rosterTells", fn := fun _ => fun
  | [d1, d2, d3, d4] => { results := [.lit (.bool false)], args := [d1, d2, d3, d4] }
  | _ => none }
def RosterTellsWrongFalsely : Prop := rosterTellsRow.holds Try.pinned (OpenSpec.ofChange rosterTellsWrong)

/-- 'ashlarlaw10.RosterPlays': WHATEVER THE INPUT: true; the input reads as it did. -/
def rosterPlaysSpec : ChangeSpec := { name := "rosterPlays", fn := fun _ => fun
  | [d1, d2, d3] => { results := [.lit (.bool true)], args := [d1, d2, d3] }
  | _ => none }
def rosterPlaysRow : OpenClaim := { program := "ytnckcafemdcaeaa", sum := "8e8eec65c8579e9852ae032f91e6c83acf7cfa52912838fb9cd538e6285558bb", func := "ashlar/ashlarlaw10.RosterPlays", spec := "rosterPlays", apart := false }
def RosterPlaysSaid : Prop := rosterPlaysRow.holds Try.pinned (OpenSpec.ofChange rosterPlaysSpec)

/-- ITS FALSE NEIGHBOUR: 'it returns false'. Refute it at one input. -/
def rosterPlaysWrong : ChangeSpec := { name := "rosterPlays", fn := fun _ => fun
  | [d1, d2, d3] => { results := [.lit (.bool false)], args := [d1, d2, d3] }
  | _ => none }
def RosterPlaysWrongFalsely : Prop := rosterPlaysRow.holds Try.pinned (OpenSpec.ofChange rosterPlaysWrong)

/-- 'ashlarlaw10.RosterRound': WHATEVER THE INPUT: true; the input reads as it did. -/
def rosterRoundSpec : ChangeSpec := { name := "rosterRound", fn := fun _ => fun
  | [d1, d2, d3] => { results := [.lit (.bool true)], args := [d1, d2, d3] }
  | _ => none }
def rosterRoundRow : OpenClaim := { program := "ytnckcafemdcaeaa", sum := "8e8eec65c8579e9852ae032f91e6c83acf7cfa52912838fb9cd538e6285558bb", func := "ashlar/ashlarlaw10.RosterRound", spec := "rosterRound", apart := false }
def RosterRoundSaid : Prop := rosterRoundRow.holds Try.pinned (OpenSpec.ofChange rosterRoundSpec)

/-- ITS FALSE NEIGHBOUR: 'it returns false'. Refute it at one input. -/
def rosterRoundWrong : ChangeSpec := { name := "rosterRound", fn := fun _ => fun
  | [d1, d2, d3] => { results := [.lit (.bool false)], args := [d1, d2, d3] }
  | _ => none }
def RosterRoundWrongFalsely : Prop := rosterRoundRow.holds Try.pinned (OpenSpec.ofChange rosterRoundWrong)

/-- 'ashlarlaw10.RosterRefuses': WHATEVER THE INPUT: true; the input reads as it did. -/
def rosterRefusesSpec : ChangeSpec := { name := "rosterRefuses", fn := fun _ => fun
  | [d1, d2, d3, d4] => { results := [.lit (.bool true)], args := [d1, d2, d3, d4] }
  | _ => none }
def rosterRefusesRow : OpenClaim := { program := "ytnckcafemdcaeaa", sum := "8e8eec65c8579e9852ae032f91e6c83acf7cfa52912838fb9cd538e6285558bb", func := "ashlar/ashlarlaw10.RosterRefuses", spec := "rosterRefuses", apart := false }
def RosterRefusesSaid : Prop := rosterRefusesRow.holds Try.pinned (OpenSpec.ofChange rosterRefusesSpec)

/-- ITS FALSE NEIGHBOUR: 'it returns false'. Refute it at one input. -/
def rosterRefusesWrong : ChangeSpec := { name := "rosterRefuses", fn := fun _ => fun
  | [d1, d2, d3, d4] => { results := [.lit (.bool false)], args := [d1, d2, d3, d4] }
  | _ => none }
def RosterRefusesWrongFalsely : Prop := rosterRefusesRow.holds Try.pinned (OpenSpec.ofChange rosterRefusesWrong)

/- THE SECOND FORM. 'bulk': how many values and letters a reading holds, each counted each time it is reached (what is shared counts as often as it is met; a slice's spare places count too). A statement '..UptoSaid' is the law's where the arguments, and the package variables that the reading takes, are together of bulk at most 1048576: NARROWER than '..Said'. Prove '..Said' where nothing that the law and all that it calls make is longer than what came in: it says more and counts as full. Else prove '..UptoSaid'. A law counts once. -/
mutual
def uptoBulk {H : Type} : DataW H → Nat
  | .lit (.string bytes) => bytes.length + 1
  | .lit _ => 1
  | .nil => 1
  | .ptr d => uptoBulk d + 1
  | .slice elems spare => uptoBulkAll elems + uptoBulkAll spare + 1
  | .agg parts => uptoBulkAll parts + 1
  | .iface _ d => uptoBulk d + 1
  | .map entries => uptoBulkEntries entries + 1
  | .held _ => 1
def uptoBulkAll {H : Type} : List (DataW H) → Nat
  | [] => 0
  | d :: r => uptoBulk d + uptoBulkAll r
def uptoBulkEntries {H : Type} : List (Lit × DataW H) → Nat
  | [] => 0
  | x :: r => uptoBulkEntry x + uptoBulkEntries r
def uptoBulkEntry {H : Type} : Lit × DataW H → Nat
  | (.string bytes, d) => bytes.length + uptoBulk d + 1
  | (_, d) => uptoBulk d + 1
 end
def uptoSmall : (H : Type) → List (DataW H) → Bool := fun _ ds => decide (uptoBulkAll ds ≤ 1048576)
def OpenSpec.upto (s : _root_.Go.ChangeSpec) : _root_.Go.OpenSpec := { _root_.Go.OpenSpec.ofChange s with cond := some uptoSmall }

/-- 'ashlarlaw10.RosterTells', WHERE WHAT IT READS IS OF BULK AT MOST 1048576: true; the input reads as it did. -/
def rosterTellsUptoRow : OpenClaim := { program := "ytnckcafemdcaeaa", sum := "8e8eec65c8579e9852ae032f91e6c83acf7cfa52912838fb9cd538e6285558bb", func := "ashlar/ashlarlaw10.RosterTells", spec := "rosterTells", apart := false, narrowed := true }
def RosterTellsUptoSaid : Prop := rosterTellsUptoRow.holds Try.pinned (OpenSpec.upto rosterTellsSpec)

/-- 'ashlarlaw10.RosterPlays', WHERE WHAT IT READS IS OF BULK AT MOST 1048576: true; the input reads as it did. -/
def rosterPlaysUptoRow : OpenClaim := { program := "ytnckcafemdcaeaa", sum := "8e8eec65c8579e9852ae032f91e6c83acf7cfa52912838fb9cd538e6285558bb", func := "ashlar/ashlarlaw10.RosterPlays", spec := "rosterPlays", apart := false, narrowed := true }
def RosterPlaysUptoSaid : Prop := rosterPlaysUptoRow.holds Try.pinned (OpenSpec.upto rosterPlaysSpec)

/-- 'ashlarlaw10.RosterRound', WHERE WHAT IT READS IS OF BULK AT MOST 1048576: true; the input reads as it did. -/
def rosterRoundUptoRow : OpenClaim := { program := "ytnckcafemdcaeaa", sum := "8e8eec65c8579e9852ae032f91e6c83acf7cfa52912838fb9cd538e6285558bb", func := "ashlar/ashlarlaw10.RosterRound", spec := "rosterRound", apart := false, narrowed := true }
def RosterRoundUptoSaid : Prop := rosterRoundUptoRow.holds Try.pinned (OpenSpec.upto rosterRoundSpec)

/-- 'ashlarlaw10.RosterRefuses', WHERE WHAT IT READS IS OF BULK AT MOST 1048576: true; the input reads as it did. -/
def rosterRefusesUptoRow : OpenClaim := { program := "ytnckcafemdcaeaa", sum := "8e8eec65c8579e9852ae032f91e6c83acf7cfa52912838fb9cd538e6285558bb", func := "ashlar/ashlarlaw10.RosterRefuses", spec := "rosterRefuses", apart := false, narrowed := true }
def RosterRefusesUptoSaid : Prop := rosterRefusesUptoRow.holds Try.pinned (OpenSpec.upto rosterRefusesSpec)

end Rows
end Go.Proofs.Ytnckcafemdcaeaa
