/-
  No cell of these rows narrows 'for every input' (looked for: loops, veiled, ifaces, maps, wideKeys, modest, calm, conditions, laid).
  DERIVED. THE GIVEN ROWS OF THIS SEAT. 8 by the template 'for every input the law returns true; each argument reads behind the call as it read before'; 0 by the template 'total and deterministic' (their statements: YtolohbegdjnjnaaTotals.lean).
  GIVEN WITH THE SEED: the statements are not yours to turn. If you find one false, say at which input.
  Laid BY PROGRAM, IN A SANDBOX (cutbox-rows.mjs): the forced cells as the released guide's own fill.sh prints them over the translation 7887df8145cb3542… (all of the seat's roots in one cut). By AI agents, Wed Nov 11 2026. No macro, syntax, notation, axiom, sorry.
-/
import Derived.Test.YtolohbegdjnjnaaChecked
import GoSem.Claim
import GoSem.ClaimJoined
import GoSem.ClaimMapViews
import Derived.JoinedTies
import Derived.KernelRfl
namespace Go.Proofs.Ytolohbegdjnjnaa
/- THE CELL 'sum', in the pinned program and in every row, IS THE sha256 OF THE DUMP (.gsa) THAT YtolohbegdjnjnaaProg.lean LOADS. Nothing in Lean hashes anything: it is a label: what it is worth is what the hold of that sum in a sandbox is worth. -/
noncomputable def Try.pinned : Pinned := { name := "ytolohbegdjnjnaa", sum := "7887df8145cb35427f832163ecd4bc5b35acb677c563d25d15771c9eb72f37a7", checked := Try.checked }
namespace Rows
def none {H : Type} : Left H := { results := [], args := [] }

/-- 'pintlelaw16.LirrunRuns': WHATEVER THE INPUT: true; the input reads as it did. -/
def lirrunRunsSpec : ChangeSpec := { name := "lirrunRuns", fn := fun _ => fun
  | [d1, d2, d3] => { results := [.lit (.bool true)], args := [d1, d2, d3] }
  | _ => none }
def lirrunRunsRow : OpenClaim := { program := "ytolohbegdjnjnaa", sum := "7887df8145cb35427f832163ecd4bc5b35acb677c563d25d15771c9eb72f37a7", func := "pintle/pintlelaw16.LirrunRuns", spec := "lirrunRuns", recurses := true, apart := false }
def LirrunRunsSaid : Prop := lirrunRunsRow.holds Try.pinned (OpenSpec.ofChange lirrunRunsSpec)

/-- ITS FALSE NEIGHBOUR: 'it returns false'. Refute it at one input. -/
def lirrunRunsWrong : ChangeSpec := { name := "lirrunRuns", fn := fun _ => fun
  | [d1, d2, d3] => { results := [.lit (.bool false)], args := [d1, d2, d3] }
  | _ => none }
def LirrunRunsWrongFalsely : Prop := lirrunRunsRow.holds Try.pinned (OpenSpec.ofChange lirrunRunsWrong)

/-- 'pintlelaw16.LirrunOne': WHATEVER THE INPUT: true; the input reads as it did. -/
def lirrunOneSpec : ChangeSpec := { name := "lirrunOne", fn := fun _ => fun
  | [d1, d2, d3] => { results := [.lit (.bool true)], args := [d1, d2, d3] }
  | _ => none }
def lirrunOneRow : OpenClaim := { program := "ytolohbegdjnjnaa", sum := "7887df8145cb35427f832163ecd4bc5b35acb677c563d25d15771c9eb72f37a7", func := "pintle/pintlelaw16.LirrunOne", spec := "lirrunOne", recurses := true, apart := false }
def LirrunOneSaid : Prop := lirrunOneRow.holds Try.pinned (OpenSpec.ofChange lirrunOneSpec)

/-- ITS FALSE NEIGHBOUR: 'it returns false'. Refute it at one input. -/
def lirrunOneWrong : ChangeSpec := { name := "lirrunOne", fn := fun _ => fun
  | [d1, d2, d3] => { results := [.lit (.bool false)], args := [d1, d2, d3] }
  | _ => none }
def LirrunOneWrongFalsely : Prop := lirrunOneRow.holds Try.pinned (OpenSpec.ofChange lirrunOneWrong)

/-- 'pintlelaw16.LirrunMany': WHATEVER THE INPUT: true; the input reads as it did. -/
def lirrunManySpec : ChangeSpec := { name := "lirrunMany", fn := fun _ => fun
  | [d1, d2, d3] => { results := [.lit (.bool true)], args := [d1, d2, d3] }
  | _ => none }
def lirrunManyRow : OpenClaim := { program := "ytolohbegdjnjnaa", sum := "7887df8145cb35427f832163ecd4bc5b35acb677c563d25d15771c9eb72f37a7", func := "pintle/pintlelaw16.LirrunMany", spec := "lirrunMany", apart := false }
def LirrunManySaid : Prop := lirrunManyRow.holds Try.pinned (OpenSpec.ofChange lirrunManySpec)

/-- ITS FALSE NEIGHBOUR: 'it returns false'. Refute it at one input. -/
def lirrunManyWrong : ChangeSpec := { name := "lirrunMany", fn := fun _ => fun
  | [d1, d2, d3] => { results := [.lit (.bool false)], args := [d1, d2, d3] }
  | _ => none }
def LirrunManyWrongFalsely : Prop := lirrunManyRow.holds Try.pinned (OpenSpec.ofChange lirrunManyWrong)

/-- 'pintlelaw17.AllocWeighs': WHATEVER THE INPUT: true; the input reads as it did. -/
def allocWeighsSpec : ChangeSpec := { name := "allocWeighs", fn := fun _ => fun
  | [d] => { results := [.lit (.bool true)], args := [d] }
  | _ => none }
def allocWeighsRow : OpenClaim := { program := "ytolohbegdjnjnaa", sum := "7887df8145cb35427f832163ecd4bc5b35acb677c563d25d15771c9eb72f37a7", func := "pintle/pintlelaw17.AllocWeighs", spec := "allocWeighs", unfollowed := true, recurses := true, apart := false }
def AllocWeighsSaid : Prop := allocWeighsRow.holds Try.pinned (OpenSpec.ofChange allocWeighsSpec)

/-- ITS FALSE NEIGHBOUR: 'it returns false'. Refute it at one input. -/
def allocWeighsWrong : ChangeSpec := { name := "allocWeighs", fn := fun _ => fun
  | [d] => { results := [.lit (.bool false)], args := [d] }
  | _ => none }
def AllocWeighsWrongFalsely : Prop := allocWeighsRow.holds Try.pinned (OpenSpec.ofChange allocWeighsWrong)

/-- 'pintlelaw17.AllocHomes': WHATEVER THE INPUT: true; the input reads as it did. -/
def allocHomesSpec : ChangeSpec := { name := "allocHomes", fn := fun _ => fun
  | [d] => { results := [.lit (.bool true)], args := [d] }
  | _ => none }
def allocHomesRow : OpenClaim := { program := "ytolohbegdjnjnaa", sum := "7887df8145cb35427f832163ecd4bc5b35acb677c563d25d15771c9eb72f37a7", func := "pintle/pintlelaw17.AllocHomes", spec := "allocHomes", unfollowed := true, recurses := true, apart := false }
def AllocHomesSaid : Prop := allocHomesRow.holds Try.pinned (OpenSpec.ofChange allocHomesSpec)

/-- ITS FALSE NEIGHBOUR: 'it returns false'. Refute it at one input. -/
def allocHomesWrong : ChangeSpec := { name := "allocHomes", fn := fun _ => fun
  | [d] => { results := [.lit (.bool false)], args := [d] }
  | _ => none }
def AllocHomesWrongFalsely : Prop := allocHomesRow.holds Try.pinned (OpenSpec.ofChange allocHomesWrong)

/-- 'pintlelaw17.AllocOne': WHATEVER THE INPUT: true; the input reads as it did. -/
def allocOneSpec : ChangeSpec := { name := "allocOne", fn := fun _ => fun
  | [d] => { results := [.lit (.bool true)], args := [d] }
  | _ => none }
def allocOneRow : OpenClaim := { program := "ytolohbegdjnjnaa", sum := "7887df8145cb35427f832163ecd4bc5b35acb677c563d25d15771c9eb72f37a7", func := "pintle/pintlelaw17.AllocOne", spec := "allocOne", unfollowed := true, recurses := true, apart := false }
def AllocOneSaid : Prop := allocOneRow.holds Try.pinned (OpenSpec.ofChange allocOneSpec)

/-- ITS FALSE NEIGHBOUR: 'it returns false'. Refute it at one input. -/
def allocOneWrong : ChangeSpec := { name := "allocOne", fn := fun _ => fun
  | [d] => { results := [.lit (.bool false)], args := [d] }
  | _ => none }
def AllocOneWrongFalsely : Prop := allocOneRow.holds Try.pinned (OpenSpec.ofChange allocOneWrong)

/-- 'pintlelaw17.AllocMany': WHATEVER THE INPUT: true; the input reads as it did. -/
def allocManySpec : ChangeSpec := { name := "allocMany", fn := fun _ => fun
  | [d1, d2] => { results := [.lit (.bool true)], args := [d1, d2] }
  | _ => none }
def allocManyRow : OpenClaim := { program := "ytolohbegdjnjnaa", sum := "7887df8145cb35427f832163ecd4bc5b35acb677c563d25d15771c9eb72f37a7", func := "pintle/pintlelaw17.AllocMany", spec := "allocMany", unfollowed := true, recurses := true, apart := false }
def AllocManySaid : Prop := allocManyRow.holds Try.pinned (OpenSpec.ofChange allocManySpec)

/-- ITS FALSE NEIGHBOUR: 'it returns false'. Refute it at one input. -/
def allocManyWrong : ChangeSpec := { name := "allocMany", fn := fun _ => fun
  | [d1, d2] => { results := [.lit (.bool false)], args := [d1, d2] }
  | _ => none }
def AllocManyWrongFalsely : Prop := allocManyRow.holds Try.pinned (OpenSpec.ofChange allocManyWrong)

/-- 'pintlelaw20.QuantRuns': WHATEVER THE INPUT: true; the input reads as it did. -/
def quantRunsSpec : ChangeSpec := { name := "quantRuns", fn := fun _ => fun
  | [d1, d2, d3] => { results := [.lit (.bool true)], args := [d1, d2, d3] }
  | _ => none }
def quantRunsRow : OpenClaim := { program := "ytolohbegdjnjnaa", sum := "7887df8145cb35427f832163ecd4bc5b35acb677c563d25d15771c9eb72f37a7", func := "pintle/pintlelaw20.QuantRuns", spec := "quantRuns", apart := false }
def QuantRunsSaid : Prop := quantRunsRow.holds Try.pinned (OpenSpec.ofChange quantRunsSpec)

/-- ITS FALSE NEIGHBOUR: 'it returns false'. Refute it at one input. -/
def quantRunsWrong : ChangeSpec := { name := "quantRuns", fn := fun _ => fun
  | [d1, d2, d3] => { results := [.lit (.bool false)], args := [d1, d2, d3] }
  | _ => none }
def QuantRunsWrongFalsely : Prop := quantRunsRow.holds Try.pinned (OpenSpec.ofChange quantRunsWrong)

/- THE SECOND FORM. 'bulk': how many values and letters a reading holds, each counted each time it is reached (what is shared counts as often as it is met; a slice's spare places count too). A statement '..UptoSaid' is the law's where the arguments, and the package variables that the reading takes, are together of bulk at most 1048576: NARROWER than '..Said'. Prove '..Said' where nothing that the law and all that it calls make is longer than what came in: it says more and counts as full. Else prove '..UptoSaid'. A law counts once. -/
mutual
def uptoBulk {H : Type} : DataW H → Nat
  | .lit (.string bytes) => bytes.length + 1
  | .lit _ => 1
  | .nil => 1
  | .ptr d => uptoBulk d + 1
  | .slice elems spare => uptoBulkAll elems + uptoBulkAll spare + 1
  | .agg parts => uptoBulkAll parts + 1
  | .iface _ d => uptoBulk d + 1
  | .map entries => uptoBulkEntries entries + 1
  | .held _ => 1
def uptoBulkAll {H : Type} : List (DataW H) → Nat
  | [] => 0
  | d :: r => uptoBulk d + uptoBulkAll r
def uptoBulkEntries {H : Type} : List (Lit × DataW H) → Nat
  | [] => 0
  | x :: r => uptoBulkEntry x + uptoBulkEntries r
def uptoBulkEntry {H : Type} : Lit × DataW H → Nat
  | (.string bytes, d) => bytes.length + uptoBulk d + 1
  | (_, d) => uptoBulk d + 1
 end
def uptoSmall : (H : Type) → List (DataW H) → Bool := fun _ ds => decide (uptoBulkAll ds ≤ 1048576)
def OpenSpec.upto (s : _root_.Go.ChangeSpec) : _root_.Go.OpenSpec := { _root_.Go.OpenSpec.ofChange s with cond := some uptoSmall }

/-- 'pintlelaw16.LirrunRuns', WHERE WHAT IT READS IS OF BULK AT MOST 1048576: true; the input reads as it did. -/
def lirrunRunsUptoRow : OpenClaim := { program := "ytolohbegdjnjnaa", sum := "7887df8145cb35427f832163ecd4bc5b35acb677c563d25d15771c9eb72f37a7", func := "pintle/pintlelaw16.LirrunRuns", spec := "lirrunRuns", recurses := true, apart := false, narrowed := true }
def LirrunRunsUptoSaid : Prop := lirrunRunsUptoRow.holds Try.pinned (OpenSpec.upto lirrunRunsSpec)

/-- 'pintlelaw16.LirrunOne', WHERE WHAT IT READS IS OF BULK AT MOST 1048576: true; the input reads as it did. -/
def lirrunOneUptoRow : OpenClaim := { program := "ytolohbegdjnjnaa", sum := "7887df8145cb35427f832163ecd4bc5b35acb677c563d25d15771c9eb72f37a7", func := "pintle/pintlelaw16.LirrunOne", spec := "lirrunOne", recurses := true, apart := false, narrowed := true }
def LirrunOneUptoSaid : Prop := lirrunOneUptoRow.holds Try.pinned (OpenSpec.upto lirrunOneSpec)

/-- 'pintlelaw16.LirrunMany', WHERE WHAT IT READS IS OF BULK AT MOST 1048576: true; the input reads as it did. -/
def lirrunManyUptoRow : OpenClaim := { program := "ytolohbegdjnjnaa", sum := "7887df8145cb35427f832163ecd4bc5b35acb677c563d25d15771c9eb72f37a7", func := "pintle/pintlelaw16.LirrunMany", spec := "lirrunMany", apart := false, narrowed := true }
def LirrunManyUptoSaid : Prop := lirrunManyUptoRow.holds Try.pinned (OpenSpec.upto lirrunManySpec)

/-- 'pintlelaw17.AllocWeighs', WHERE WHAT IT READS IS OF BULK AT MOST 1048576: true; the input reads as it did. -/
def allocWeighsUptoRow : OpenClaim := { program := "ytolohbegdjnjnaa", sum := "7887df8145cb35427f832163ecd4bc5b35acb677c563d25d15771c9eb72f37a7", func := "pintle/pintlelaw17.AllocWeighs", spec := "allocWeighs", unfollowed := true, recurses := true, apart := false, narrowed := true }
def AllocWeighsUptoSaid : Prop := allocWeighsUptoRow.holds Try.pinned (OpenSpec.upto allocWeighsSpec)

/-- 'pintlelaw17.AllocHomes', WHERE WHAT IT READS IS OF BULK AT MOST 1048576: true; the input reads as it did. -/
def allocHomesUptoRow : OpenClaim := { program := "ytolohbegdjnjnaa", sum := "7887df8145cb35427f832163ecd4bc5b35acb677c563d25d15771c9eb72f37a7", func := "pintle/pintlelaw17.AllocHomes", spec := "allocHomes", unfollowed := true, recurses := true, apart := false, narrowed := true }
def AllocHomesUptoSaid : Prop := allocHomesUptoRow.holds Try.pinned (OpenSpec.upto allocHomesSpec)

/-- 'pintlelaw17.AllocOne', WHERE WHAT IT READS IS OF BULK AT MOST 1048576: true; the input reads as it did. -/
def allocOneUptoRow : OpenClaim := { program := "ytolohbegdjnjnaa", sum := "7887df8145cb35427f832163ecd4bc5b35acb677c563d25d15771c9eb72f37a7", func := "pintle/pintlelaw17.AllocOne", spec := "allocOne", unfollowed := true, recurses := true, apart := false, narrowed := true }
def AllocOneUptoSaid : Prop := allocOneUptoRow.holds Try.pinned (OpenSpec.upto allocOneSpec)

/-- 'pintlelaw17.AllocMany', WHERE WHAT IT READS IS OF BULK AT MOST 1048576: true; the input reads as it did. -/
def allocManyUptoRow : OpenClaim := { program := "ytolohbegdjnjnaa", sum := "7887df8145cb35427f832163ecd4bc5b35acb677c563d25d15771c9eb72f37a7", func := "pintle/pintlelaw17.AllocMany", spec := "allocMany", unfollowed := true, recurses := true, apart := false, narrowed := true }
def AllocManyUptoSaid : Prop := allocManyUptoRow.holds Try.pinned (OpenSpec.upto allocManySpec)

/-- 'pintlelaw20.QuantRuns', WHERE WHAT IT READS IS OF BULK AT MOST 1048576: true; the input reads as it did. -/
def quantRunsUptoRow : OpenClaim := { program := "ytolohbegdjnjnaa", sum := "7887df8145cb35427f832163ecd4bc5b35acb677c563d25d15771c9eb72f37a7", func := "pintle/pintlelaw20.QuantRuns", spec := "quantRuns", apart := false, narrowed := true }
def QuantRunsUptoSaid : Prop := quantRunsUptoRow.holds Try.pinned (OpenSpec.upto quantRunsSpec)

end Rows
end Go.Proofs.Ytolohbegdjnjnaa
