/-
  No cell of these rows narrows 'for every input' (looked for: loops, veiled, ifaces, maps, wideKeys, modest, calm, conditions, laid).
  DERIVED. THE GIVEN ROWS OF THIS SEAT. 12 by the template 'for every input the law returns true; each argument reads behind the call as it read before'; 0 by the template 'total and deterministic' (their statements: YtokomefopbcihaaTotals.lean).
  GIVEN WITH THE SEED: the statements are not yours to turn. If you find one false, say at which input.
  Laid BY PROGRAM, IN A SANDBOX (cutbox-rows.mjs): the forced cells as the released guide's own fill.sh prints them over the translation e5a84c8fb3267294… (all of the seat's roots in one cut). By AI agents, Wed Nov 11 2026. No macro, syntax, notation, axiom, sorry.
-/
import Derived.Test.YtokomefopbcihaaChecked
import GoSem.Claim
import GoSem.ClaimJoined
import GoSem.ClaimMapViews
import Derived.JoinedTies
import Derived.KernelRfl
namespace Go.Proofs.Ytokomefopbcihaa
/- THE CELL 'sum', in the pinned program and in every row, IS THE sha256 OF THE DUMP (.gsa) THAT YtokomefopbcihaaProg.lean LOADS. Nothing in Lean hashes anything: it is a label: what it is worth is what the hold of that sum in a sandbox is worth. -/
noncomputable def Try.pinned : Pinned := { name := "ytokomefopbcihaa", sum := "e5a84c8fb3267294f306b7b9da1134b449c2c70367722f5c4a8f8dd70e2a9f70", checked := Try.checked }
namespace Rows
def none {H : Type} : Left H := { results := [], args := [] }

/-- 'pintlelaw36.FamilyRandom': WHATEVER THE INPUT: true; the input reads as it did. -/
def familyRandomSpec : ChangeSpec := { name := "familyRandom", fn := fun _ => fun
  | [d] => { results := [.lit (.bool true)], args := [d] }
  | _ => none }
def familyRandomRow : OpenClaim := { program := "ytokomefopbcihaa", sum := "e5a84c8fb3267294f306b7b9da1134b449c2c70367722f5c4a8f8dd70e2a9f70", func := "pintle/pintlelaw36.FamilyRandom", spec := "familyRandom", unfollowed := true, recurses := true, apart := false }
def FamilyRandomSaid : Prop := familyRandomRow.holds Try.pinned (OpenSpec.ofChange familyRandomSpec)

/-- ITS FALSE NEIGHBOUR: 'it returns false'. Refute it at one input. -/
def familyRandomWrong : ChangeSpec := { name := "familyRandom", fn := fun _ => fun
  | [d] => { results := [.lit (.bool false)], args := [d] }
  | _ => none }
def FamilyRandomWrongFalsely : Prop := familyRandomRow.holds Try.pinned (OpenSpec.ofChange familyRandomWrong)

/-- 'pintlelaw36.FamilyOnes': WHATEVER THE INPUT: true; the input reads as it did. -/
def familyOnesSpec : ChangeSpec := { name := "familyOnes", fn := fun _ => fun
  | [d1, d2] => { results := [.lit (.bool true)], args := [d1, d2] }
  | _ => none }
def familyOnesRow : OpenClaim := { program := "ytokomefopbcihaa", sum := "e5a84c8fb3267294f306b7b9da1134b449c2c70367722f5c4a8f8dd70e2a9f70", func := "pintle/pintlelaw36.FamilyOnes", spec := "familyOnes", unfollowed := true, recurses := true, apart := false }
def FamilyOnesSaid : Prop := familyOnesRow.holds Try.pinned (OpenSpec.ofChange familyOnesSpec)

/-- ITS FALSE NEIGHBOUR: 'it returns false'. Refute it at one input. -/
def familyOnesWrong : ChangeSpec := { name := "familyOnes", fn := fun _ => fun
  | [d1, d2] => { results := [.lit (.bool false)], args := [d1, d2] }
  | _ => none }
def FamilyOnesWrongFalsely : Prop := familyOnesRow.holds Try.pinned (OpenSpec.ofChange familyOnesWrong)

/-- 'pintlelaw36.FamilyNets': WHATEVER THE INPUT: true; the input reads as it did. -/
def familyNetsSpec : ChangeSpec := { name := "familyNets", fn := fun _ => fun
  | [d1, d2] => { results := [.lit (.bool true)], args := [d1, d2] }
  | _ => none }
def familyNetsRow : OpenClaim := { program := "ytokomefopbcihaa", sum := "e5a84c8fb3267294f306b7b9da1134b449c2c70367722f5c4a8f8dd70e2a9f70", func := "pintle/pintlelaw36.FamilyNets", spec := "familyNets", unfollowed := true, recurses := true, apart := false }
def FamilyNetsSaid : Prop := familyNetsRow.holds Try.pinned (OpenSpec.ofChange familyNetsSpec)

/-- ITS FALSE NEIGHBOUR: 'it returns false'. Refute it at one input. -/
def familyNetsWrong : ChangeSpec := { name := "familyNets", fn := fun _ => fun
  | [d1, d2] => { results := [.lit (.bool false)], args := [d1, d2] }
  | _ => none }
def FamilyNetsWrongFalsely : Prop := familyNetsRow.holds Try.pinned (OpenSpec.ofChange familyNetsWrong)

/-- 'pintlelaw36.FamilyInputs': WHATEVER THE INPUT: true; the input reads as it did. -/
def familyInputsSpec : ChangeSpec := { name := "familyInputs", fn := fun _ => fun
  | [d1, d2] => { results := [.lit (.bool true)], args := [d1, d2] }
  | _ => none }
def familyInputsRow : OpenClaim := { program := "ytokomefopbcihaa", sum := "e5a84c8fb3267294f306b7b9da1134b449c2c70367722f5c4a8f8dd70e2a9f70", func := "pintle/pintlelaw36.FamilyInputs", spec := "familyInputs", unfollowed := true, recurses := true, apart := false }
def FamilyInputsSaid : Prop := familyInputsRow.holds Try.pinned (OpenSpec.ofChange familyInputsSpec)

/-- ITS FALSE NEIGHBOUR: 'it returns false'. Refute it at one input. -/
def familyInputsWrong : ChangeSpec := { name := "familyInputs", fn := fun _ => fun
  | [d1, d2] => { results := [.lit (.bool false)], args := [d1, d2] }
  | _ => none }
def FamilyInputsWrongFalsely : Prop := familyInputsRow.holds Try.pinned (OpenSpec.ofChange familyInputsWrong)

/-- 'pintlelaw17.AllocWeighs': WHATEVER THE INPUT: true; the input reads as it did. -/
def allocWeighsSpec : ChangeSpec := { name := "allocWeighs", fn := fun _ => fun
  | [d] => { results := [.lit (.bool true)], args := [d] }
  | _ => none }
def allocWeighsRow : OpenClaim := { program := "ytokomefopbcihaa", sum := "e5a84c8fb3267294f306b7b9da1134b449c2c70367722f5c4a8f8dd70e2a9f70", func := "pintle/pintlelaw17.AllocWeighs", spec := "allocWeighs", unfollowed := true, recurses := true, apart := false }
def AllocWeighsSaid : Prop := allocWeighsRow.holds Try.pinned (OpenSpec.ofChange allocWeighsSpec)

/-- ITS FALSE NEIGHBOUR: 'it returns false'. Refute it at one input. -/
def allocWeighsWrong : ChangeSpec := { name := "allocWeighs", fn := fun _ => fun
  | [d] => { results := [.lit (.bool false)], args := [d] }
  | _ => none }
def AllocWeighsWrongFalsely : Prop := allocWeighsRow.holds Try.pinned (OpenSpec.ofChange allocWeighsWrong)

/-- 'pintlelaw17.AllocHomes': WHATEVER THE INPUT: true; the input reads as it did. -/
def allocHomesSpec : ChangeSpec := { name := "allocHomes", fn := fun _ => fun
  | [d] => { results := [.lit (.bool true)], args := [d] }
  | _ => none }
def allocHomesRow : OpenClaim := { program := "ytokomefopbcihaa", sum := "e5a84c8fb3267294f306b7b9da1134b449c2c70367722f5c4a8f8dd70e2a9f70", func := "pintle/pintlelaw17.AllocHomes", spec := "allocHomes", unfollowed := true, recurses := true, apart := false }
def AllocHomesSaid : Prop := allocHomesRow.holds Try.pinned (OpenSpec.ofChange allocHomesSpec)

/-- ITS FALSE NEIGHBOUR: 'it returns false'. Refute it at one input. -/
def allocHomesWrong : ChangeSpec := { name := "allocHomes", fn := fun _ => fun
  | [d] => { results := [.lit (.bool false)], args := [d] }
  | _ => none }
def AllocHomesWrongFalsely : Prop := allocHomesRow.holds Try.pinned (OpenSpec.ofChange allocHomesWrong)

/-- 'pintlelaw17.AllocOne': WHATEVER THE INPUT: true; the input reads as it did. -/
def allocOneSpec : ChangeSpec := { name := "allocOne", fn := fun _ => fun
  | [d] => { results := [.lit (.bool true)], args := [d] }
  | _ => none }
def allocOneRow : OpenClaim := { program := "ytokomefopbcihaa", sum := "e5a84c8fb3267294f306b7b9da1134b449c2c70367722f5c4a8f8dd70e2a9f70", func := "pintle/pintlelaw17.AllocOne", spec := "allocOne", unfollowed := true, recurses := true, apart := false }
def AllocOneSaid : Prop := allocOneRow.holds Try.pinned (OpenSpec.ofChange allocOneSpec)

/-- ITS FALSE NEIGHBOUR: 'it returns false'. Refute it at one input. -/
def allocOneWrong : ChangeSpec := { name := "allocOne", fn := fun _ => fun
  | [d] => { results := [.lit (.bool false)], args := [d] }
  | _ => none }
def AllocOneWrongFalsely : Prop := allocOneRow.holds Try.pinned (OpenSpec.ofChange allocOneWrong)

/-- 'pintlelaw17.AllocMany': WHATEVER THE INPUT: true; the input reads as it did. -/
def allocManySpec : ChangeSpec := { name := "allocMany", fn := fun _ => fun
  | [d1, d2] => { results := [.lit (.bool true)], args := [d1, d2] }
  | _ => none }
def allocManyRow : OpenClaim := { program := "ytokomefopbcihaa", sum := "e5a84c8fb3267294f306b7b9da1134b449c2c70367722f5c4a8f8dd70e2a9f70", func := "pintle/pintlelaw17.AllocMany", spec := "allocMany", unfollowed := true, recurses := true, apart := false }
def AllocManySaid : Prop := allocManyRow.holds Try.pinned (OpenSpec.ofChange allocManySpec)

/-- ITS FALSE NEIGHBOUR: 'it returns false'. Refute it at one input. -/
def allocManyWrong : ChangeSpec := { name := "allocMany", fn := fun _ => fun
  | [d1, d2] => { results := [.lit (.bool false)], args := [d1, d2] }
  | _ => none }
def AllocManyWrongFalsely : Prop := allocManyRow.holds Try.pinned (OpenSpec.ofChange allocManyWrong)

/-- 'pintlelaw20.QuantSteps': WHATEVER THE INPUT: true; the input reads as it did. -/
def quantStepsSpec : ChangeSpec := { name := "quantSteps", fn := fun _ => fun
  | [d1, d2, d3] => { results := [.lit (.bool true)], args := [d1, d2, d3] }
  | _ => none }
def quantStepsRow : OpenClaim := { program := "ytokomefopbcihaa", sum := "e5a84c8fb3267294f306b7b9da1134b449c2c70367722f5c4a8f8dd70e2a9f70", func := "pintle/pintlelaw20.QuantSteps", spec := "quantSteps", recurses := true, apart := false }
def QuantStepsSaid : Prop := quantStepsRow.holds Try.pinned (OpenSpec.ofChange quantStepsSpec)

/-- ITS FALSE NEIGHBOUR: 'it returns false'. Refute it at one input. -/
def quantStepsWrong : ChangeSpec := { name := "quantSteps", fn := fun _ => fun
  | [d1, d2, d3] => { results := [.lit (.bool false)], args := [d1, d2, d3] }
  | _ => none }
def QuantStepsWrongFalsely : Prop := quantStepsRow.holds Try.pinned (OpenSpec.ofChange quantStepsWrong)

/-- 'pintlelaw20.QuantClamps': WHATEVER THE INPUT: true; the input reads as it did. -/
def quantClampsSpec : ChangeSpec := { name := "quantClamps", fn := fun _ => fun
  | [d1, d2, d3] => { results := [.lit (.bool true)], args := [d1, d2, d3] }
  | _ => none }
def quantClampsRow : OpenClaim := { program := "ytokomefopbcihaa", sum := "e5a84c8fb3267294f306b7b9da1134b449c2c70367722f5c4a8f8dd70e2a9f70", func := "pintle/pintlelaw20.QuantClamps", spec := "quantClamps", recurses := true, apart := false }
def QuantClampsSaid : Prop := quantClampsRow.holds Try.pinned (OpenSpec.ofChange quantClampsSpec)

/-- ITS FALSE NEIGHBOUR: 'it returns false'. Refute it at one input. -/
def quantClampsWrong : ChangeSpec := { name := "quantClamps", fn := fun _ => fun
  | [d1, d2, d3] => { results := [.lit (.bool false)], args := [d1, d2, d3] }
  | _ => none }
def QuantClampsWrongFalsely : Prop := quantClampsRow.holds Try.pinned (OpenSpec.ofChange quantClampsWrong)

/-- 'pintlelaw20.QuantRuns': WHATEVER THE INPUT: true; the input reads as it did. -/
def quantRunsSpec : ChangeSpec := { name := "quantRuns", fn := fun _ => fun
  | [d1, d2, d3] => { results := [.lit (.bool true)], args := [d1, d2, d3] }
  | _ => none }
def quantRunsRow : OpenClaim := { program := "ytokomefopbcihaa", sum := "e5a84c8fb3267294f306b7b9da1134b449c2c70367722f5c4a8f8dd70e2a9f70", func := "pintle/pintlelaw20.QuantRuns", spec := "quantRuns", apart := false }
def QuantRunsSaid : Prop := quantRunsRow.holds Try.pinned (OpenSpec.ofChange quantRunsSpec)

/-- ITS FALSE NEIGHBOUR: 'it returns false'. Refute it at one input. -/
def quantRunsWrong : ChangeSpec := { name := "quantRuns", fn := fun _ => fun
  | [d1, d2, d3] => { results := [.lit (.bool false)], args := [d1, d2, d3] }
  | _ => none }
def QuantRunsWrongFalsely : Prop := quantRunsRow.holds Try.pinned (OpenSpec.ofChange quantRunsWrong)

/-- 'pintlelaw16.LirrunCounts': WHATEVER THE INPUT: true; the input reads as it did. -/
def lirrunCountsSpec : ChangeSpec := { name := "lirrunCounts", fn := fun _ => fun
  | [d1, d2] => { results := [.lit (.bool true)], args := [d1, d2] }
  | _ => none }
def lirrunCountsRow : OpenClaim := { program := "ytokomefopbcihaa", sum := "e5a84c8fb3267294f306b7b9da1134b449c2c70367722f5c4a8f8dd70e2a9f70", func := "pintle/pintlelaw16.LirrunCounts", spec := "lirrunCounts", apart := false }
def LirrunCountsSaid : Prop := lirrunCountsRow.holds Try.pinned (OpenSpec.ofChange lirrunCountsSpec)

/-- ITS FALSE NEIGHBOUR: 'it returns false'. Refute it at one input. -/
def lirrunCountsWrong : ChangeSpec := { name := "lirrunCounts", fn := fun _ => fun
  | [d1, d2] => { results := [.lit (.bool false)], args := [d1, d2] }
  | _ => none }
def LirrunCountsWrongFalsely : Prop := lirrunCountsRow.holds Try.pinned (OpenSpec.ofChange lirrunCountsWrong)

/- THE SECOND FORM. 'bulk': how many values and letters a reading holds, each counted each time it is reached (what is shared counts as often as it is met; a slice's spare places count too). A statement '..UptoSaid' is the law's where the arguments, and the package variables that the reading takes, are together of bulk at most 1048576: NARROWER than '..Said'. Prove '..Said' where nothing that the law and all that it calls make is longer than what came in: it says more and counts as full. Else prove '..UptoSaid'. A law counts once. -/
mutual
def uptoBulk {H : Type} : DataW H → Nat
  | .lit (.string bytes) => bytes.length + 1
  | .lit _ => 1
  | .nil => 1
  | .ptr d => uptoBulk d + 1
  | .slice elems spare => uptoBulkAll elems + uptoBulkAll spare + 1
  | .agg parts => uptoBulkAll parts + 1
  | .iface _ d => uptoBulk d + 1
  | .map entries => uptoBulkEntries entries + 1
  | .held _ => 1
def uptoBulkAll {H : Type} : List (DataW H) → Nat
  | [] => 0
  | d :: r => uptoBulk d + uptoBulkAll r
def uptoBulkEntries {H : Type} : List (Lit × DataW H) → Nat
  | [] => 0
  | x :: r => uptoBulkEntry x + uptoBulkEntries r
def uptoBulkEntry {H : Type} : Lit × DataW H → Nat
  | (.string bytes, d) => bytes.length + uptoBulk d + 1
  | (_, d) => uptoBulk d + 1
 end
def uptoSmall : (H : Type) → List (DataW H) → Bool := fun _ ds => decide (uptoBulkAll ds ≤ 1048576)
def OpenSpec.upto (s : _root_.Go.ChangeSpec) : _root_.Go.OpenSpec := { _root_.Go.OpenSpec.ofChange s with cond := some uptoSmall }

/-- 'pintlelaw36.FamilyRandom', WHERE WHAT IT READS IS OF BULK AT MOST 1048576: true; the input reads as it did. -/
def familyRandomUptoRow : OpenClaim := { program := "ytokomefopbcihaa", sum := "e5a84c8fb3267294f306b7b9da1134b449c2c70367722f5c4a8f8dd70e2a9f70", func := "pintle/pintlelaw36.FamilyRandom", spec := "familyRandom", unfollowed := true, recurses := true, apart := false, narrowed := true }
def FamilyRandomUptoSaid : Prop := familyRandomUptoRow.holds Try.pinned (OpenSpec.upto familyRandomSpec)

/-- 'pintlelaw36.FamilyOnes', WHERE WHAT IT READS IS OF BULK AT MOST 1048576: true; the input reads as it did. -/
def familyOnesUptoRow : OpenClaim := { program := "ytokomefopbcihaa", sum := "e5a84c8fb3267294f306b7b9da1134b449c2c70367722f5c4a8f8dd70e2a9f70", func := "pintle/pintlelaw36.FamilyOnes", spec := "familyOnes", unfollowed := true, recurses := true, apart := false, narrowed := true }
def FamilyOnesUptoSaid : Prop := familyOnesUptoRow.holds Try.pinned (OpenSpec.upto familyOnesSpec)

/-- 'pintlelaw36.FamilyNets', WHERE WHAT IT READS IS OF BULK AT MOST 1048576: true; the input reads as it did. -/
def familyNetsUptoRow : OpenClaim := { program := "ytokomefopbcihaa", sum := "e5a84c8fb3267294f306b7b9da1134b449c2c70367722f5c4a8f8dd70e2a9f70", func := "pintle/pintlelaw36.FamilyNets", spec := "familyNets", unfollowed := true, recurses := true, apart := false, narrowed := true }
def FamilyNetsUptoSaid : Prop := familyNetsUptoRow.holds Try.pinned (OpenSpec.upto familyNetsSpec)

/-- 'pintlelaw36.FamilyInputs', WHERE WHAT IT READS IS OF BULK AT MOST 1048576: true; the input reads as it did. -/
def familyInputsUptoRow : OpenClaim := { program := "ytokomefopbcihaa", sum := "e5a84c8fb3267294f306b7b9da1134b449c2c70367722f5c4a8f8dd70e2a9f70", func := "pintle/pintlelaw36.FamilyInputs", spec := "familyInputs", unfollowed := true, recurses := true, apart := false, narrowed := true }
def FamilyInputsUptoSaid : Prop := familyInputsUptoRow.holds Try.pinned (OpenSpec.upto familyInputsSpec)

/-- 'pintlelaw17.AllocWeighs', WHERE WHAT IT READS IS OF BULK AT MOST 1048576: true; the input reads as it did. -/
def allocWeighsUptoRow : OpenClaim := { program := "ytokomefopbcihaa", sum := "e5a84c8fb3267294f306b7b9da1134b449c2c70367722f5c4a8f8dd70e2a9f70", func := "pintle/pintlelaw17.AllocWeighs", spec := "allocWeighs", unfollowed := true, recurses := true, apart := false, narrowed := true }
def AllocWeighsUptoSaid : Prop := allocWeighsUptoRow.holds Try.pinned (OpenSpec.upto allocWeighsSpec)

/-- 'pintlelaw17.AllocHomes', WHERE WHAT IT READS IS OF BULK AT MOST 1048576: true; the input reads as it did. -/
def allocHomesUptoRow : OpenClaim := { program := "ytokomefopbcihaa", sum := "e5a84c8fb3267294f306b7b9da1134b449c2c70367722f5c4a8f8dd70e2a9f70", func := "pintle/pintlelaw17.AllocHomes", spec := "allocHomes", unfollowed := true, recurses := true, apart := false, narrowed := true }
def AllocHomesUptoSaid : Prop := allocHomesUptoRow.holds Try.pinned (OpenSpec.upto allocHomesSpec)

/-- 'pintlelaw17.AllocOne', WHERE WHAT IT READS IS OF BULK AT MOST 1048576: true; the input reads as it did. -/
def allocOneUptoRow : OpenClaim := { program := "ytokomefopbcihaa", sum := "e5a84c8fb3267294f306b7b9da1134b449c2c70367722f5c4a8f8dd70e2a9f70", func := "pintle/pintlelaw17.AllocOne", spec := "allocOne", unfollowed := true, recurses := true, apart := false, narrowed := true }
def AllocOneUptoSaid : Prop := allocOneUptoRow.holds Try.pinned (OpenSpec.upto allocOneSpec)

/-- 'pintlelaw17.AllocMany', WHERE WHAT IT READS IS OF BULK AT MOST 1048576: true; the input reads as it did. -/
def allocManyUptoRow : OpenClaim := { program := "ytokomefopbcihaa", sum := "e5a84c8fb3267294f306b7b9da1134b449c2c70367722f5c4a8f8dd70e2a9f70", func := "pintle/pintlelaw17.AllocMany", spec := "allocMany", unfollowed := true, recurses := true, apart := false, narrowed := true }
def AllocManyUptoSaid : Prop := allocManyUptoRow.holds Try.pinned (OpenSpec.upto allocManySpec)

/-- 'pintlelaw20.QuantSteps', WHERE WHAT IT READS IS OF BULK AT MOST 1048576: true; the input reads as it did. -/
def quantStepsUptoRow : OpenClaim := { program := "ytokomefopbcihaa", sum := "e5a84c8fb3267294f306b7b9da1134b449c2c70367722f5c4a8f8dd70e2a9f70", func := "pintle/pintlelaw20.QuantSteps", spec := "quantSteps", recurses := true, apart := false, narrowed := true }
def QuantStepsUptoSaid : Prop := quantStepsUptoRow.holds Try.pinned (OpenSpec.upto quantStepsSpec)

/-- 'pintlelaw20.QuantClamps', WHERE WHAT IT READS IS OF BULK AT MOST 1048576: true; the input reads as it did. -/
def quantClampsUptoRow : OpenClaim := { program := "ytokomefopbcihaa", sum := "e5a84c8fb3267294f306b7b9da1134b449c2c70367722f5c4a8f8dd70e2a9f70", func := "pintle/pintlelaw20.QuantClamps", spec := "quantClamps", recurses := true, apart := false, narrowed := true }
def QuantClampsUptoSaid : Prop := quantClampsUptoRow.holds Try.pinned (OpenSpec.upto quantClampsSpec)

/-- 'pintlelaw20.QuantRuns', WHERE WHAT IT READS IS OF BULK AT MOST 1048576: true; the input reads as it did. -/
def quantRunsUptoRow : OpenClaim := { program := "ytokomefopbcihaa", sum := "e5a84c8fb3267294f306b7b9da1134b449c2c70367722f5c4a8f8dd70e2a9f70", func := "pintle/pintlelaw20.QuantRuns", spec := "quantRuns", apart := false, narrowed := true }
def QuantRunsUptoSaid : Prop := quantRunsUptoRow.holds Try.pinned (OpenSpec.upto quantRunsSpec)

/-- 'pintlelaw16.LirrunCounts', WHERE WHAT IT READS IS OF BULK AT MOST 1048576: true; the input reads as it did. -/
def lirrunCountsUptoRow : OpenClaim := { program := "ytokomefopbcihaa", sum := "e5a84c8fb3267294f306b7b9da1134b449c2c70367722f5c4a8f8dd70e2a9f70", func := "pintle/pintlelaw16.LirrunCounts", spec := "lirrunCounts", apart := false, narrowed := true }
def LirrunCountsUptoSaid : Prop := lirrunCountsUptoRow.holds Try.pinned (OpenSpec.upto lirrunCountsSpec)

end Rows
end Go.Proofs.Ytokomefopbcihaa
