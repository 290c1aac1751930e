/-
  No cell of these rows narrows 'for every input' (looked for: loops, veiled, ifaces, maps, wideKeys, modest, calm, conditions, laid).
  DERIVED. THE GIVEN ROWS OF THIS SEAT. 12 by the template 'for every input the law returns true; each argument reads behind the call as it read before'; 0 by the template 'total and deterministic' (their statements: YtnhopdimhppnmaaTotals.lean).
  GIVEN WITH THE SEED: the statements are not yours to turn. If you find one false, say at which input.
  Laid BY PROGRAM, IN A SANDBOX (cutbox-rows.mjs): the forced cells as the released guide's own fill.sh prints them over the translation e43e08dce34945a1… (all of the seat's roots in one cut). By AI agents, Wed Nov 11 2026. No macro, syntax, notation, axiom, sorry.
-/
import Derived.Test.YtnhopdimhppnmaaChecked
import GoSem.Claim
import GoSem.ClaimJoined
import GoSem.ClaimMapViews
import Derived.JoinedTies
import Derived.KernelRfl
namespace Go.Proofs.Ytnhopdimhppnmaa
/- THE CELL 'sum', in the pinned program and in every row, IS THE sha256 OF THE DUMP (.gsa) THAT YtnhopdimhppnmaaProg.lean LOADS. Nothing in Lean hashes anything: it is a label: what it is worth is what the hold of that sum in a sandbox is worth. -/
noncomputable def Try.pinned : Pinned := { name := "ytnhopdimhppnmaa", sum := "e43e08dce34945a1d344f232293505884c721539a2dc7640db836482c9d73757", checked := Try.checked }
namespace Rows
def none {H : Type} : Left H := { results := [], args := [] }

/-- 'pintlelaw08.CrcSums': WHATEVER THE INPUT: true; the input reads as it did. -/
def crcSumsSpec : ChangeSpec := { name := "crcSums", fn := fun _ => fun
  | [d] => { results := [.lit (.bool true)], args := [d] }
  | _ => none }
def crcSumsRow : OpenClaim := { program := "ytnhopdimhppnmaa", sum := "e43e08dce34945a1d344f232293505884c721539a2dc7640db836482c9d73757", func := "pintle/pintlelaw08.CrcSums", spec := "crcSums", apart := false }
def CrcSumsSaid : Prop := crcSumsRow.holds Try.pinned (OpenSpec.ofChange crcSumsSpec)

/-- ITS FALSE NEIGHBOUR: 'it returns false'. Refute it at one input. -/
def crcSumsWrong : ChangeSpec := { name := "crcSums", fn := fun _ => fun
  | [d] => { results := [.lit (.bool false)], args := [d] }
  | _ => none }
def CrcSumsWrongFalsely : Prop := crcSumsRow.holds Try.pinned (OpenSpec.ofChange crcSumsWrong)

/-- 'pintlelaw08.CrcMore': WHATEVER THE INPUT: true; the input reads as it did. -/
def crcMoreSpec : ChangeSpec := { name := "crcMore", fn := fun _ => fun
  | [d1, d2] => { results := [.lit (.bool true)], args := [d1, d2] }
  | _ => none }
def crcMoreRow : OpenClaim := { program := "ytnhopdimhppnmaa", sum := "e43e08dce34945a1d344f232293505884c721539a2dc7640db836482c9d73757", func := "pintle/pintlelaw08.CrcMore", spec := "crcMore", apart := false }
def CrcMoreSaid : Prop := crcMoreRow.holds Try.pinned (OpenSpec.ofChange crcMoreSpec)

/-- ITS FALSE NEIGHBOUR: 'it returns false'. Refute it at one input. -/
def crcMoreWrong : ChangeSpec := { name := "crcMore", fn := fun _ => fun
  | [d1, d2] => { results := [.lit (.bool false)], args := [d1, d2] }
  | _ => none }
def CrcMoreWrongFalsely : Prop := crcMoreRow.holds Try.pinned (OpenSpec.ofChange crcMoreWrong)

/-- 'pintlelaw08.CrcParts': WHATEVER THE INPUT: true; the input reads as it did. -/
def crcPartsSpec : ChangeSpec := { name := "crcParts", fn := fun _ => fun
  | [d1, d2] => { results := [.lit (.bool true)], args := [d1, d2] }
  | _ => none }
def crcPartsRow : OpenClaim := { program := "ytnhopdimhppnmaa", sum := "e43e08dce34945a1d344f232293505884c721539a2dc7640db836482c9d73757", func := "pintle/pintlelaw08.CrcParts", spec := "crcParts", apart := false }
def CrcPartsSaid : Prop := crcPartsRow.holds Try.pinned (OpenSpec.ofChange crcPartsSpec)

/-- ITS FALSE NEIGHBOUR: 'it returns false'. Refute it at one input. -/
def crcPartsWrong : ChangeSpec := { name := "crcParts", fn := fun _ => fun
  | [d1, d2] => { results := [.lit (.bool false)], args := [d1, d2] }
  | _ => none }
def CrcPartsWrongFalsely : Prop := crcPartsRow.holds Try.pinned (OpenSpec.ofChange crcPartsWrong)

/-- 'pintlelaw08.CrcFour': WHATEVER THE INPUT: true; the input reads as it did. -/
def crcFourSpec : ChangeSpec := { name := "crcFour", fn := fun _ => fun
  | [d1, d2, d3] => { results := [.lit (.bool true)], args := [d1, d2, d3] }
  | _ => none }
def crcFourRow : OpenClaim := { program := "ytnhopdimhppnmaa", sum := "e43e08dce34945a1d344f232293505884c721539a2dc7640db836482c9d73757", func := "pintle/pintlelaw08.CrcFour", spec := "crcFour", apart := false }
def CrcFourSaid : Prop := crcFourRow.holds Try.pinned (OpenSpec.ofChange crcFourSpec)

/-- ITS FALSE NEIGHBOUR: 'it returns false'. Refute it at one input. -/
def crcFourWrong : ChangeSpec := { name := "crcFour", fn := fun _ => fun
  | [d1, d2, d3] => { results := [.lit (.bool false)], args := [d1, d2, d3] }
  | _ => none }
def CrcFourWrongFalsely : Prop := crcFourRow.holds Try.pinned (OpenSpec.ofChange crcFourWrong)

/-- 'pintlelaw15.LirSteps': WHATEVER THE INPUT: true; the input reads as it did. -/
def lirStepsSpec : ChangeSpec := { name := "lirSteps", fn := fun _ => fun
  | [d] => { results := [.lit (.bool true)], args := [d] }
  | _ => none }
def lirStepsRow : OpenClaim := { program := "ytnhopdimhppnmaa", sum := "e43e08dce34945a1d344f232293505884c721539a2dc7640db836482c9d73757", func := "pintle/pintlelaw15.LirSteps", spec := "lirSteps", apart := false }
def LirStepsSaid : Prop := lirStepsRow.holds Try.pinned (OpenSpec.ofChange lirStepsSpec)

/-- ITS FALSE NEIGHBOUR: 'it returns false'. Refute it at one input. -/
def lirStepsWrong : ChangeSpec := { name := "lirSteps", fn := fun _ => fun
  | [d] => { results := [.lit (.bool false)], args := [d] }
  | _ => none }
def LirStepsWrongFalsely : Prop := lirStepsRow.holds Try.pinned (OpenSpec.ofChange lirStepsWrong)

/-- 'pintlelaw15.LirEnds': WHATEVER THE INPUT: true; the input reads as it did. -/
def lirEndsSpec : ChangeSpec := { name := "lirEnds", fn := fun _ => fun
  | [d] => { results := [.lit (.bool true)], args := [d] }
  | _ => none }
def lirEndsRow : OpenClaim := { program := "ytnhopdimhppnmaa", sum := "e43e08dce34945a1d344f232293505884c721539a2dc7640db836482c9d73757", func := "pintle/pintlelaw15.LirEnds", spec := "lirEnds", apart := false }
def LirEndsSaid : Prop := lirEndsRow.holds Try.pinned (OpenSpec.ofChange lirEndsSpec)

/-- ITS FALSE NEIGHBOUR: 'it returns false'. Refute it at one input. -/
def lirEndsWrong : ChangeSpec := { name := "lirEnds", fn := fun _ => fun
  | [d] => { results := [.lit (.bool false)], args := [d] }
  | _ => none }
def LirEndsWrongFalsely : Prop := lirEndsRow.holds Try.pinned (OpenSpec.ofChange lirEndsWrong)

/-- 'pintlelaw15.LirVars': WHATEVER THE INPUT: true; the input reads as it did. -/
def lirVarsSpec : ChangeSpec := { name := "lirVars", fn := fun _ => fun
  | [d] => { results := [.lit (.bool true)], args := [d] }
  | _ => none }
def lirVarsRow : OpenClaim := { program := "ytnhopdimhppnmaa", sum := "e43e08dce34945a1d344f232293505884c721539a2dc7640db836482c9d73757", func := "pintle/pintlelaw15.LirVars", spec := "lirVars", apart := false }
def LirVarsSaid : Prop := lirVarsRow.holds Try.pinned (OpenSpec.ofChange lirVarsSpec)

/-- ITS FALSE NEIGHBOUR: 'it returns false'. Refute it at one input. -/
def lirVarsWrong : ChangeSpec := { name := "lirVars", fn := fun _ => fun
  | [d] => { results := [.lit (.bool false)], args := [d] }
  | _ => none }
def LirVarsWrongFalsely : Prop := lirVarsRow.holds Try.pinned (OpenSpec.ofChange lirVarsWrong)

/-- 'pintlelaw15.LirLong': WHATEVER THE INPUT: true; the input reads as it did. -/
def lirLongSpec : ChangeSpec := { name := "lirLong", fn := fun _ => fun
  | [d] => { results := [.lit (.bool true)], args := [d] }
  | _ => none }
def lirLongRow : OpenClaim := { program := "ytnhopdimhppnmaa", sum := "e43e08dce34945a1d344f232293505884c721539a2dc7640db836482c9d73757", func := "pintle/pintlelaw15.LirLong", spec := "lirLong", apart := false }
def LirLongSaid : Prop := lirLongRow.holds Try.pinned (OpenSpec.ofChange lirLongSpec)

/-- ITS FALSE NEIGHBOUR: 'it returns false'. Refute it at one input. -/
def lirLongWrong : ChangeSpec := { name := "lirLong", fn := fun _ => fun
  | [d] => { results := [.lit (.bool false)], args := [d] }
  | _ => none }
def LirLongWrongFalsely : Prop := lirLongRow.holds Try.pinned (OpenSpec.ofChange lirLongWrong)

/-- 'pintlelaw15.LirChecks': WHATEVER THE INPUT: true; the input reads as it did. -/
def lirChecksSpec : ChangeSpec := { name := "lirChecks", fn := fun _ => fun
  | [d] => { results := [.lit (.bool true)], args := [d] }
  | _ => none }
def lirChecksRow : OpenClaim := { program := "ytnhopdimhppnmaa", sum := "e43e08dce34945a1d344f232293505884c721539a2dc7640db836482c9d73757", func := "pintle/pintlelaw15.LirChecks", spec := "lirChecks", apart := false }
def LirChecksSaid : Prop := lirChecksRow.holds Try.pinned (OpenSpec.ofChange lirChecksSpec)

/-- ITS FALSE NEIGHBOUR: 'it returns false'. Refute it at one input. -/
def lirChecksWrong : ChangeSpec := { name := "lirChecks", fn := fun _ => fun
  | [d] => { results := [.lit (.bool false)], args := [d] }
  | _ => none }
def LirChecksWrongFalsely : Prop := lirChecksRow.holds Try.pinned (OpenSpec.ofChange lirChecksWrong)

/-- 'pintlelaw05.MemTargets': WHATEVER THE INPUT: true; the input reads as it did. -/
def memTargetsSpec : ChangeSpec := { name := "memTargets", fn := fun _ => fun
  | [d] => { results := [.lit (.bool true)], args := [d] }
  | _ => none }
def memTargetsRow : OpenClaim := { program := "ytnhopdimhppnmaa", sum := "e43e08dce34945a1d344f232293505884c721539a2dc7640db836482c9d73757", func := "pintle/pintlelaw05.MemTargets", spec := "memTargets", apart := false }
def MemTargetsSaid : Prop := memTargetsRow.holds Try.pinned (OpenSpec.ofChange memTargetsSpec)

/-- ITS FALSE NEIGHBOUR: 'it returns false'. Refute it at one input. -/
def memTargetsWrong : ChangeSpec := { name := "memTargets", fn := fun _ => fun
  | [d] => { results := [.lit (.bool false)], args := [d] }
  | _ => none }
def MemTargetsWrongFalsely : Prop := memTargetsRow.holds Try.pinned (OpenSpec.ofChange memTargetsWrong)

/-- 'pintlelaw05.MemNone': WHATEVER THE INPUT: true; the input reads as it did. -/
def memNoneSpec : ChangeSpec := { name := "memNone", fn := fun _ => fun
  | [d] => { results := [.lit (.bool true)], args := [d] }
  | _ => none }
def memNoneRow : OpenClaim := { program := "ytnhopdimhppnmaa", sum := "e43e08dce34945a1d344f232293505884c721539a2dc7640db836482c9d73757", func := "pintle/pintlelaw05.MemNone", spec := "memNone", apart := false }
def MemNoneSaid : Prop := memNoneRow.holds Try.pinned (OpenSpec.ofChange memNoneSpec)

/-- ITS FALSE NEIGHBOUR: 'it returns false'. Refute it at one input. -/
def memNoneWrong : ChangeSpec := { name := "memNone", fn := fun _ => fun
  | [d] => { results := [.lit (.bool false)], args := [d] }
  | _ => none }
def MemNoneWrongFalsely : Prop := memNoneRow.holds Try.pinned (OpenSpec.ofChange memNoneWrong)

/-- 'pintlelaw05.MemBounds': WHATEVER THE INPUT: true; the input reads as it did. -/
def memBoundsSpec : ChangeSpec := { name := "memBounds", fn := fun _ => fun
  | [d1, d2] => { results := [.lit (.bool true)], args := [d1, d2] }
  | _ => none }
def memBoundsRow : OpenClaim := { program := "ytnhopdimhppnmaa", sum := "e43e08dce34945a1d344f232293505884c721539a2dc7640db836482c9d73757", func := "pintle/pintlelaw05.MemBounds", spec := "memBounds", apart := false }
def MemBoundsSaid : Prop := memBoundsRow.holds Try.pinned (OpenSpec.ofChange memBoundsSpec)

/-- ITS FALSE NEIGHBOUR: 'it returns false'. Refute it at one input. -/
def memBoundsWrong : ChangeSpec := { name := "memBounds", fn := fun _ => fun
  | [d1, d2] => { results := [.lit (.bool false)], args := [d1, d2] }
  | _ => none }
def MemBoundsWrongFalsely : Prop := memBoundsRow.holds Try.pinned (OpenSpec.ofChange memBoundsWrong)

/- THE SECOND FORM. 'bulk': how many values and letters a reading holds, each counted each time it is reached (what is shared counts as often as it is met; a slice's spare places count too). A statement '..UptoSaid' is the law's where the arguments, and the package variables that the reading takes, are together of bulk at most 1048576: NARROWER than '..Said'. Prove '..Said' where nothing that the law and all that it calls make is longer than what came in: it says more and counts as full. Else prove '..UptoSaid'. A law counts once. -/
mutual
def uptoBulk {H : Type} : DataW H → Nat
  | .lit (.string bytes) => bytes.length + 1
  | .lit _ => 1
  | .nil => 1
  | .ptr d => uptoBulk d + 1
  | .slice elems spare => uptoBulkAll elems + uptoBulkAll spare + 1
  | .agg parts => uptoBulkAll parts + 1
  | .iface _ d => uptoBulk d + 1
  | .map entries => uptoBulkEntries entries + 1
  | .held _ => 1
def uptoBulkAll {H : Type} : List (DataW H) → Nat
  | [] => 0
  | d :: r => uptoBulk d + uptoBulkAll r
def uptoBulkEntries {H : Type} : List (Lit × DataW H) → Nat
  | [] => 0
  | x :: r => uptoBulkEntry x + uptoBulkEntries r
def uptoBulkEntry {H : Type} : Lit × DataW H → Nat
  | (.string bytes, d) => bytes.length + uptoBulk d + 1
  | (_, d) => uptoBulk d + 1
 end
def uptoSmall : (H : Type) → List (DataW H) → Bool := fun _ ds => decide (uptoBulkAll ds ≤ 1048576)
def OpenSpec.upto (s : _root_.Go.ChangeSpec) : _root_.Go.OpenSpec := { _root_.Go.OpenSpec.ofChange s with cond := some uptoSmall }

/-- 'pintlelaw08.CrcSums', WHERE WHAT IT READS IS OF BULK AT MOST 1048576: true; the input reads as it did. -/
def crcSumsUptoRow : OpenClaim := { program := "ytnhopdimhppnmaa", sum := "e43e08dce34945a1d344f232293505884c721539a2dc7640db836482c9d73757", func := "pintle/pintlelaw08.CrcSums", spec := "crcSums", apart := false, narrowed := true }
def CrcSumsUptoSaid : Prop := crcSumsUptoRow.holds Try.pinned (OpenSpec.upto crcSumsSpec)

/-- 'pintlelaw08.CrcMore', WHERE WHAT IT READS IS OF BULK AT MOST 1048576: true; the input reads as it did. -/
def crcMoreUptoRow : OpenClaim := { program := "ytnhopdimhppnmaa", sum := "e43e08dce34945a1d344f232293505884c721539a2dc7640db836482c9d73757", func := "pintle/pintlelaw08.CrcMore", spec := "crcMore", apart := false, narrowed := true }
def CrcMoreUptoSaid : Prop := crcMoreUptoRow.holds Try.pinned (OpenSpec.upto crcMoreSpec)

/-- 'pintlelaw08.CrcParts', WHERE WHAT IT READS IS OF BULK AT MOST 1048576: true; the input reads as it did. -/
def crcPartsUptoRow : OpenClaim := { program := "ytnhopdimhppnmaa", sum := "e43e08dce34945a1d344f232293505884c721539a2dc7640db836482c9d73757", func := "pintle/pintlelaw08.CrcParts", spec := "crcParts", apart := false, narrowed := true }
def CrcPartsUptoSaid : Prop := crcPartsUptoRow.holds Try.pinned (OpenSpec.upto crcPartsSpec)

/-- 'pintlelaw08.CrcFour', WHERE WHAT IT READS IS OF BULK AT MOST 1048576: true; the input reads as it did. -/
def crcFourUptoRow : OpenClaim := { program := "ytnhopdimhppnmaa", sum := "e43e08dce34945a1d344f232293505884c721539a2dc7640db836482c9d73757", func := "pintle/pintlelaw08.CrcFour", spec := "crcFour", apart := false, narrowed := true }
def CrcFourUptoSaid : Prop := crcFourUptoRow.holds Try.pinned (OpenSpec.upto crcFourSpec)

/-- 'pintlelaw15.LirSteps', WHERE WHAT IT READS IS OF BULK AT MOST 1048576: true; the input reads as it did. -/
def lirStepsUptoRow : OpenClaim := { program := "ytnhopdimhppnmaa", sum := "e43e08dce34945a1d344f232293505884c721539a2dc7640db836482c9d73757", func := "pintle/pintlelaw15.LirSteps", spec := "lirSteps", apart := false, narrowed := true }
def LirStepsUptoSaid : Prop := lirStepsUptoRow.holds Try.pinned (OpenSpec.upto lirStepsSpec)

/-- 'pintlelaw15.LirEnds', WHERE WHAT IT READS IS OF BULK AT MOST 1048576: true; the input reads as it did. -/
def lirEndsUptoRow : OpenClaim := { program := "ytnhopdimhppnmaa", sum := "e43e08dce34945a1d344f232293505884c721539a2dc7640db836482c9d73757", func := "pintle/pintlelaw15.LirEnds", spec := "lirEnds", apart := false, narrowed := true }
def LirEndsUptoSaid : Prop := lirEndsUptoRow.holds Try.pinned (OpenSpec.upto lirEndsSpec)

/-- 'pintlelaw15.LirVars', WHERE WHAT IT READS IS OF BULK AT MOST 1048576: true; the input reads as it did. -/
def lirVarsUptoRow : OpenClaim := { program := "ytnhopdimhppnmaa", sum := "e43e08dce34945a1d344f232293505884c721539a2dc7640db836482c9d73757", func := "pintle/pintlelaw15.LirVars", spec := "lirVars", apart := false, narrowed := true }
def LirVarsUptoSaid : Prop := lirVarsUptoRow.holds Try.pinned (OpenSpec.upto lirVarsSpec)

/-- 'pintlelaw15.LirLong', WHERE WHAT IT READS IS OF BULK AT MOST 1048576: true; the input reads as it did. -/
def lirLongUptoRow : OpenClaim := { program := "ytnhopdimhppnmaa", sum := "e43e08dce34945a1d344f232293505884c721539a2dc7640db836482c9d73757", func := "pintle/pintlelaw15.LirLong", spec := "lirLong", apart := false, narrowed := true }
def LirLongUptoSaid : Prop := lirLongUptoRow.holds Try.pinned (OpenSpec.upto lirLongSpec)

/-- 'pintlelaw15.LirChecks', WHERE WHAT IT READS IS OF BULK AT MOST 1048576: true; the input reads as it did. -/
def lirChecksUptoRow : OpenClaim := { program := "ytnhopdimhppnmaa", sum := "e43e08dce34945a1d344f232293505884c721539a2dc7640db836482c9d73757", func := "pintle/pintlelaw15.LirChecks", spec := "lirChecks", apart := false, narrowed := true }
def LirChecksUptoSaid : Prop := lirChecksUptoRow.holds Try.pinned (OpenSpec.upto lirChecksSpec)

/-- 'pintlelaw05.MemTargets', WHERE WHAT IT READS IS OF BULK AT MOST 1048576: true; the input reads as it did. -/
def memTargetsUptoRow : OpenClaim := { program := "ytnhopdimhppnmaa", sum := "e43e08dce34945a1d344f232293505884c721539a2dc7640db836482c9d73757", func := "pintle/pintlelaw05.MemTargets", spec := "memTargets", apart := false, narrowed := true }
def MemTargetsUptoSaid : Prop := memTargetsUptoRow.holds Try.pinned (OpenSpec.upto memTargetsSpec)

/-- 'pintlelaw05.MemNone', WHERE WHAT IT READS IS OF BULK AT MOST 1048576: true; the input reads as it did. -/
def memNoneUptoRow : OpenClaim := { program := "ytnhopdimhppnmaa", sum := "e43e08dce34945a1d344f232293505884c721539a2dc7640db836482c9d73757", func := "pintle/pintlelaw05.MemNone", spec := "memNone", apart := false, narrowed := true }
def MemNoneUptoSaid : Prop := memNoneUptoRow.holds Try.pinned (OpenSpec.upto memNoneSpec)

/-- 'pintlelaw05.MemBounds', WHERE WHAT IT READS IS OF BULK AT MOST 1048576: true; the input reads as it did. -/
def memBoundsUptoRow : OpenClaim := { program := "ytnhopdimhppnmaa", sum := "e43e08dce34945a1d344f232293505884c721539a2dc7640db836482c9d73757", func := "pintle/pintlelaw05.MemBounds", spec := "memBounds", apart := false, narrowed := true }
def MemBoundsUptoSaid : Prop := memBoundsUptoRow.holds Try.pinned (OpenSpec.upto memBoundsSpec)

end Rows
end Go.Proofs.Ytnhopdimhppnmaa
