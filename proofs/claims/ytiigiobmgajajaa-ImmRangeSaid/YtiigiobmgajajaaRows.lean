/-
  No cell of these rows narrows 'for every input' (looked for: loops, veiled, ifaces, maps, wideKeys, modest, calm, conditions, laid).
  DERIVED. THE GIVEN ROWS OF THIS SEAT. 11 by the template 'for every input the law returns true; each argument reads behind the call as it read before'; 0 by the template 'total and deterministic' (their statements: YtiigiobmgajajaaTotals.lean).
  GIVEN WITH THE SEED: the statements are not yours to turn. If you find one false, say at which input.
  Laid BY PROGRAM, IN A SANDBOX (cutbox-rows.mjs): the forced cells as the released guide's own fill.sh prints them over the translation 4788ed155bf55a57… (all of the seat's roots in one cut). By AI agents, Wed Nov 11 2026. No macro, syntax, notation, axiom, sorry.
-/
import Derived.Test.YtiigiobmgajajaaChecked
import GoSem.Claim
import GoSem.ClaimJoined
import GoSem.ClaimMapViews
import Derived.JoinedTies
import Derived.KernelRfl
namespace Go.Proofs.Ytiigiobmgajajaa
/- THE CELL 'sum', in the pinned program and in every row, IS THE sha256 OF THE DUMP (.gsa) THAT YtiigiobmgajajaaProg.lean LOADS. Nothing in Lean hashes anything: it is a label: what it is worth is what the hold of that sum in a sandbox is worth. -/
noncomputable def Try.pinned : Pinned := { name := "ytiigiobmgajajaa", sum := "4788ed155bf55a578e08dbab0822b3835cf1ec4d767b062aad581c4acba2f2dd", checked := Try.checked }
namespace Rows
def none {H : Type} : Left H := { results := [], args := [] }

/-- 'pintlelaw01.NumPlain': WHATEVER THE INPUT: true; the input reads as it did. -/
def numPlainSpec : ChangeSpec := { name := "numPlain", fn := fun _ => fun
  | [d1, d2, d3] => { results := [.lit (.bool true)], args := [d1, d2, d3] }
  | _ => none }
def numPlainRow : OpenClaim := { program := "ytiigiobmgajajaa", sum := "4788ed155bf55a578e08dbab0822b3835cf1ec4d767b062aad581c4acba2f2dd", func := "pintle/pintlelaw01.NumPlain", spec := "numPlain", apart := false }
def NumPlainSaid : Prop := numPlainRow.holds Try.pinned (OpenSpec.ofChange numPlainSpec)

/-- ITS FALSE NEIGHBOUR: 'it returns false'. Refute it at one input. -/
def numPlainWrong : ChangeSpec := { name := "numPlain", fn := fun _ => fun
  | [d1, d2, d3] => { results := [.lit (.bool false)], args := [d1, d2, d3] }
  | _ => none }
def NumPlainWrongFalsely : Prop := numPlainRow.holds Try.pinned (OpenSpec.ofChange numPlainWrong)

/-- 'pintlelaw01.NumProducts': WHATEVER THE INPUT: true; the input reads as it did. -/
def numProductsSpec : ChangeSpec := { name := "numProducts", fn := fun _ => fun
  | [d1, d2, d3] => { results := [.lit (.bool true)], args := [d1, d2, d3] }
  | _ => none }
def numProductsRow : OpenClaim := { program := "ytiigiobmgajajaa", sum := "4788ed155bf55a578e08dbab0822b3835cf1ec4d767b062aad581c4acba2f2dd", func := "pintle/pintlelaw01.NumProducts", spec := "numProducts", apart := false }
def NumProductsSaid : Prop := numProductsRow.holds Try.pinned (OpenSpec.ofChange numProductsSpec)

/-- ITS FALSE NEIGHBOUR: 'it returns false'. Refute it at one input. -/
def numProductsWrong : ChangeSpec := { name := "numProducts", fn := fun _ => fun
  | [d1, d2, d3] => { results := [.lit (.bool false)], args := [d1, d2, d3] }
  | _ => none }
def NumProductsWrongFalsely : Prop := numProductsRow.holds Try.pinned (OpenSpec.ofChange numProductsWrong)

/-- 'pintlelaw01.NumQuotients': WHATEVER THE INPUT: true; the input reads as it did. -/
def numQuotientsSpec : ChangeSpec := { name := "numQuotients", fn := fun _ => fun
  | [d1, d2, d3] => { results := [.lit (.bool true)], args := [d1, d2, d3] }
  | _ => none }
def numQuotientsRow : OpenClaim := { program := "ytiigiobmgajajaa", sum := "4788ed155bf55a578e08dbab0822b3835cf1ec4d767b062aad581c4acba2f2dd", func := "pintle/pintlelaw01.NumQuotients", spec := "numQuotients", apart := false }
def NumQuotientsSaid : Prop := numQuotientsRow.holds Try.pinned (OpenSpec.ofChange numQuotientsSpec)

/-- ITS FALSE NEIGHBOUR: 'it returns false'. Refute it at one input. -/
def numQuotientsWrong : ChangeSpec := { name := "numQuotients", fn := fun _ => fun
  | [d1, d2, d3] => { results := [.lit (.bool false)], args := [d1, d2, d3] }
  | _ => none }
def NumQuotientsWrongFalsely : Prop := numQuotientsRow.holds Try.pinned (OpenSpec.ofChange numQuotientsWrong)

/-- 'pintlelaw01.NumOthers': WHATEVER THE INPUT: true; the input reads as it did. -/
def numOthersSpec : ChangeSpec := { name := "numOthers", fn := fun _ => fun
  | [d1, d2, d3] => { results := [.lit (.bool true)], args := [d1, d2, d3] }
  | _ => none }
def numOthersRow : OpenClaim := { program := "ytiigiobmgajajaa", sum := "4788ed155bf55a578e08dbab0822b3835cf1ec4d767b062aad581c4acba2f2dd", func := "pintle/pintlelaw01.NumOthers", spec := "numOthers", apart := false }
def NumOthersSaid : Prop := numOthersRow.holds Try.pinned (OpenSpec.ofChange numOthersSpec)

/-- ITS FALSE NEIGHBOUR: 'it returns false'. Refute it at one input. -/
def numOthersWrong : ChangeSpec := { name := "numOthers", fn := fun _ => fun
  | [d1, d2, d3] => { results := [.lit (.bool false)], args := [d1, d2, d3] }
  | _ => none }
def NumOthersWrongFalsely : Prop := numOthersRow.holds Try.pinned (OpenSpec.ofChange numOthersWrong)

/-- 'pintlelaw01.NumSigns': WHATEVER THE INPUT: true; the input reads as it did. -/
def numSignsSpec : ChangeSpec := { name := "numSigns", fn := fun _ => fun
  | [d1, d2] => { results := [.lit (.bool true)], args := [d1, d2] }
  | _ => none }
def numSignsRow : OpenClaim := { program := "ytiigiobmgajajaa", sum := "4788ed155bf55a578e08dbab0822b3835cf1ec4d767b062aad581c4acba2f2dd", func := "pintle/pintlelaw01.NumSigns", spec := "numSigns", apart := false }
def NumSignsSaid : Prop := numSignsRow.holds Try.pinned (OpenSpec.ofChange numSignsSpec)

/-- ITS FALSE NEIGHBOUR: 'it returns false'. Refute it at one input. -/
def numSignsWrong : ChangeSpec := { name := "numSigns", fn := fun _ => fun
  | [d1, d2] => { results := [.lit (.bool false)], args := [d1, d2] }
  | _ => none }
def NumSignsWrongFalsely : Prop := numSignsRow.holds Try.pinned (OpenSpec.ofChange numSignsWrong)

/-- 'pintlelaw01.NumWhole': WHATEVER THE INPUT: true; the input reads as it did. -/
def numWholeSpec : ChangeSpec := { name := "numWhole", fn := fun _ => fun
  | [d1, d2] => { results := [.lit (.bool true)], args := [d1, d2] }
  | _ => none }
def numWholeRow : OpenClaim := { program := "ytiigiobmgajajaa", sum := "4788ed155bf55a578e08dbab0822b3835cf1ec4d767b062aad581c4acba2f2dd", func := "pintle/pintlelaw01.NumWhole", spec := "numWhole", apart := false }
def NumWholeSaid : Prop := numWholeRow.holds Try.pinned (OpenSpec.ofChange numWholeSpec)

/-- ITS FALSE NEIGHBOUR: 'it returns false'. Refute it at one input. -/
def numWholeWrong : ChangeSpec := { name := "numWhole", fn := fun _ => fun
  | [d1, d2] => { results := [.lit (.bool false)], args := [d1, d2] }
  | _ => none }
def NumWholeWrongFalsely : Prop := numWholeRow.holds Try.pinned (OpenSpec.ofChange numWholeWrong)

/-- 'pintlelaw01.NumHalves': WHATEVER THE INPUT: true; the input reads as it did. -/
def numHalvesSpec : ChangeSpec := { name := "numHalves", fn := fun _ => fun
  | [d1, d2] => { results := [.lit (.bool true)], args := [d1, d2] }
  | _ => none }
def numHalvesRow : OpenClaim := { program := "ytiigiobmgajajaa", sum := "4788ed155bf55a578e08dbab0822b3835cf1ec4d767b062aad581c4acba2f2dd", func := "pintle/pintlelaw01.NumHalves", spec := "numHalves", apart := false }
def NumHalvesSaid : Prop := numHalvesRow.holds Try.pinned (OpenSpec.ofChange numHalvesSpec)

/-- ITS FALSE NEIGHBOUR: 'it returns false'. Refute it at one input. -/
def numHalvesWrong : ChangeSpec := { name := "numHalves", fn := fun _ => fun
  | [d1, d2] => { results := [.lit (.bool false)], args := [d1, d2] }
  | _ => none }
def NumHalvesWrongFalsely : Prop := numHalvesRow.holds Try.pinned (OpenSpec.ofChange numHalvesWrong)

/-- 'pintlelaw02.ImmGets': WHATEVER THE INPUT: true; the input reads as it did. -/
def immGetsSpec : ChangeSpec := { name := "immGets", fn := fun _ => fun
  | [d1, d2] => { results := [.lit (.bool true)], args := [d1, d2] }
  | _ => none }
def immGetsRow : OpenClaim := { program := "ytiigiobmgajajaa", sum := "4788ed155bf55a578e08dbab0822b3835cf1ec4d767b062aad581c4acba2f2dd", func := "pintle/pintlelaw02.ImmGets", spec := "immGets", apart := false }
def ImmGetsSaid : Prop := immGetsRow.holds Try.pinned (OpenSpec.ofChange immGetsSpec)

/-- ITS FALSE NEIGHBOUR: 'it returns false'. Refute it at one input. -/
def immGetsWrong : ChangeSpec := { name := "immGets", fn := fun _ => fun
  | [d1, d2] => { results := [.lit (.bool false)], args := [d1, d2] }
  | _ => none }
def ImmGetsWrongFalsely : Prop := immGetsRow.holds Try.pinned (OpenSpec.ofChange immGetsWrong)

/-- 'pintlelaw02.ImmPuts': WHATEVER THE INPUT: true; the input reads as it did. -/
def immPutsSpec : ChangeSpec := { name := "immPuts", fn := fun _ => fun
  | [d1, d2] => { results := [.lit (.bool true)], args := [d1, d2] }
  | _ => none }
def immPutsRow : OpenClaim := { program := "ytiigiobmgajajaa", sum := "4788ed155bf55a578e08dbab0822b3835cf1ec4d767b062aad581c4acba2f2dd", func := "pintle/pintlelaw02.ImmPuts", spec := "immPuts", apart := false }
def ImmPutsSaid : Prop := immPutsRow.holds Try.pinned (OpenSpec.ofChange immPutsSpec)

/-- ITS FALSE NEIGHBOUR: 'it returns false'. Refute it at one input. -/
def immPutsWrong : ChangeSpec := { name := "immPuts", fn := fun _ => fun
  | [d1, d2] => { results := [.lit (.bool false)], args := [d1, d2] }
  | _ => none }
def ImmPutsWrongFalsely : Prop := immPutsRow.holds Try.pinned (OpenSpec.ofChange immPutsWrong)

/-- 'pintlelaw02.ImmBack': WHATEVER THE INPUT: true; the input reads as it did. -/
def immBackSpec : ChangeSpec := { name := "immBack", fn := fun _ => fun
  | [d1, d2] => { results := [.lit (.bool true)], args := [d1, d2] }
  | _ => none }
def immBackRow : OpenClaim := { program := "ytiigiobmgajajaa", sum := "4788ed155bf55a578e08dbab0822b3835cf1ec4d767b062aad581c4acba2f2dd", func := "pintle/pintlelaw02.ImmBack", spec := "immBack", apart := false }
def ImmBackSaid : Prop := immBackRow.holds Try.pinned (OpenSpec.ofChange immBackSpec)

/-- ITS FALSE NEIGHBOUR: 'it returns false'. Refute it at one input. -/
def immBackWrong : ChangeSpec := { name := "immBack", fn := fun _ => fun
  | [d1, d2] => { results := [.lit (.bool false)], args := [d1, d2] }
  | _ => none }
def ImmBackWrongFalsely : Prop := immBackRow.holds Try.pinned (OpenSpec.ofChange immBackWrong)

/-- 'pintlelaw02.ImmRange': WHATEVER THE INPUT: true; the input reads as it did. -/
def immRangeSpec : ChangeSpec := { name := "immRange", fn := fun _ => fun
  | [d1, d2] => { results := [.lit (.bool true)], args := [d1, d2] }
  | _ => none }
def immRangeRow : OpenClaim := { program := "ytiigiobmgajajaa", sum := "4788ed155bf55a578e08dbab0822b3835cf1ec4d767b062aad581c4acba2f2dd", func := "pintle/pintlelaw02.ImmRange", spec := "immRange", apart := false }
def ImmRangeSaid : Prop := immRangeRow.holds Try.pinned (OpenSpec.ofChange immRangeSpec)

/-- ITS FALSE NEIGHBOUR: 'it returns false'. Refute it at one input. -/
def immRangeWrong : ChangeSpec := { name := "immRange", fn := fun _ => fun
  | [d1, d2] => { results := [.lit (.bool false)], args := [d1, d2] }
  | _ => none }
def ImmRangeWrongFalsely : Prop := immRangeRow.holds Try.pinned (OpenSpec.ofChange immRangeWrong)

/- THE SECOND FORM. 'bulk': how many values and letters a reading holds, each counted each time it is reached (what is shared counts as often as it is met; a slice's spare places count too). A statement '..UptoSaid' is the law's where the arguments, and the package variables that the reading takes, are together of bulk at most 1048576: NARROWER than '..Said'. Prove '..Said' where nothing that the law and all that it calls make is longer than what came in: it says more and counts as full. Else prove '..UptoSaid'. A law counts once. -/
mutual
def uptoBulk {H : Type} : DataW H → Nat
  | .lit (.string bytes) => bytes.length + 1
  | .lit _ => 1
  | .nil => 1
  | .ptr d => uptoBulk d + 1
  | .slice elems spare => uptoBulkAll elems + uptoBulkAll spare + 1
  | .agg parts => uptoBulkAll parts + 1
  | .iface _ d => uptoBulk d + 1
  | .map entries => uptoBulkEntries entries + 1
  | .held _ => 1
def uptoBulkAll {H : Type} : List (DataW H) → Nat
  | [] => 0
  | d :: r => uptoBulk d + uptoBulkAll r
def uptoBulkEntries {H : Type} : List (Lit × DataW H) → Nat
  | [] => 0
  | x :: r => uptoBulkEntry x + uptoBulkEntries r
def uptoBulkEntry {H : Type} : Lit × DataW H → Nat
  | (.string bytes, d) => bytes.length + uptoBulk d + 1
  | (_, d) => uptoBulk d + 1
 end
def uptoSmall : (H : Type) → List (DataW H) → Bool := fun _ ds => decide (uptoBulkAll ds ≤ 1048576)
def OpenSpec.upto (s : _root_.Go.ChangeSpec) : _root_.Go.OpenSpec := { _root_.Go.OpenSpec.ofChange s with cond := some uptoSmall }

/-- 'pintlelaw01.NumPlain', WHERE WHAT IT READS IS OF BULK AT MOST 1048576: true; the input reads as it did. -/
def numPlainUptoRow : OpenClaim := { program := "ytiigiobmgajajaa", sum := "4788ed155bf55a578e08dbab0822b3835cf1ec4d767b062aad581c4acba2f2dd", func := "pintle/pintlelaw01.NumPlain", spec := "numPlain", apart := false, narrowed := true }
def NumPlainUptoSaid : Prop := numPlainUptoRow.holds Try.pinned (OpenSpec.upto numPlainSpec)

/-- 'pintlelaw01.NumProducts', WHERE WHAT IT READS IS OF BULK AT MOST 1048576: true; the input reads as it did. -/
def numProductsUptoRow : OpenClaim := { program := "ytiigiobmgajajaa", sum := "4788ed155bf55a578e08dbab0822b3835cf1ec4d767b062aad581c4acba2f2dd", func := "pintle/pintlelaw01.NumProducts", spec := "numProducts", apart := false, narrowed := true }
def NumProductsUptoSaid : Prop := numProductsUptoRow.holds Try.pinned (OpenSpec.upto numProductsSpec)

/-- 'pintlelaw01.NumQuotients', WHERE WHAT IT READS IS OF BULK AT MOST 1048576: true; the input reads as it did. -/
def numQuotientsUptoRow : OpenClaim := { program := "ytiigiobmgajajaa", sum := "4788ed155bf55a578e08dbab0822b3835cf1ec4d767b062aad581c4acba2f2dd", func := "pintle/pintlelaw01.NumQuotients", spec := "numQuotients", apart := false, narrowed := true }
def NumQuotientsUptoSaid : Prop := numQuotientsUptoRow.holds Try.pinned (OpenSpec.upto numQuotientsSpec)

/-- 'pintlelaw01.NumOthers', WHERE WHAT IT READS IS OF BULK AT MOST 1048576: true; the input reads as it did. -/
def numOthersUptoRow : OpenClaim := { program := "ytiigiobmgajajaa", sum := "4788ed155bf55a578e08dbab0822b3835cf1ec4d767b062aad581c4acba2f2dd", func := "pintle/pintlelaw01.NumOthers", spec := "numOthers", apart := false, narrowed := true }
def NumOthersUptoSaid : Prop := numOthersUptoRow.holds Try.pinned (OpenSpec.upto numOthersSpec)

/-- 'pintlelaw01.NumSigns', WHERE WHAT IT READS IS OF BULK AT MOST 1048576: true; the input reads as it did. -/
def numSignsUptoRow : OpenClaim := { program := "ytiigiobmgajajaa", sum := "4788ed155bf55a578e08dbab0822b3835cf1ec4d767b062aad581c4acba2f2dd", func := "pintle/pintlelaw01.NumSigns", spec := "numSigns", apart := false, narrowed := true }
def NumSignsUptoSaid : Prop := numSignsUptoRow.holds Try.pinned (OpenSpec.upto numSignsSpec)

/-- 'pintlelaw01.NumWhole', WHERE WHAT IT READS IS OF BULK AT MOST 1048576: true; the input reads as it did. -/
def numWholeUptoRow : OpenClaim := { program := "ytiigiobmgajajaa", sum := "4788ed155bf55a578e08dbab0822b3835cf1ec4d767b062aad581c4acba2f2dd", func := "pintle/pintlelaw01.NumWhole", spec := "numWhole", apart := false, narrowed := true }
def NumWholeUptoSaid : Prop := numWholeUptoRow.holds Try.pinned (OpenSpec.upto numWholeSpec)

/-- 'pintlelaw01.NumHalves', WHERE WHAT IT READS IS OF BULK AT MOST 1048576: true; the input reads as it did. -/
def numHalvesUptoRow : OpenClaim := { program := "ytiigiobmgajajaa", sum := "4788ed155bf55a578e08dbab0822b3835cf1ec4d767b062aad581c4acba2f2dd", func := "pintle/pintlelaw01.NumHalves", spec := "numHalves", apart := false, narrowed := true }
def NumHalvesUptoSaid : Prop := numHalvesUptoRow.holds Try.pinned (OpenSpec.upto numHalvesSpec)

/-- 'pintlelaw02.ImmGets', WHERE WHAT IT READS IS OF BULK AT MOST 1048576: true; the input reads as it did. -/
def immGetsUptoRow : OpenClaim := { program := "ytiigiobmgajajaa", sum := "4788ed155bf55a578e08dbab0822b3835cf1ec4d767b062aad581c4acba2f2dd", func := "pintle/pintlelaw02.ImmGets", spec := "immGets", apart := false, narrowed := true }
def ImmGetsUptoSaid : Prop := immGetsUptoRow.holds Try.pinned (OpenSpec.upto immGetsSpec)

/-- 'pintlelaw02.ImmPuts', WHERE WHAT IT READS IS OF BULK AT MOST 1048576: true; the input reads as it did. -/
def immPutsUptoRow : OpenClaim := { program := "ytiigiobmgajajaa", sum := "4788ed155bf55a578e08dbab0822b3835cf1ec4d767b062aad581c4acba2f2dd", func := "pintle/pintlelaw02.ImmPuts", spec := "immPuts", apart := false, narrowed := true }
def ImmPutsUptoSaid : Prop := immPutsUptoRow.holds Try.pinned (OpenSpec.upto immPutsSpec)

/-- 'pintlelaw02.ImmBack', WHERE WHAT IT READS IS OF BULK AT MOST 1048576: true; the input reads as it did. -/
def immBackUptoRow : OpenClaim := { program := "ytiigiobmgajajaa", sum := "4788ed155bf55a578e08dbab0822b3835cf1ec4d767b062aad581c4acba2f2dd", func := "pintle/pintlelaw02.ImmBack", spec := "immBack", apart := false, narrowed := true }
def ImmBackUptoSaid : Prop := immBackUptoRow.holds Try.pinned (OpenSpec.upto immBackSpec)

/-- 'pintlelaw02.ImmRange', WHERE WHAT IT READS IS OF BULK AT MOST 1048576: true; the input reads as it did. -/
def immRangeUptoRow : OpenClaim := { program := "ytiigiobmgajajaa", sum := "4788ed155bf55a578e08dbab0822b3835cf1ec4d767b062aad581c4acba2f2dd", func := "pintle/pintlelaw02.ImmRange", spec := "immRange", apart := false, narrowed := true }
def ImmRangeUptoSaid : Prop := immRangeUptoRow.holds Try.pinned (OpenSpec.upto immRangeSpec)

end Rows
end Go.Proofs.Ytiigiobmgajajaa
