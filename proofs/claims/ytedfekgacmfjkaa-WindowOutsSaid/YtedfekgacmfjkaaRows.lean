/-
  No cell of these rows narrows 'for every input' (looked for: loops, veiled, ifaces, maps, wideKeys, modest, calm, conditions, laid).
  DERIVED. THE GIVEN ROWS OF THIS SEAT. 12 by the template 'for every input the law returns true; each argument reads behind the call as it read before'; 0 by the template 'total and deterministic' (their statements: YtedfekgacmfjkaaTotals.lean).
  GIVEN WITH THE SEED: the statements are not yours to turn. If you find one false, say at which input.
  Laid BY PROGRAM, IN A SANDBOX (cutbox-rows.mjs): the forced cells as the released guide's own fill.sh prints them over the translation 463b7f2ff6f25d6c… (all of the seat's roots in one cut). By AI agents, Wed Nov 11 2026. No macro, syntax, notation, axiom, sorry.
-/
import Derived.Test.YtedfekgacmfjkaaChecked
import GoSem.Claim
import GoSem.ClaimJoined
import GoSem.ClaimMapViews
import Derived.JoinedTies
import Derived.KernelRfl
namespace Go.Proofs.Ytedfekgacmfjkaa
/- THE CELL 'sum', in the pinned program and in every row, IS THE sha256 OF THE DUMP (.gsa) THAT YtedfekgacmfjkaaProg.lean LOADS. Nothing in Lean hashes anything: it is a label: what it is worth is what the hold of that sum in a sandbox is worth. -/
noncomputable def Try.pinned : Pinned := { name := "ytedfekgacmfjkaa", sum := "463b7f2ff6f25d6c59f828d92d00e098178f5bcbf37310530c859ca3fd54dcc8", checked := Try.checked }
namespace Rows
def none {H : Type} : Left H := { results := [], args := [] }

/-- 'pintlelaw21.TensorSizes': WHATEVER THE INPUT: true; the input reads as it did. -/
def tensorSizesSpec : ChangeSpec := { name := "tensorSizes", fn := fun _ => fun
  | [d] => { results := [.lit (.bool true)], args := [d] }
  | _ => none }
def tensorSizesRow : OpenClaim := { program := "ytedfekgacmfjkaa", sum := "463b7f2ff6f25d6c59f828d92d00e098178f5bcbf37310530c859ca3fd54dcc8", func := "pintle/pintlelaw21.TensorSizes", spec := "tensorSizes", apart := false }
def TensorSizesSaid : Prop := tensorSizesRow.holds Try.pinned (OpenSpec.ofChange tensorSizesSpec)

/-- ITS FALSE NEIGHBOUR: 'it returns false'. Refute it at one input. -/
def tensorSizesWrong : ChangeSpec := { name := "tensorSizes", fn := fun _ => fun
  | [d] => { results := [.lit (.bool false)], args := [d] }
  | _ => none }
def TensorSizesWrongFalsely : Prop := tensorSizesRow.holds Try.pinned (OpenSpec.ofChange tensorSizesWrong)

/-- 'pintlelaw21.TensorAt': WHATEVER THE INPUT: true; the input reads as it did. -/
def tensorAtSpec : ChangeSpec := { name := "tensorAt", fn := fun _ => fun
  | [d1, d2] => { results := [.lit (.bool true)], args := [d1, d2] }
  | _ => none }
def tensorAtRow : OpenClaim := { program := "ytedfekgacmfjkaa", sum := "463b7f2ff6f25d6c59f828d92d00e098178f5bcbf37310530c859ca3fd54dcc8", func := "pintle/pintlelaw21.TensorAt", spec := "tensorAt", apart := false }
def TensorAtSaid : Prop := tensorAtRow.holds Try.pinned (OpenSpec.ofChange tensorAtSpec)

/-- ITS FALSE NEIGHBOUR: 'it returns false'. Refute it at one input. -/
def tensorAtWrong : ChangeSpec := { name := "tensorAt", fn := fun _ => fun
  | [d1, d2] => { results := [.lit (.bool false)], args := [d1, d2] }
  | _ => none }
def TensorAtWrongFalsely : Prop := tensorAtRow.holds Try.pinned (OpenSpec.ofChange tensorAtWrong)

/-- 'pintlelaw21.TensorOf': WHATEVER THE INPUT: true; the input reads as it did. -/
def tensorOfSpec : ChangeSpec := { name := "tensorOf", fn := fun _ => fun
  | [d1, d2] => { results := [.lit (.bool true)], args := [d1, d2] }
  | _ => none }
def tensorOfRow : OpenClaim := { program := "ytedfekgacmfjkaa", sum := "463b7f2ff6f25d6c59f828d92d00e098178f5bcbf37310530c859ca3fd54dcc8", func := "pintle/pintlelaw21.TensorOf", spec := "tensorOf", apart := false }
def TensorOfSaid : Prop := tensorOfRow.holds Try.pinned (OpenSpec.ofChange tensorOfSpec)

/-- ITS FALSE NEIGHBOUR: 'it returns false'. Refute it at one input. -/
def tensorOfWrong : ChangeSpec := { name := "tensorOf", fn := fun _ => fun
  | [d1, d2] => { results := [.lit (.bool false)], args := [d1, d2] }
  | _ => none }
def TensorOfWrongFalsely : Prop := tensorOfRow.holds Try.pinned (OpenSpec.ofChange tensorOfWrong)

/-- 'pintlelaw21.TensorJoins': WHATEVER THE INPUT: true; the input reads as it did. -/
def tensorJoinsSpec : ChangeSpec := { name := "tensorJoins", fn := fun _ => fun
  | [d1, d2] => { results := [.lit (.bool true)], args := [d1, d2] }
  | _ => none }
def tensorJoinsRow : OpenClaim := { program := "ytedfekgacmfjkaa", sum := "463b7f2ff6f25d6c59f828d92d00e098178f5bcbf37310530c859ca3fd54dcc8", func := "pintle/pintlelaw21.TensorJoins", spec := "tensorJoins", apart := false }
def TensorJoinsSaid : Prop := tensorJoinsRow.holds Try.pinned (OpenSpec.ofChange tensorJoinsSpec)

/-- ITS FALSE NEIGHBOUR: 'it returns false'. Refute it at one input. -/
def tensorJoinsWrong : ChangeSpec := { name := "tensorJoins", fn := fun _ => fun
  | [d1, d2] => { results := [.lit (.bool false)], args := [d1, d2] }
  | _ => none }
def TensorJoinsWrongFalsely : Prop := tensorJoinsRow.holds Try.pinned (OpenSpec.ofChange tensorJoinsWrong)

/-- 'pintlelaw12.PseudoSets': WHATEVER THE INPUT: true; the input reads as it did. -/
def pseudoSetsSpec : ChangeSpec := { name := "pseudoSets", fn := fun _ => fun
  | [d1, d2] => { results := [.lit (.bool true)], args := [d1, d2] }
  | _ => none }
def pseudoSetsRow : OpenClaim := { program := "ytedfekgacmfjkaa", sum := "463b7f2ff6f25d6c59f828d92d00e098178f5bcbf37310530c859ca3fd54dcc8", func := "pintle/pintlelaw12.PseudoSets", spec := "pseudoSets", apart := false }
def PseudoSetsSaid : Prop := pseudoSetsRow.holds Try.pinned (OpenSpec.ofChange pseudoSetsSpec)

/-- ITS FALSE NEIGHBOUR: 'it returns false'. Refute it at one input. -/
def pseudoSetsWrong : ChangeSpec := { name := "pseudoSets", fn := fun _ => fun
  | [d1, d2] => { results := [.lit (.bool false)], args := [d1, d2] }
  | _ => none }
def PseudoSetsWrongFalsely : Prop := pseudoSetsRow.holds Try.pinned (OpenSpec.ofChange pseudoSetsWrong)

/-- 'pintlelaw12.PseudoAdds': WHATEVER THE INPUT: true; the input reads as it did. -/
def pseudoAddsSpec : ChangeSpec := { name := "pseudoAdds", fn := fun _ => fun
  | [d1, d2] => { results := [.lit (.bool true)], args := [d1, d2] }
  | _ => none }
def pseudoAddsRow : OpenClaim := { program := "ytedfekgacmfjkaa", sum := "463b7f2ff6f25d6c59f828d92d00e098178f5bcbf37310530c859ca3fd54dcc8", func := "pintle/pintlelaw12.PseudoAdds", spec := "pseudoAdds", apart := false }
def PseudoAddsSaid : Prop := pseudoAddsRow.holds Try.pinned (OpenSpec.ofChange pseudoAddsSpec)

/-- ITS FALSE NEIGHBOUR: 'it returns false'. Refute it at one input. -/
def pseudoAddsWrong : ChangeSpec := { name := "pseudoAdds", fn := fun _ => fun
  | [d1, d2] => { results := [.lit (.bool false)], args := [d1, d2] }
  | _ => none }
def PseudoAddsWrongFalsely : Prop := pseudoAddsRow.holds Try.pinned (OpenSpec.ofChange pseudoAddsWrong)

/-- 'pintlelaw12.PseudoMoves': WHATEVER THE INPUT: true; the input reads as it did. -/
def pseudoMovesSpec : ChangeSpec := { name := "pseudoMoves", fn := fun _ => fun
  | [d1, d2, d3] => { results := [.lit (.bool true)], args := [d1, d2, d3] }
  | _ => none }
def pseudoMovesRow : OpenClaim := { program := "ytedfekgacmfjkaa", sum := "463b7f2ff6f25d6c59f828d92d00e098178f5bcbf37310530c859ca3fd54dcc8", func := "pintle/pintlelaw12.PseudoMoves", spec := "pseudoMoves", apart := false }
def PseudoMovesSaid : Prop := pseudoMovesRow.holds Try.pinned (OpenSpec.ofChange pseudoMovesSpec)

/-- ITS FALSE NEIGHBOUR: 'it returns false'. Refute it at one input. -/
def pseudoMovesWrong : ChangeSpec := { name := "pseudoMoves", fn := fun _ => fun
  | [d1, d2, d3] => { results := [.lit (.bool false)], args := [d1, d2, d3] }
  | _ => none }
def PseudoMovesWrongFalsely : Prop := pseudoMovesRow.holds Try.pinned (OpenSpec.ofChange pseudoMovesWrong)

/-- 'pintlelaw12.PseudoFew': WHATEVER THE INPUT: true; the input reads as it did. -/
def pseudoFewSpec : ChangeSpec := { name := "pseudoFew", fn := fun _ => fun
  | [d] => { results := [.lit (.bool true)], args := [d] }
  | _ => none }
def pseudoFewRow : OpenClaim := { program := "ytedfekgacmfjkaa", sum := "463b7f2ff6f25d6c59f828d92d00e098178f5bcbf37310530c859ca3fd54dcc8", func := "pintle/pintlelaw12.PseudoFew", spec := "pseudoFew", apart := false }
def PseudoFewSaid : Prop := pseudoFewRow.holds Try.pinned (OpenSpec.ofChange pseudoFewSpec)

/-- ITS FALSE NEIGHBOUR: 'it returns false'. Refute it at one input. -/
def pseudoFewWrong : ChangeSpec := { name := "pseudoFew", fn := fun _ => fun
  | [d] => { results := [.lit (.bool false)], args := [d] }
  | _ => none }
def PseudoFewWrongFalsely : Prop := pseudoFewRow.holds Try.pinned (OpenSpec.ofChange pseudoFewWrong)

/-- 'pintlelaw20.QuantScales': WHATEVER THE INPUT: true; the input reads as it did. -/
def quantScalesSpec : ChangeSpec := { name := "quantScales", fn := fun _ => fun
  | [d1, d2, d3] => { results := [.lit (.bool true)], args := [d1, d2, d3] }
  | _ => none }
def quantScalesRow : OpenClaim := { program := "ytedfekgacmfjkaa", sum := "463b7f2ff6f25d6c59f828d92d00e098178f5bcbf37310530c859ca3fd54dcc8", func := "pintle/pintlelaw20.QuantScales", spec := "quantScales", apart := false }
def QuantScalesSaid : Prop := quantScalesRow.holds Try.pinned (OpenSpec.ofChange quantScalesSpec)

/-- ITS FALSE NEIGHBOUR: 'it returns false'. Refute it at one input. -/
def quantScalesWrong : ChangeSpec := { name := "quantScales", fn := fun _ => fun
  | [d1, d2, d3] => { results := [.lit (.bool false)], args := [d1, d2, d3] }
  | _ => none }
def QuantScalesWrongFalsely : Prop := quantScalesRow.holds Try.pinned (OpenSpec.ofChange quantScalesWrong)

/-- 'pintlelaw20.QuantOrder': WHATEVER THE INPUT: true; the input reads as it did. -/
def quantOrderSpec : ChangeSpec := { name := "quantOrder", fn := fun _ => fun
  | [d1, d2, d3] => { results := [.lit (.bool true)], args := [d1, d2, d3] }
  | _ => none }
def quantOrderRow : OpenClaim := { program := "ytedfekgacmfjkaa", sum := "463b7f2ff6f25d6c59f828d92d00e098178f5bcbf37310530c859ca3fd54dcc8", func := "pintle/pintlelaw20.QuantOrder", spec := "quantOrder", apart := false }
def QuantOrderSaid : Prop := quantOrderRow.holds Try.pinned (OpenSpec.ofChange quantOrderSpec)

/-- ITS FALSE NEIGHBOUR: 'it returns false'. Refute it at one input. -/
def quantOrderWrong : ChangeSpec := { name := "quantOrder", fn := fun _ => fun
  | [d1, d2, d3] => { results := [.lit (.bool false)], args := [d1, d2, d3] }
  | _ => none }
def QuantOrderWrongFalsely : Prop := quantOrderRow.holds Try.pinned (OpenSpec.ofChange quantOrderWrong)

/-- 'pintlelaw39.PeepIdle': WHATEVER THE INPUT: true; the input reads as it did. -/
def peepIdleSpec : ChangeSpec := { name := "peepIdle", fn := fun _ => fun
  | [d] => { results := [.lit (.bool true)], args := [d] }
  | _ => none }
def peepIdleRow : OpenClaim := { program := "ytedfekgacmfjkaa", sum := "463b7f2ff6f25d6c59f828d92d00e098178f5bcbf37310530c859ca3fd54dcc8", func := "pintle/pintlelaw39.PeepIdle", spec := "peepIdle", recurses := true, apart := false }
def PeepIdleSaid : Prop := peepIdleRow.holds Try.pinned (OpenSpec.ofChange peepIdleSpec)

/-- ITS FALSE NEIGHBOUR: 'it returns false'. Refute it at one input. -/
def peepIdleWrong : ChangeSpec := { name := "peepIdle", fn := fun _ => fun
  | [d] => { results := [.lit (.bool false)], args := [d] }
  | _ => none }
def PeepIdleWrongFalsely : Prop := peepIdleRow.holds Try.pinned (OpenSpec.ofChange peepIdleWrong)

/-- 'pintlelaw22.WindowOuts': WHATEVER THE INPUT: true; the input reads as it did. -/
def windowOutsSpec : ChangeSpec := { name := "windowOuts", fn := fun _ => fun
  | [d] => { results := [.lit (.bool true)], args := [d] }
  | _ => none }
def windowOutsRow : OpenClaim := { program := "ytedfekgacmfjkaa", sum := "463b7f2ff6f25d6c59f828d92d00e098178f5bcbf37310530c859ca3fd54dcc8", func := "pintle/pintlelaw22.WindowOuts", spec := "windowOuts", apart := false }
def WindowOutsSaid : Prop := windowOutsRow.holds Try.pinned (OpenSpec.ofChange windowOutsSpec)

/-- ITS FALSE NEIGHBOUR: 'it returns false'. Refute it at one input. -/
def windowOutsWrong : ChangeSpec := { name := "windowOuts", fn := fun _ => fun
  | [d] => { results := [.lit (.bool false)], args := [d] }
  | _ => none }
def WindowOutsWrongFalsely : Prop := windowOutsRow.holds Try.pinned (OpenSpec.ofChange windowOutsWrong)

/- THE SECOND FORM. 'bulk': how many values and letters a reading holds, each counted each time it is reached (what is shared counts as often as it is met; a slice's spare places count too). A statement '..UptoSaid' is the law's where the arguments, and the package variables that the reading takes, are together of bulk at most 1048576: NARROWER than '..Said'. Prove '..Said' where nothing that the law and all that it calls make is longer than what came in: it says more and counts as full. Else prove '..UptoSaid'. A law counts once. -/
mutual
def uptoBulk {H : Type} : DataW H → Nat
  | .lit (.string bytes) => bytes.length + 1
  | .lit _ => 1
  | .nil => 1
  | .ptr d => uptoBulk d + 1
  | .slice elems spare => uptoBulkAll elems + uptoBulkAll spare + 1
  | .agg parts => uptoBulkAll parts + 1
  | .iface _ d => uptoBulk d + 1
  | .map entries => uptoBulkEntries entries + 1
  | .held _ => 1
def uptoBulkAll {H : Type} : List (DataW H) → Nat
  | [] => 0
  | d :: r => uptoBulk d + uptoBulkAll r
def uptoBulkEntries {H : Type} : List (Lit × DataW H) → Nat
  | [] => 0
  | x :: r => uptoBulkEntry x + uptoBulkEntries r
def uptoBulkEntry {H : Type} : Lit × DataW H → Nat
  | (.string bytes, d) => bytes.length + uptoBulk d + 1
  | (_, d) => uptoBulk d + 1
 end
def uptoSmall : (H : Type) → List (DataW H) → Bool := fun _ ds => decide (uptoBulkAll ds ≤ 1048576)
def OpenSpec.upto (s : _root_.Go.ChangeSpec) : _root_.Go.OpenSpec := { _root_.Go.OpenSpec.ofChange s with cond := some uptoSmall }

/-- 'pintlelaw21.TensorSizes', WHERE WHAT IT READS IS OF BULK AT MOST 1048576: true; the input reads as it did. -/
def tensorSizesUptoRow : OpenClaim := { program := "ytedfekgacmfjkaa", sum := "463b7f2ff6f25d6c59f828d92d00e098178f5bcbf37310530c859ca3fd54dcc8", func := "pintle/pintlelaw21.TensorSizes", spec := "tensorSizes", apart := false, narrowed := true }
def TensorSizesUptoSaid : Prop := tensorSizesUptoRow.holds Try.pinned (OpenSpec.upto tensorSizesSpec)

/-- 'pintlelaw21.TensorAt', WHERE WHAT IT READS IS OF BULK AT MOST 1048576: true; the input reads as it did. -/
def tensorAtUptoRow : OpenClaim := { program := "ytedfekgacmfjkaa", sum := "463b7f2ff6f25d6c59f828d92d00e098178f5bcbf37310530c859ca3fd54dcc8", func := "pintle/pintlelaw21.TensorAt", spec := "tensorAt", apart := false, narrowed := true }
def TensorAtUptoSaid : Prop := tensorAtUptoRow.holds Try.pinned (OpenSpec.upto tensorAtSpec)

/-- 'pintlelaw21.TensorOf', WHERE WHAT IT READS IS OF BULK AT MOST 1048576: true; the input reads as it did. -/
def tensorOfUptoRow : OpenClaim := { program := "ytedfekgacmfjkaa", sum := "463b7f2ff6f25d6c59f828d92d00e098178f5bcbf37310530c859ca3fd54dcc8", func := "pintle/pintlelaw21.TensorOf", spec := "tensorOf", apart := false, narrowed := true }
def TensorOfUptoSaid : Prop := tensorOfUptoRow.holds Try.pinned (OpenSpec.upto tensorOfSpec)

/-- 'pintlelaw21.TensorJoins', WHERE WHAT IT READS IS OF BULK AT MOST 1048576: true; the input reads as it did. -/
def tensorJoinsUptoRow : OpenClaim := { program := "ytedfekgacmfjkaa", sum := "463b7f2ff6f25d6c59f828d92d00e098178f5bcbf37310530c859ca3fd54dcc8", func := "pintle/pintlelaw21.TensorJoins", spec := "tensorJoins", apart := false, narrowed := true }
def TensorJoinsUptoSaid : Prop := tensorJoinsUptoRow.holds Try.pinned (OpenSpec.upto tensorJoinsSpec)

/-- 'pintlelaw12.PseudoSets', WHERE WHAT IT READS IS OF BULK AT MOST 1048576: true; the input reads as it did. -/
def pseudoSetsUptoRow : OpenClaim := { program := "ytedfekgacmfjkaa", sum := "463b7f2ff6f25d6c59f828d92d00e098178f5bcbf37310530c859ca3fd54dcc8", func := "pintle/pintlelaw12.PseudoSets", spec := "pseudoSets", apart := false, narrowed := true }
def PseudoSetsUptoSaid : Prop := pseudoSetsUptoRow.holds Try.pinned (OpenSpec.upto pseudoSetsSpec)

/-- 'pintlelaw12.PseudoAdds', WHERE WHAT IT READS IS OF BULK AT MOST 1048576: true; the input reads as it did. -/
def pseudoAddsUptoRow : OpenClaim := { program := "ytedfekgacmfjkaa", sum := "463b7f2ff6f25d6c59f828d92d00e098178f5bcbf37310530c859ca3fd54dcc8", func := "pintle/pintlelaw12.PseudoAdds", spec := "pseudoAdds", apart := false, narrowed := true }
def PseudoAddsUptoSaid : Prop := pseudoAddsUptoRow.holds Try.pinned (OpenSpec.upto pseudoAddsSpec)

/-- 'pintlelaw12.PseudoMoves', WHERE WHAT IT READS IS OF BULK AT MOST 1048576: true; the input reads as it did. -/
def pseudoMovesUptoRow : OpenClaim := { program := "ytedfekgacmfjkaa", sum := "463b7f2ff6f25d6c59f828d92d00e098178f5bcbf37310530c859ca3fd54dcc8", func := "pintle/pintlelaw12.PseudoMoves", spec := "pseudoMoves", apart := false, narrowed := true }
def PseudoMovesUptoSaid : Prop := pseudoMovesUptoRow.holds Try.pinned (OpenSpec.upto pseudoMovesSpec)

/-- 'pintlelaw12.PseudoFew', WHERE WHAT IT READS IS OF BULK AT MOST 1048576: true; the input reads as it did. -/
def pseudoFewUptoRow : OpenClaim := { program := "ytedfekgacmfjkaa", sum := "463b7f2ff6f25d6c59f828d92d00e098178f5bcbf37310530c859ca3fd54dcc8", func := "pintle/pintlelaw12.PseudoFew", spec := "pseudoFew", apart := false, narrowed := true }
def PseudoFewUptoSaid : Prop := pseudoFewUptoRow.holds Try.pinned (OpenSpec.upto pseudoFewSpec)

/-- 'pintlelaw20.QuantScales', WHERE WHAT IT READS IS OF BULK AT MOST 1048576: true; the input reads as it did. -/
def quantScalesUptoRow : OpenClaim := { program := "ytedfekgacmfjkaa", sum := "463b7f2ff6f25d6c59f828d92d00e098178f5bcbf37310530c859ca3fd54dcc8", func := "pintle/pintlelaw20.QuantScales", spec := "quantScales", apart := false, narrowed := true }
def QuantScalesUptoSaid : Prop := quantScalesUptoRow.holds Try.pinned (OpenSpec.upto quantScalesSpec)

/-- 'pintlelaw20.QuantOrder', WHERE WHAT IT READS IS OF BULK AT MOST 1048576: true; the input reads as it did. -/
def quantOrderUptoRow : OpenClaim := { program := "ytedfekgacmfjkaa", sum := "463b7f2ff6f25d6c59f828d92d00e098178f5bcbf37310530c859ca3fd54dcc8", func := "pintle/pintlelaw20.QuantOrder", spec := "quantOrder", apart := false, narrowed := true }
def QuantOrderUptoSaid : Prop := quantOrderUptoRow.holds Try.pinned (OpenSpec.upto quantOrderSpec)

/-- 'pintlelaw39.PeepIdle', WHERE WHAT IT READS IS OF BULK AT MOST 1048576: true; the input reads as it did. -/
def peepIdleUptoRow : OpenClaim := { program := "ytedfekgacmfjkaa", sum := "463b7f2ff6f25d6c59f828d92d00e098178f5bcbf37310530c859ca3fd54dcc8", func := "pintle/pintlelaw39.PeepIdle", spec := "peepIdle", recurses := true, apart := false, narrowed := true }
def PeepIdleUptoSaid : Prop := peepIdleUptoRow.holds Try.pinned (OpenSpec.upto peepIdleSpec)

/-- 'pintlelaw22.WindowOuts', WHERE WHAT IT READS IS OF BULK AT MOST 1048576: true; the input reads as it did. -/
def windowOutsUptoRow : OpenClaim := { program := "ytedfekgacmfjkaa", sum := "463b7f2ff6f25d6c59f828d92d00e098178f5bcbf37310530c859ca3fd54dcc8", func := "pintle/pintlelaw22.WindowOuts", spec := "windowOuts", apart := false, narrowed := true }
def WindowOutsUptoSaid : Prop := windowOutsUptoRow.holds Try.pinned (OpenSpec.upto windowOutsSpec)

end Rows
end Go.Proofs.Ytedfekgacmfjkaa
