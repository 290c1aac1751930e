/-
  No cell of these rows narrows 'for every input' (looked for: loops, veiled, ifaces, maps, wideKeys, modest, calm, conditions, laid).
  DERIVED. THE GIVEN ROWS OF THIS SEAT. 4 by the template 'for every input the law returns true; each argument reads behind the call as it read before'; 0 by the template 'total and deterministic' (their statements: YtohndfcbebeemaaTotals.lean).
  GIVEN WITH THE SEED: the statements are not yours to turn. If you find one false, say at which input.
  Laid BY PROGRAM, IN A SANDBOX (cutbox-rows.mjs): the forced cells as the released guide's own fill.sh prints them over the translation 16a9c5851715770f… (all of the seat's roots in one cut). By AI agents, Wed Nov 11 2026. No macro, syntax, notation, axiom, sorry.
-/
import Derived.Test.YtohndfcbebeemaaChecked
import GoSem.Claim
import GoSem.ClaimJoined
import GoSem.ClaimMapViews
import Derived.JoinedTies
import Derived.KernelRfl
namespace Go.Proofs.Ytohndfcbebeemaa
/- THE CELL 'sum', in the pinned program and in every row, IS THE sha256 OF THE DUMP (.gsa) THAT YtohndfcbebeemaaProg.lean LOADS. Nothing in Lean hashes anything: it is a label: what it is worth is what the hold of that sum in a sandbox is worth. -/
noncomputable def Try.pinned : Pinned := { name := "ytohndfcbebeemaa", sum := "16a9c5851715770f8bec251901164d747bcbe12ece2cc2745a65003e2c61e6ee", checked := Try.checked }
namespace Rows
def none {H : Type} : Left H := { results := [], args := [] }

/-- 'pintlelaw24.InferFits': WHATEVER THE INPUT: true; the input reads as it did. -/
def inferFitsSpec : ChangeSpec := { name := "inferFits", fn := fun _ => fun
  | [d] => { results := [.lit (.bool true)], args := [d] }
  | _ => none }
def inferFitsRow : OpenClaim := { program := "ytohndfcbebeemaa", sum := "16a9c5851715770f8bec251901164d747bcbe12ece2cc2745a65003e2c61e6ee", func := "pintle/pintlelaw24.InferFits", spec := "inferFits", unfollowed := true, recurses := true, apart := false }
def InferFitsSaid : Prop := inferFitsRow.holds Try.pinned (OpenSpec.ofChange inferFitsSpec)

/-- ITS FALSE NEIGHBOUR: 'it returns false'. Refute it at one input. -/
def inferFitsWrong : ChangeSpec := { name := "inferFits", fn := fun _ => fun
  | [d] => { results := [.lit (.bool false)], args := [d] }
  | _ => none }
def InferFitsWrongFalsely : Prop := inferFitsRow.holds Try.pinned (OpenSpec.ofChange inferFitsWrong)

/-- 'pintlelaw30.ArenaMeets': WHATEVER THE INPUT: true; the input reads as it did. -/
def arenaMeetsSpec : ChangeSpec := { name := "arenaMeets", fn := fun _ => fun
  | [d1, d2] => { results := [.lit (.bool true)], args := [d1, d2] }
  | _ => none }
def arenaMeetsRow : OpenClaim := { program := "ytohndfcbebeemaa", sum := "16a9c5851715770f8bec251901164d747bcbe12ece2cc2745a65003e2c61e6ee", func := "pintle/pintlelaw30.ArenaMeets", spec := "arenaMeets", unfollowed := true, recurses := true, apart := false }
def ArenaMeetsSaid : Prop := arenaMeetsRow.holds Try.pinned (OpenSpec.ofChange arenaMeetsSpec)

/-- ITS FALSE NEIGHBOUR: 'it returns false'. Refute it at one input. -/
def arenaMeetsWrong : ChangeSpec := { name := "arenaMeets", fn := fun _ => fun
  | [d1, d2] => { results := [.lit (.bool false)], args := [d1, d2] }
  | _ => none }
def ArenaMeetsWrongFalsely : Prop := arenaMeetsRow.holds Try.pinned (OpenSpec.ofChange arenaMeetsWrong)

/-- 'pintlelaw28.SchedLine': WHATEVER THE INPUT: true; the input reads as it did. -/
def schedLineSpec : ChangeSpec := { name := "schedLine", fn := fun _ => fun
  | [d1, d2] => { results := [.lit (.bool true)], args := [d1, d2] }
  | _ => none }
def schedLineRow : OpenClaim := { program := "ytohndfcbebeemaa", sum := "16a9c5851715770f8bec251901164d747bcbe12ece2cc2745a65003e2c61e6ee", func := "pintle/pintlelaw28.SchedLine", spec := "schedLine", unfollowed := true, recurses := true, apart := false }
def SchedLineSaid : Prop := schedLineRow.holds Try.pinned (OpenSpec.ofChange schedLineSpec)

/-- ITS FALSE NEIGHBOUR: 'it returns false'. Refute it at one input. -/
def schedLineWrong : ChangeSpec := { name := "schedLine", fn := fun _ => fun
  | [d1, d2] => { results := [.lit (.bool false)], args := [d1, d2] }
  | _ => none }
def SchedLineWrongFalsely : Prop := schedLineRow.holds Try.pinned (OpenSpec.ofChange schedLineWrong)

/-- 'pintlelaw05.MemBounds': WHATEVER THE INPUT: true; the input reads as it did. -/
def memBoundsSpec : ChangeSpec := { name := "memBounds", fn := fun _ => fun
  | [d1, d2] => { results := [.lit (.bool true)], args := [d1, d2] }
  | _ => none }
def memBoundsRow : OpenClaim := { program := "ytohndfcbebeemaa", sum := "16a9c5851715770f8bec251901164d747bcbe12ece2cc2745a65003e2c61e6ee", func := "pintle/pintlelaw05.MemBounds", spec := "memBounds", apart := false }
def MemBoundsSaid : Prop := memBoundsRow.holds Try.pinned (OpenSpec.ofChange memBoundsSpec)

/-- ITS FALSE NEIGHBOUR: 'it returns false'. Refute it at one input. -/
def memBoundsWrong : ChangeSpec := { name := "memBounds", fn := fun _ => fun
  | [d1, d2] => { results := [.lit (.bool false)], args := [d1, d2] }
  | _ => none }
def MemBoundsWrongFalsely : Prop := memBoundsRow.holds Try.pinned (OpenSpec.ofChange memBoundsWrong)

/- THE SECOND FORM. 'bulk': how many values and letters a reading holds, each counted each time it is reached (what is shared counts as often as it is met; a slice's spare places count too). A statement '..UptoSaid' is the law's where the arguments, and the package variables that the reading takes, are together of bulk at most 1048576: NARROWER than '..Said'. Prove '..Said' where nothing that the law and all that it calls make is longer than what came in: it says more and counts as full. Else prove '..UptoSaid'. A law counts once. -/
mutual
def uptoBulk {H : Type} : DataW H → Nat
  | .lit (.string bytes) => bytes.length + 1
  | .lit _ => 1
  | .nil => 1
  | .ptr d => uptoBulk d + 1
  | .slice elems spare => uptoBulkAll elems + uptoBulkAll spare + 1
  | .agg parts => uptoBulkAll parts + 1
  | .iface _ d => uptoBulk d + 1
  | .map entries => uptoBulkEntries entries + 1
  | .held _ => 1
def uptoBulkAll {H : Type} : List (DataW H) → Nat
  | [] => 0
  | d :: r => uptoBulk d + uptoBulkAll r
def uptoBulkEntries {H : Type} : List (Lit × DataW H) → Nat
  | [] => 0
  | x :: r => uptoBulkEntry x + uptoBulkEntries r
def uptoBulkEntry {H : Type} : Lit × DataW H → Nat
  | (.string bytes, d) => bytes.length + uptoBulk d + 1
  | (_, d) => uptoBulk d + 1
 end
def uptoSmall : (H : Type) → List (DataW H) → Bool := fun _ ds => decide (uptoBulkAll ds ≤ 1048576)
def OpenSpec.upto (s : _root_.Go.ChangeSpec) : _root_.Go.OpenSpec := { _root_.Go.OpenSpec.ofChange s with cond := some uptoSmall }

/-- 'pintlelaw24.InferFits', WHERE WHAT IT READS IS OF BULK AT MOST 1048576: true; the input reads as it did. -/
def inferFitsUptoRow : OpenClaim := { program := "ytohndfcbebeemaa", sum := "16a9c5851715770f8bec251901164d747bcbe12ece2cc2745a65003e2c61e6ee", func := "pintle/pintlelaw24.InferFits", spec := "inferFits", unfollowed := true, recurses := true, apart := false, narrowed := true }
def InferFitsUptoSaid : Prop := inferFitsUptoRow.holds Try.pinned (OpenSpec.upto inferFitsSpec)

/-- 'pintlelaw30.ArenaMeets', WHERE WHAT IT READS IS OF BULK AT MOST 1048576: true; the input reads as it did. -/
def arenaMeetsUptoRow : OpenClaim := { program := "ytohndfcbebeemaa", sum := "16a9c5851715770f8bec251901164d747bcbe12ece2cc2745a65003e2c61e6ee", func := "pintle/pintlelaw30.ArenaMeets", spec := "arenaMeets", unfollowed := true, recurses := true, apart := false, narrowed := true }
def ArenaMeetsUptoSaid : Prop := arenaMeetsUptoRow.holds Try.pinned (OpenSpec.upto arenaMeetsSpec)

/-- 'pintlelaw28.SchedLine', WHERE WHAT IT READS IS OF BULK AT MOST 1048576: true; the input reads as it did. -/
def schedLineUptoRow : OpenClaim := { program := "ytohndfcbebeemaa", sum := "16a9c5851715770f8bec251901164d747bcbe12ece2cc2745a65003e2c61e6ee", func := "pintle/pintlelaw28.SchedLine", spec := "schedLine", unfollowed := true, recurses := true, apart := false, narrowed := true }
def SchedLineUptoSaid : Prop := schedLineUptoRow.holds Try.pinned (OpenSpec.upto schedLineSpec)

/-- 'pintlelaw05.MemBounds', WHERE WHAT IT READS IS OF BULK AT MOST 1048576: true; the input reads as it did. -/
def memBoundsUptoRow : OpenClaim := { program := "ytohndfcbebeemaa", sum := "16a9c5851715770f8bec251901164d747bcbe12ece2cc2745a65003e2c61e6ee", func := "pintle/pintlelaw05.MemBounds", spec := "memBounds", apart := false, narrowed := true }
def MemBoundsUptoSaid : Prop := memBoundsUptoRow.holds Try.pinned (OpenSpec.upto memBoundsSpec)

end Rows
end Go.Proofs.Ytohndfcbebeemaa
