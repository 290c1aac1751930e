/-
  No cell of these rows narrows 'for every input' (looked for: loops, veiled, ifaces, maps, wideKeys, modest, calm, conditions, laid).
  DERIVED. THE GIVEN ROWS OF THIS SEAT. 12 by the template 'for every input the law returns true; each argument reads behind the call as it read before'; 0 by the template 'total and deterministic' (their statements: YtgemajmimjkgcaaTotals.lean).
  GIVEN WITH THE SEED: the statements are not yours to turn. If you find one false, say at which input.
  Laid BY PROGRAM, IN A SANDBOX (cutbox-rows.mjs): the forced cells as the released guide's own fill.sh prints them over the translation 239de071f382d87d… (all of the seat's roots in one cut). By AI agents, Wed Nov 11 2026. No macro, syntax, notation, axiom, sorry.
-/
import Derived.Test.YtgemajmimjkgcaaChecked
import GoSem.Claim
import GoSem.ClaimJoined
import GoSem.ClaimMapViews
import Derived.JoinedTies
import Derived.KernelRfl
namespace Go.Proofs.Ytgemajmimjkgcaa
/- THE CELL 'sum', in the pinned program and in every row, IS THE sha256 OF THE DUMP (.gsa) THAT YtgemajmimjkgcaaProg.lean LOADS. Nothing in Lean hashes anything: it is a label: what it is worth is what the hold of that sum in a sandbox is worth. -/
noncomputable def Try.pinned : Pinned := { name := "ytgemajmimjkgcaa", sum := "239de071f382d87d12d8d9c49148ff00af3e21b4324186ac7dea18a0616ad654", checked := Try.checked }
namespace Rows
def none {H : Type} : Left H := { results := [], args := [] }

/-- 'pintlelaw22.WindowTaps': WHATEVER THE INPUT: true; the input reads as it did. -/
def windowTapsSpec : ChangeSpec := { name := "windowTaps", fn := fun _ => fun
  | [d1, d2, d3] => { results := [.lit (.bool true)], args := [d1, d2, d3] }
  | _ => none }
def windowTapsRow : OpenClaim := { program := "ytgemajmimjkgcaa", sum := "239de071f382d87d12d8d9c49148ff00af3e21b4324186ac7dea18a0616ad654", func := "pintle/pintlelaw22.WindowTaps", spec := "windowTaps", apart := false }
def WindowTapsSaid : Prop := windowTapsRow.holds Try.pinned (OpenSpec.ofChange windowTapsSpec)

/-- ITS FALSE NEIGHBOUR: 'it returns false'. Refute it at one input. -/
def windowTapsWrong : ChangeSpec := { name := "windowTaps", fn := fun _ => fun
  | [d1, d2, d3] => { results := [.lit (.bool false)], args := [d1, d2, d3] }
  | _ => none }
def WindowTapsWrongFalsely : Prop := windowTapsRow.holds Try.pinned (OpenSpec.ofChange windowTapsWrong)

/-- 'pintlelaw22.WindowInside': WHATEVER THE INPUT: true; the input reads as it did. -/
def windowInsideSpec : ChangeSpec := { name := "windowInside", fn := fun _ => fun
  | [d] => { results := [.lit (.bool true)], args := [d] }
  | _ => none }
def windowInsideRow : OpenClaim := { program := "ytgemajmimjkgcaa", sum := "239de071f382d87d12d8d9c49148ff00af3e21b4324186ac7dea18a0616ad654", func := "pintle/pintlelaw22.WindowInside", spec := "windowInside", apart := false }
def WindowInsideSaid : Prop := windowInsideRow.holds Try.pinned (OpenSpec.ofChange windowInsideSpec)

/-- ITS FALSE NEIGHBOUR: 'it returns false'. Refute it at one input. -/
def windowInsideWrong : ChangeSpec := { name := "windowInside", fn := fun _ => fun
  | [d] => { results := [.lit (.bool false)], args := [d] }
  | _ => none }
def WindowInsideWrongFalsely : Prop := windowInsideRow.holds Try.pinned (OpenSpec.ofChange windowInsideWrong)

/-- 'pintlelaw22.WindowNever': WHATEVER THE INPUT: true; the input reads as it did. -/
def windowNeverSpec : ChangeSpec := { name := "windowNever", fn := fun _ => fun
  | [d] => { results := [.lit (.bool true)], args := [d] }
  | _ => none }
def windowNeverRow : OpenClaim := { program := "ytgemajmimjkgcaa", sum := "239de071f382d87d12d8d9c49148ff00af3e21b4324186ac7dea18a0616ad654", func := "pintle/pintlelaw22.WindowNever", spec := "windowNever", apart := false }
def WindowNeverSaid : Prop := windowNeverRow.holds Try.pinned (OpenSpec.ofChange windowNeverSpec)

/-- ITS FALSE NEIGHBOUR: 'it returns false'. Refute it at one input. -/
def windowNeverWrong : ChangeSpec := { name := "windowNever", fn := fun _ => fun
  | [d] => { results := [.lit (.bool false)], args := [d] }
  | _ => none }
def WindowNeverWrongFalsely : Prop := windowNeverRow.holds Try.pinned (OpenSpec.ofChange windowNeverWrong)

/-- 'pintlelaw24.InferFits': WHATEVER THE INPUT: true; the input reads as it did. -/
def inferFitsSpec : ChangeSpec := { name := "inferFits", fn := fun _ => fun
  | [d] => { results := [.lit (.bool true)], args := [d] }
  | _ => none }
def inferFitsRow : OpenClaim := { program := "ytgemajmimjkgcaa", sum := "239de071f382d87d12d8d9c49148ff00af3e21b4324186ac7dea18a0616ad654", func := "pintle/pintlelaw24.InferFits", spec := "inferFits", unfollowed := true, recurses := true, apart := false }
def InferFitsSaid : Prop := inferFitsRow.holds Try.pinned (OpenSpec.ofChange inferFitsSpec)

/-- ITS FALSE NEIGHBOUR: 'it returns false'. Refute it at one input. -/
def inferFitsWrong : ChangeSpec := { name := "inferFits", fn := fun _ => fun
  | [d] => { results := [.lit (.bool false)], args := [d] }
  | _ => none }
def InferFitsWrongFalsely : Prop := inferFitsRow.holds Try.pinned (OpenSpec.ofChange inferFitsWrong)

/-- 'pintlelaw24.InferGood': WHATEVER THE INPUT: true; the input reads as it did. -/
def inferGoodSpec : ChangeSpec := { name := "inferGood", fn := fun _ => fun
  | [d] => { results := [.lit (.bool true)], args := [d] }
  | _ => none }
def inferGoodRow : OpenClaim := { program := "ytgemajmimjkgcaa", sum := "239de071f382d87d12d8d9c49148ff00af3e21b4324186ac7dea18a0616ad654", func := "pintle/pintlelaw24.InferGood", spec := "inferGood", unfollowed := true, recurses := true, apart := false }
def InferGoodSaid : Prop := inferGoodRow.holds Try.pinned (OpenSpec.ofChange inferGoodSpec)

/-- ITS FALSE NEIGHBOUR: 'it returns false'. Refute it at one input. -/
def inferGoodWrong : ChangeSpec := { name := "inferGood", fn := fun _ => fun
  | [d] => { results := [.lit (.bool false)], args := [d] }
  | _ => none }
def InferGoodWrongFalsely : Prop := inferGoodRow.holds Try.pinned (OpenSpec.ofChange inferGoodWrong)

/-- 'pintlelaw24.InferIdle': WHATEVER THE INPUT: true; the input reads as it did. -/
def inferIdleSpec : ChangeSpec := { name := "inferIdle", fn := fun _ => fun
  | [d1, d2, d3] => { results := [.lit (.bool true)], args := [d1, d2, d3] }
  | _ => none }
def inferIdleRow : OpenClaim := { program := "ytgemajmimjkgcaa", sum := "239de071f382d87d12d8d9c49148ff00af3e21b4324186ac7dea18a0616ad654", func := "pintle/pintlelaw24.InferIdle", spec := "inferIdle", unfollowed := true, recurses := true, apart := false }
def InferIdleSaid : Prop := inferIdleRow.holds Try.pinned (OpenSpec.ofChange inferIdleSpec)

/-- ITS FALSE NEIGHBOUR: 'it returns false'. Refute it at one input. -/
def inferIdleWrong : ChangeSpec := { name := "inferIdle", fn := fun _ => fun
  | [d1, d2, d3] => { results := [.lit (.bool false)], args := [d1, d2, d3] }
  | _ => none }
def InferIdleWrongFalsely : Prop := inferIdleRow.holds Try.pinned (OpenSpec.ofChange inferIdleWrong)

/-- 'pintlelaw30.ArenaMeets': WHATEVER THE INPUT: true; the input reads as it did. -/
def arenaMeetsSpec : ChangeSpec := { name := "arenaMeets", fn := fun _ => fun
  | [d1, d2] => { results := [.lit (.bool true)], args := [d1, d2] }
  | _ => none }
def arenaMeetsRow : OpenClaim := { program := "ytgemajmimjkgcaa", sum := "239de071f382d87d12d8d9c49148ff00af3e21b4324186ac7dea18a0616ad654", func := "pintle/pintlelaw30.ArenaMeets", spec := "arenaMeets", unfollowed := true, recurses := true, apart := false }
def ArenaMeetsSaid : Prop := arenaMeetsRow.holds Try.pinned (OpenSpec.ofChange arenaMeetsSpec)

/-- ITS FALSE NEIGHBOUR: 'it returns false'. Refute it at one input. -/
def arenaMeetsWrong : ChangeSpec := { name := "arenaMeets", fn := fun _ => fun
  | [d1, d2] => { results := [.lit (.bool false)], args := [d1, d2] }
  | _ => none }
def ArenaMeetsWrongFalsely : Prop := arenaMeetsRow.holds Try.pinned (OpenSpec.ofChange arenaMeetsWrong)

/-- 'pintlelaw30.ArenaOne': WHATEVER THE INPUT: true; the input reads as it did. -/
def arenaOneSpec : ChangeSpec := { name := "arenaOne", fn := fun _ => fun
  | [d] => { results := [.lit (.bool true)], args := [d] }
  | _ => none }
def arenaOneRow : OpenClaim := { program := "ytgemajmimjkgcaa", sum := "239de071f382d87d12d8d9c49148ff00af3e21b4324186ac7dea18a0616ad654", func := "pintle/pintlelaw30.ArenaOne", spec := "arenaOne", unfollowed := true, recurses := true, apart := false }
def ArenaOneSaid : Prop := arenaOneRow.holds Try.pinned (OpenSpec.ofChange arenaOneSpec)

/-- ITS FALSE NEIGHBOUR: 'it returns false'. Refute it at one input. -/
def arenaOneWrong : ChangeSpec := { name := "arenaOne", fn := fun _ => fun
  | [d] => { results := [.lit (.bool false)], args := [d] }
  | _ => none }
def ArenaOneWrongFalsely : Prop := arenaOneRow.holds Try.pinned (OpenSpec.ofChange arenaOneWrong)

/-- 'pintlelaw30.ArenaApart': WHATEVER THE INPUT: true; the input reads as it did. -/
def arenaApartSpec : ChangeSpec := { name := "arenaApart", fn := fun _ => fun
  | [d] => { results := [.lit (.bool true)], args := [d] }
  | _ => none }
def arenaApartRow : OpenClaim := { program := "ytgemajmimjkgcaa", sum := "239de071f382d87d12d8d9c49148ff00af3e21b4324186ac7dea18a0616ad654", func := "pintle/pintlelaw30.ArenaApart", spec := "arenaApart", unfollowed := true, recurses := true, apart := false }
def ArenaApartSaid : Prop := arenaApartRow.holds Try.pinned (OpenSpec.ofChange arenaApartSpec)

/-- ITS FALSE NEIGHBOUR: 'it returns false'. Refute it at one input. -/
def arenaApartWrong : ChangeSpec := { name := "arenaApart", fn := fun _ => fun
  | [d] => { results := [.lit (.bool false)], args := [d] }
  | _ => none }
def ArenaApartWrongFalsely : Prop := arenaApartRow.holds Try.pinned (OpenSpec.ofChange arenaApartWrong)

/-- 'pintlelaw30.ArenaBetween': WHATEVER THE INPUT: true; the input reads as it did. -/
def arenaBetweenSpec : ChangeSpec := { name := "arenaBetween", fn := fun _ => fun
  | [d] => { results := [.lit (.bool true)], args := [d] }
  | _ => none }
def arenaBetweenRow : OpenClaim := { program := "ytgemajmimjkgcaa", sum := "239de071f382d87d12d8d9c49148ff00af3e21b4324186ac7dea18a0616ad654", func := "pintle/pintlelaw30.ArenaBetween", spec := "arenaBetween", unfollowed := true, recurses := true, apart := false }
def ArenaBetweenSaid : Prop := arenaBetweenRow.holds Try.pinned (OpenSpec.ofChange arenaBetweenSpec)

/-- ITS FALSE NEIGHBOUR: 'it returns false'. Refute it at one input. -/
def arenaBetweenWrong : ChangeSpec := { name := "arenaBetween", fn := fun _ => fun
  | [d] => { results := [.lit (.bool false)], args := [d] }
  | _ => none }
def ArenaBetweenWrongFalsely : Prop := arenaBetweenRow.holds Try.pinned (OpenSpec.ofChange arenaBetweenWrong)

/-- 'pintlelaw30.ArenaFits': WHATEVER THE INPUT: true; the input reads as it did. -/
def arenaFitsSpec : ChangeSpec := { name := "arenaFits", fn := fun _ => fun
  | [d] => { results := [.lit (.bool true)], args := [d] }
  | _ => none }
def arenaFitsRow : OpenClaim := { program := "ytgemajmimjkgcaa", sum := "239de071f382d87d12d8d9c49148ff00af3e21b4324186ac7dea18a0616ad654", func := "pintle/pintlelaw30.ArenaFits", spec := "arenaFits", unfollowed := true, recurses := true, apart := false }
def ArenaFitsSaid : Prop := arenaFitsRow.holds Try.pinned (OpenSpec.ofChange arenaFitsSpec)

/-- ITS FALSE NEIGHBOUR: 'it returns false'. Refute it at one input. -/
def arenaFitsWrong : ChangeSpec := { name := "arenaFits", fn := fun _ => fun
  | [d] => { results := [.lit (.bool false)], args := [d] }
  | _ => none }
def ArenaFitsWrongFalsely : Prop := arenaFitsRow.holds Try.pinned (OpenSpec.ofChange arenaFitsWrong)

/-- 'pintlelaw39.PeepOnce': WHATEVER THE INPUT: true; the input reads as it did. -/
def peepOnceSpec : ChangeSpec := { name := "peepOnce", fn := fun _ => fun
  | [d] => { results := [.lit (.bool true)], args := [d] }
  | _ => none }
def peepOnceRow : OpenClaim := { program := "ytgemajmimjkgcaa", sum := "239de071f382d87d12d8d9c49148ff00af3e21b4324186ac7dea18a0616ad654", func := "pintle/pintlelaw39.PeepOnce", spec := "peepOnce", recurses := true, apart := false }
def PeepOnceSaid : Prop := peepOnceRow.holds Try.pinned (OpenSpec.ofChange peepOnceSpec)

/-- ITS FALSE NEIGHBOUR: 'it returns false'. Refute it at one input. -/
def peepOnceWrong : ChangeSpec := { name := "peepOnce", fn := fun _ => fun
  | [d] => { results := [.lit (.bool false)], args := [d] }
  | _ => none }
def PeepOnceWrongFalsely : Prop := peepOnceRow.holds Try.pinned (OpenSpec.ofChange peepOnceWrong)

/- THE SECOND FORM. 'bulk': how many values and letters a reading holds, each counted each time it is reached (what is shared counts as often as it is met; a slice's spare places count too). A statement '..UptoSaid' is the law's where the arguments, and the package variables that the reading takes, are together of bulk at most 1048576: NARROWER than '..Said'. Prove '..Said' where nothing that the law and all that it calls make is longer than what came in: it says more and counts as full. Else prove '..UptoSaid'. A law counts once. -/
mutual
def uptoBulk {H : Type} : DataW H → Nat
  | .lit (.string bytes) => bytes.length + 1
  | .lit _ => 1
  | .nil => 1
  | .ptr d => uptoBulk d + 1
  | .slice elems spare => uptoBulkAll elems + uptoBulkAll spare + 1
  | .agg parts => uptoBulkAll parts + 1
  | .iface _ d => uptoBulk d + 1
  | .map entries => uptoBulkEntries entries + 1
  | .held _ => 1
def uptoBulkAll {H : Type} : List (DataW H) → Nat
  | [] => 0
  | d :: r => uptoBulk d + uptoBulkAll r
def uptoBulkEntries {H : Type} : List (Lit × DataW H) → Nat
  | [] => 0
  | x :: r => uptoBulkEntry x + uptoBulkEntries r
def uptoBulkEntry {H : Type} : Lit × DataW H → Nat
  | (.string bytes, d) => bytes.length + uptoBulk d + 1
  | (_, d) => uptoBulk d + 1
 end
def uptoSmall : (H : Type) → List (DataW H) → Bool := fun _ ds => decide (uptoBulkAll ds ≤ 1048576)
def OpenSpec.upto (s : _root_.Go.ChangeSpec) : _root_.Go.OpenSpec := { _root_.Go.OpenSpec.ofChange s with cond := some uptoSmall }

/-- 'pintlelaw22.WindowTaps', WHERE WHAT IT READS IS OF BULK AT MOST 1048576: true; the input reads as it did. -/
def windowTapsUptoRow : OpenClaim := { program := "ytgemajmimjkgcaa", sum := "239de071f382d87d12d8d9c49148ff00af3e21b4324186ac7dea18a0616ad654", func := "pintle/pintlelaw22.WindowTaps", spec := "windowTaps", apart := false, narrowed := true }
def WindowTapsUptoSaid : Prop := windowTapsUptoRow.holds Try.pinned (OpenSpec.upto windowTapsSpec)

/-- 'pintlelaw22.WindowInside', WHERE WHAT IT READS IS OF BULK AT MOST 1048576: true; the input reads as it did. -/
def windowInsideUptoRow : OpenClaim := { program := "ytgemajmimjkgcaa", sum := "239de071f382d87d12d8d9c49148ff00af3e21b4324186ac7dea18a0616ad654", func := "pintle/pintlelaw22.WindowInside", spec := "windowInside", apart := false, narrowed := true }
def WindowInsideUptoSaid : Prop := windowInsideUptoRow.holds Try.pinned (OpenSpec.upto windowInsideSpec)

/-- 'pintlelaw22.WindowNever', WHERE WHAT IT READS IS OF BULK AT MOST 1048576: true; the input reads as it did. -/
def windowNeverUptoRow : OpenClaim := { program := "ytgemajmimjkgcaa", sum := "239de071f382d87d12d8d9c49148ff00af3e21b4324186ac7dea18a0616ad654", func := "pintle/pintlelaw22.WindowNever", spec := "windowNever", apart := false, narrowed := true }
def WindowNeverUptoSaid : Prop := windowNeverUptoRow.holds Try.pinned (OpenSpec.upto windowNeverSpec)

/-- 'pintlelaw24.InferFits', WHERE WHAT IT READS IS OF BULK AT MOST 1048576: true; the input reads as it did. -/
def inferFitsUptoRow : OpenClaim := { program := "ytgemajmimjkgcaa", sum := "239de071f382d87d12d8d9c49148ff00af3e21b4324186ac7dea18a0616ad654", func := "pintle/pintlelaw24.InferFits", spec := "inferFits", unfollowed := true, recurses := true, apart := false, narrowed := true }
def InferFitsUptoSaid : Prop := inferFitsUptoRow.holds Try.pinned (OpenSpec.upto inferFitsSpec)

/-- 'pintlelaw24.InferGood', WHERE WHAT IT READS IS OF BULK AT MOST 1048576: true; the input reads as it did. -/
def inferGoodUptoRow : OpenClaim := { program := "ytgemajmimjkgcaa", sum := "239de071f382d87d12d8d9c49148ff00af3e21b4324186ac7dea18a0616ad654", func := "pintle/pintlelaw24.InferGood", spec := "inferGood", unfollowed := true, recurses := true, apart := false, narrowed := true }
def InferGoodUptoSaid : Prop := inferGoodUptoRow.holds Try.pinned (OpenSpec.upto inferGoodSpec)

/-- 'pintlelaw24.InferIdle', WHERE WHAT IT READS IS OF BULK AT MOST 1048576: true; the input reads as it did. -/
def inferIdleUptoRow : OpenClaim := { program := "ytgemajmimjkgcaa", sum := "239de071f382d87d12d8d9c49148ff00af3e21b4324186ac7dea18a0616ad654", func := "pintle/pintlelaw24.InferIdle", spec := "inferIdle", unfollowed := true, recurses := true, apart := false, narrowed := true }
def InferIdleUptoSaid : Prop := inferIdleUptoRow.holds Try.pinned (OpenSpec.upto inferIdleSpec)

/-- 'pintlelaw30.ArenaMeets', WHERE WHAT IT READS IS OF BULK AT MOST 1048576: true; the input reads as it did. -/
def arenaMeetsUptoRow : OpenClaim := { program := "ytgemajmimjkgcaa", sum := "239de071f382d87d12d8d9c49148ff00af3e21b4324186ac7dea18a0616ad654", func := "pintle/pintlelaw30.ArenaMeets", spec := "arenaMeets", unfollowed := true, recurses := true, apart := false, narrowed := true }
def ArenaMeetsUptoSaid : Prop := arenaMeetsUptoRow.holds Try.pinned (OpenSpec.upto arenaMeetsSpec)

/-- 'pintlelaw30.ArenaOne', WHERE WHAT IT READS IS OF BULK AT MOST 1048576: true; the input reads as it did. -/
def arenaOneUptoRow : OpenClaim := { program := "ytgemajmimjkgcaa", sum := "239de071f382d87d12d8d9c49148ff00af3e21b4324186ac7dea18a0616ad654", func := "pintle/pintlelaw30.ArenaOne", spec := "arenaOne", unfollowed := true, recurses := true, apart := false, narrowed := true }
def ArenaOneUptoSaid : Prop := arenaOneUptoRow.holds Try.pinned (OpenSpec.upto arenaOneSpec)

/-- 'pintlelaw30.ArenaApart', WHERE WHAT IT READS IS OF BULK AT MOST 1048576: true; the input reads as it did. -/
def arenaApartUptoRow : OpenClaim := { program := "ytgemajmimjkgcaa", sum := "239de071f382d87d12d8d9c49148ff00af3e21b4324186ac7dea18a0616ad654", func := "pintle/pintlelaw30.ArenaApart", spec := "arenaApart", unfollowed := true, recurses := true, apart := false, narrowed := true }
def ArenaApartUptoSaid : Prop := arenaApartUptoRow.holds Try.pinned (OpenSpec.upto arenaApartSpec)

/-- 'pintlelaw30.ArenaBetween', WHERE WHAT IT READS IS OF BULK AT MOST 1048576: true; the input reads as it did. -/
def arenaBetweenUptoRow : OpenClaim := { program := "ytgemajmimjkgcaa", sum := "239de071f382d87d12d8d9c49148ff00af3e21b4324186ac7dea18a0616ad654", func := "pintle/pintlelaw30.ArenaBetween", spec := "arenaBetween", unfollowed := true, recurses := true, apart := false, narrowed := true }
def ArenaBetweenUptoSaid : Prop := arenaBetweenUptoRow.holds Try.pinned (OpenSpec.upto arenaBetweenSpec)

/-- 'pintlelaw30.ArenaFits', WHERE WHAT IT READS IS OF BULK AT MOST 1048576: true; the input reads as it did. -/
def arenaFitsUptoRow : OpenClaim := { program := "ytgemajmimjkgcaa", sum := "239de071f382d87d12d8d9c49148ff00af3e21b4324186ac7dea18a0616ad654", func := "pintle/pintlelaw30.ArenaFits", spec := "arenaFits", unfollowed := true, recurses := true, apart := false, narrowed := true }
def ArenaFitsUptoSaid : Prop := arenaFitsUptoRow.holds Try.pinned (OpenSpec.upto arenaFitsSpec)

/-- 'pintlelaw39.PeepOnce', WHERE WHAT IT READS IS OF BULK AT MOST 1048576: true; the input reads as it did. -/
def peepOnceUptoRow : OpenClaim := { program := "ytgemajmimjkgcaa", sum := "239de071f382d87d12d8d9c49148ff00af3e21b4324186ac7dea18a0616ad654", func := "pintle/pintlelaw39.PeepOnce", spec := "peepOnce", recurses := true, apart := false, narrowed := true }
def PeepOnceUptoSaid : Prop := peepOnceUptoRow.holds Try.pinned (OpenSpec.upto peepOnceSpec)

end Rows
end Go.Proofs.Ytgemajmimjkgcaa
