/-
  No cell of these rows narrows 'for every input' (looked for: loops, veiled, ifaces, maps, wideKeys, modest, calm, conditions, laid).
  DERIVED. THE GIVEN ROWS OF THIS SEAT. 4 by the template 'for every input the law returns true; each argument reads behind the call as it read before'; 0 by the template 'total and deterministic' (their statements: YtmmhoemddfncmaaTotals.lean).
  GIVEN WITH THE SEED: the statements are not yours to turn. If you find one false, say at which input.
  Laid BY PROGRAM, IN A SANDBOX (cutbox-rows.mjs): the forced cells as the released guide's own fill.sh prints them over the translation 589b481a1cb571b2… (all of the seat's roots in one cut). By AI agents, Wed Nov 11 2026. No macro, syntax, notation, axiom, sorry.
-/
import Derived.Test.YtmmhoemddfncmaaChecked
import GoSem.Claim
import GoSem.ClaimJoined
import GoSem.ClaimMapViews
import Derived.JoinedTies
import Derived.KernelRfl
namespace Go.Proofs.Ytmmhoemddfncmaa
/- THE CELL 'sum', in the pinned program and in every row, IS THE sha256 OF THE DUMP (.gsa) THAT YtmmhoemddfncmaaProg.lean LOADS. Nothing in Lean hashes anything: it is a label: what it is worth is what the hold of that sum in a sandbox is worth. -/
noncomputable def Try.pinned : Pinned := { name := "ytmmhoemddfncmaa", sum := "589b481a1cb571b224a403a065d126e988a640d0afb62418f513a9682da8d4f3", checked := Try.checked }
namespace Rows
def none {H : Type} : Left H := { results := [], args := [] }

/-- 'pintlelaw30.ArenaFits': WHATEVER THE INPUT: true; the input reads as it did. -/
def arenaFitsSpec : ChangeSpec := { name := "arenaFits", fn := fun _ => fun
  | [d] => { results := [.lit (.bool true)], args := [d] }
  | _ => none }
def arenaFitsRow : OpenClaim := { program := "ytmmhoemddfncmaa", sum := "589b481a1cb571b224a403a065d126e988a640d0afb62418f513a9682da8d4f3", func := "pintle/pintlelaw30.ArenaFits", spec := "arenaFits", unfollowed := true, recurses := true, apart := false }
def ArenaFitsSaid : Prop := arenaFitsRow.holds Try.pinned (OpenSpec.ofChange arenaFitsSpec)

/-- ITS FALSE NEIGHBOUR: 'it returns false'. Refute it at one input. -/
def arenaFitsWrong : ChangeSpec := { name := "arenaFits", fn := fun _ => fun
  | [d] => { results := [.lit (.bool false)], args := [d] }
  | _ => none }
def ArenaFitsWrongFalsely : Prop := arenaFitsRow.holds Try.pinned (OpenSpec.ofChange arenaFitsWrong)

/-- 'pintlelaw30.ArenaApart': WHATEVER THE INPUT: true; the input reads as it did. -/
def arenaApartSpec : ChangeSpec := { name := "arenaApart", fn := fun _ => fun
  | [d] => { results := [.lit (.bool true)], args := [d] }
  | _ => none }
def arenaApartRow : OpenClaim := { program := "ytmmhoemddfncmaa", sum := "589b481a1cb571b224a403a065d126e988a640d0afb62418f513a9682da8d4f3", func := "pintle/pintlelaw30.ArenaApart", spec := "arenaApart", unfollowed := true, recurses := true, apart := false }
def ArenaApartSaid : Prop := arenaApartRow.holds Try.pinned (OpenSpec.ofChange arenaApartSpec)

/-- ITS FALSE NEIGHBOUR: 'it returns false'. Refute it at one input. -/
def arenaApartWrong : ChangeSpec := { name := "arenaApart", fn := fun _ => fun
  | [d] => { results := [.lit (.bool false)], args := [d] }
  | _ => none }
def ArenaApartWrongFalsely : Prop := arenaApartRow.holds Try.pinned (OpenSpec.ofChange arenaApartWrong)

/-- 'pintlelaw30.ArenaBetween': WHATEVER THE INPUT: true; the input reads as it did. -/
def arenaBetweenSpec : ChangeSpec := { name := "arenaBetween", fn := fun _ => fun
  | [d] => { results := [.lit (.bool true)], args := [d] }
  | _ => none }
def arenaBetweenRow : OpenClaim := { program := "ytmmhoemddfncmaa", sum := "589b481a1cb571b224a403a065d126e988a640d0afb62418f513a9682da8d4f3", func := "pintle/pintlelaw30.ArenaBetween", spec := "arenaBetween", unfollowed := true, recurses := true, apart := false }
def ArenaBetweenSaid : Prop := arenaBetweenRow.holds Try.pinned (OpenSpec.ofChange arenaBetweenSpec)

/-- ITS FALSE NEIGHBOUR: 'it returns false'. Refute it at one input. -/
def arenaBetweenWrong : ChangeSpec := { name := "arenaBetween", fn := fun _ => fun
  | [d] => { results := [.lit (.bool false)], args := [d] }
  | _ => none }
def ArenaBetweenWrongFalsely : Prop := arenaBetweenRow.holds Try.pinned (OpenSpec.ofChange arenaBetweenWrong)

/-- 'pintlelaw30.ArenaOne': WHATEVER THE INPUT: true; the input reads as it did. -/
def arenaOneSpec : ChangeSpec := { name := "arenaOne", fn := fun _ => fun
  | [d] => { results := [.lit (.bool true)], args := [d] }
  | _ => none }
def arenaOneRow : OpenClaim := { program := "ytmmhoemddfncmaa", sum := "589b481a1cb571b224a403a065d126e988a640d0afb62418f513a9682da8d4f3", func := "pintle/pintlelaw30.ArenaOne", spec := "arenaOne", unfollowed := true, recurses := true, apart := false }
def ArenaOneSaid : Prop := arenaOneRow.holds Try.pinned (OpenSpec.ofChange arenaOneSpec)

/-- ITS FALSE NEIGHBOUR: 'it returns false'. Refute it at one input. -/
def arenaOneWrong : ChangeSpec := { name := "arenaOne", fn := fun _ => fun
  | [d] => { results := [.lit (.bool false)], args := [d] }
  | _ => none }
def ArenaOneWrongFalsely : Prop := arenaOneRow.holds Try.pinned (OpenSpec.ofChange arenaOneWrong)

/- THE SECOND FORM. 'bulk': how many values and letters a reading holds, each counted each time it is reached (what is shared counts as often as it is met; a slice's spare places count too). A statement '..UptoSaid' is the law's where the arguments, and the package variables that the reading takes, are together of bulk at most 1048576: NARROWER than '..Said'. Prove '..Said' where nothing that the law and all that it calls make is longer than what came in: it says more and counts as full. Else prove '..UptoSaid'. A law counts once. -/
mutual
def uptoBulk {H : Type} : DataW H → Nat
  | .lit (.string bytes) => bytes.length + 1
  | .lit _ => 1
  | .nil => 1
  | .ptr d => uptoBulk d + 1
  | .slice elems spare => uptoBulkAll elems + uptoBulkAll spare + 1
  | .agg parts => uptoBulkAll parts + 1
  | .iface _ d => uptoBulk d + 1
  | .map entries => uptoBulkEntries entries + 1
  | .held _ => 1
def uptoBulkAll {H : Type} : List (DataW H) → Nat
  | [] => 0
  | d :: r => uptoBulk d + uptoBulkAll r
def uptoBulkEntries {H : Type} : List (Lit × DataW H) → Nat
  | [] => 0
  | x :: r => uptoBulkEntry x + uptoBulkEntries r
def uptoBulkEntry {H : Type} : Lit × DataW H → Nat
  | (.string bytes, d) => bytes.length + uptoBulk d + 1
  | (_, d) => uptoBulk d + 1
 end
def uptoSmall : (H : Type) → List (DataW H) → Bool := fun _ ds => decide (uptoBulkAll ds ≤ 1048576)
def OpenSpec.upto (s : _root_.Go.ChangeSpec) : _root_.Go.OpenSpec := { _root_.Go.OpenSpec.ofChange s with cond := some uptoSmall }

/-- 'pintlelaw30.ArenaFits', WHERE WHAT IT READS IS OF BULK AT MOST 1048576: true; the input reads as it did. -/
def arenaFitsUptoRow : OpenClaim := { program := "ytmmhoemddfncmaa", sum := "589b481a1cb571b224a403a065d126e988a640d0afb62418f513a9682da8d4f3", func := "pintle/pintlelaw30.ArenaFits", spec := "arenaFits", unfollowed := true, recurses := true, apart := false, narrowed := true }
def ArenaFitsUptoSaid : Prop := arenaFitsUptoRow.holds Try.pinned (OpenSpec.upto arenaFitsSpec)

/-- 'pintlelaw30.ArenaApart', WHERE WHAT IT READS IS OF BULK AT MOST 1048576: true; the input reads as it did. -/
def arenaApartUptoRow : OpenClaim := { program := "ytmmhoemddfncmaa", sum := "589b481a1cb571b224a403a065d126e988a640d0afb62418f513a9682da8d4f3", func := "pintle/pintlelaw30.ArenaApart", spec := "arenaApart", unfollowed := true, recurses := true, apart := false, narrowed := true }
def ArenaApartUptoSaid : Prop := arenaApartUptoRow.holds Try.pinned (OpenSpec.upto arenaApartSpec)

/-- 'pintlelaw30.ArenaBetween', WHERE WHAT IT READS IS OF BULK AT MOST 1048576: true; the input reads as it did. -/
def arenaBetweenUptoRow : OpenClaim := { program := "ytmmhoemddfncmaa", sum := "589b481a1cb571b224a403a065d126e988a640d0afb62418f513a9682da8d4f3", func := "pintle/pintlelaw30.ArenaBetween", spec := "arenaBetween", unfollowed := true, recurses := true, apart := false, narrowed := true }
def ArenaBetweenUptoSaid : Prop := arenaBetweenUptoRow.holds Try.pinned (OpenSpec.upto arenaBetweenSpec)

/-- 'pintlelaw30.ArenaOne', WHERE WHAT IT READS IS OF BULK AT MOST 1048576: true; the input reads as it did. -/
def arenaOneUptoRow : OpenClaim := { program := "ytmmhoemddfncmaa", sum := "589b481a1cb571b224a403a065d126e988a640d0afb62418f513a9682da8d4f3", func := "pintle/pintlelaw30.ArenaOne", spec := "arenaOne", unfollowed := true, recurses := true, apart := false, narrowed := true }
def ArenaOneUptoSaid : Prop := arenaOneUptoRow.holds Try.pinned (OpenSpec.upto arenaOneSpec)

end Rows
end Go.Proofs.Ytmmhoemddfncmaa
