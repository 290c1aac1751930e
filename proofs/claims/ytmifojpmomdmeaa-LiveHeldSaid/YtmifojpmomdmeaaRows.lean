/-
  No cell of these rows narrows 'for every input' (looked for: loops, veiled, ifaces, maps, wideKeys, modest, calm, conditions, laid).
  DERIVED. THE GIVEN ROWS OF THIS SEAT. 5 by the template 'for every input the law returns true; each argument reads behind the call as it read before'; 0 by the template 'total and deterministic' (their statements: YtmifojpmomdmeaaTotals.lean).
  GIVEN WITH THE SEED: the statements are not yours to turn. If you find one false, say at which input.
  Laid BY PROGRAM, IN A SANDBOX (cutbox-rows.mjs): the forced cells as the released guide's own fill.sh prints them over the translation 62eae84f2a63f648… (all of the seat's roots in one cut). By AI agents, Wed Nov 11 2026. No macro, syntax, notation, axiom, sorry.
-/
import Derived.Test.YtmifojpmomdmeaaChecked
import GoSem.Claim
import GoSem.ClaimJoined
import GoSem.ClaimMapViews
import Derived.JoinedTies
import Derived.KernelRfl
namespace Go.Proofs.Ytmifojpmomdmeaa
/- THE CELL 'sum', in the pinned program and in every row, IS THE sha256 OF THE DUMP (.gsa) THAT YtmifojpmomdmeaaProg.lean LOADS. Nothing in Lean hashes anything: it is a label: what it is worth is what the hold of that sum in a sandbox is worth. -/
noncomputable def Try.pinned : Pinned := { name := "ytmifojpmomdmeaa", sum := "62eae84f2a63f648d392074a1da113d0d5a8e8783a28950e5de464a00e519d6f", checked := Try.checked }
namespace Rows
def none {H : Type} : Left H := { results := [], args := [] }

/-- 'pintlelaw29.LiveLives': WHATEVER THE INPUT: true; the input reads as it did. -/
def liveLivesSpec : ChangeSpec := { name := "liveLives", fn := fun _ => fun
  | [d1, d2] => { results := [.lit (.bool true)], args := [d1, d2] }
  | _ => none }
def liveLivesRow : OpenClaim := { program := "ytmifojpmomdmeaa", sum := "62eae84f2a63f648d392074a1da113d0d5a8e8783a28950e5de464a00e519d6f", func := "pintle/pintlelaw29.LiveLives", spec := "liveLives", unfollowed := true, recurses := true, apart := false }
def LiveLivesSaid : Prop := liveLivesRow.holds Try.pinned (OpenSpec.ofChange liveLivesSpec)

/-- ITS FALSE NEIGHBOUR: 'it returns false'. Refute it at one input. -/
def liveLivesWrong : ChangeSpec := { name := "liveLives", fn := fun _ => fun
  | [d1, d2] => { results := [.lit (.bool false)], args := [d1, d2] }
  | _ => none }
def LiveLivesWrongFalsely : Prop := liveLivesRow.holds Try.pinned (OpenSpec.ofChange liveLivesWrong)

/-- 'pintlelaw29.LivePeaks': WHATEVER THE INPUT: true; the input reads as it did. -/
def livePeaksSpec : ChangeSpec := { name := "livePeaks", fn := fun _ => fun
  | [d] => { results := [.lit (.bool true)], args := [d] }
  | _ => none }
def livePeaksRow : OpenClaim := { program := "ytmifojpmomdmeaa", sum := "62eae84f2a63f648d392074a1da113d0d5a8e8783a28950e5de464a00e519d6f", func := "pintle/pintlelaw29.LivePeaks", spec := "livePeaks", unfollowed := true, recurses := true, apart := false }
def LivePeaksSaid : Prop := livePeaksRow.holds Try.pinned (OpenSpec.ofChange livePeaksSpec)

/-- ITS FALSE NEIGHBOUR: 'it returns false'. Refute it at one input. -/
def livePeaksWrong : ChangeSpec := { name := "livePeaks", fn := fun _ => fun
  | [d] => { results := [.lit (.bool false)], args := [d] }
  | _ => none }
def LivePeaksWrongFalsely : Prop := livePeaksRow.holds Try.pinned (OpenSpec.ofChange livePeaksWrong)

/-- 'pintlelaw29.LiveHeld': WHATEVER THE INPUT: true; the input reads as it did. -/
def liveHeldSpec : ChangeSpec := { name := "liveHeld", fn := fun _ => fun
  | [d1, d2] => { results := [.lit (.bool true)], args := [d1, d2] }
  | _ => none }
def liveHeldRow : OpenClaim := { program := "ytmifojpmomdmeaa", sum := "62eae84f2a63f648d392074a1da113d0d5a8e8783a28950e5de464a00e519d6f", func := "pintle/pintlelaw29.LiveHeld", spec := "liveHeld", unfollowed := true, recurses := true, apart := false }
def LiveHeldSaid : Prop := liveHeldRow.holds Try.pinned (OpenSpec.ofChange liveHeldSpec)

/-- ITS FALSE NEIGHBOUR: 'it returns false'. Refute it at one input. -/
def liveHeldWrong : ChangeSpec := { name := "liveHeld", fn := fun _ => fun
  | [d1, d2] => { results := [.lit (.bool false)], args := [d1, d2] }
  | _ => none }
def LiveHeldWrongFalsely : Prop := liveHeldRow.holds Try.pinned (OpenSpec.ofChange liveHeldWrong)

/-- 'pintlelaw29.LiveOver': WHATEVER THE INPUT: true; the input reads as it did. -/
def liveOverSpec : ChangeSpec := { name := "liveOver", fn := fun _ => fun
  | [d] => { results := [.lit (.bool true)], args := [d] }
  | _ => none }
def liveOverRow : OpenClaim := { program := "ytmifojpmomdmeaa", sum := "62eae84f2a63f648d392074a1da113d0d5a8e8783a28950e5de464a00e519d6f", func := "pintle/pintlelaw29.LiveOver", spec := "liveOver", unfollowed := true, recurses := true, apart := false }
def LiveOverSaid : Prop := liveOverRow.holds Try.pinned (OpenSpec.ofChange liveOverSpec)

/-- ITS FALSE NEIGHBOUR: 'it returns false'. Refute it at one input. -/
def liveOverWrong : ChangeSpec := { name := "liveOver", fn := fun _ => fun
  | [d] => { results := [.lit (.bool false)], args := [d] }
  | _ => none }
def LiveOverWrongFalsely : Prop := liveOverRow.holds Try.pinned (OpenSpec.ofChange liveOverWrong)

/-- 'pintlelaw29.LiveLess': WHATEVER THE INPUT: true; the input reads as it did. -/
def liveLessSpec : ChangeSpec := { name := "liveLess", fn := fun _ => fun
  | [d] => { results := [.lit (.bool true)], args := [d] }
  | _ => none }
def liveLessRow : OpenClaim := { program := "ytmifojpmomdmeaa", sum := "62eae84f2a63f648d392074a1da113d0d5a8e8783a28950e5de464a00e519d6f", func := "pintle/pintlelaw29.LiveLess", spec := "liveLess", unfollowed := true, recurses := true, apart := false }
def LiveLessSaid : Prop := liveLessRow.holds Try.pinned (OpenSpec.ofChange liveLessSpec)

/-- ITS FALSE NEIGHBOUR: 'it returns false'. Refute it at one input. -/
def liveLessWrong : ChangeSpec := { name := "liveLess", fn := fun _ => fun
  | [d] => { results := [.lit (.bool false)], args := [d] }
  | _ => none }
def LiveLessWrongFalsely : Prop := liveLessRow.holds Try.pinned (OpenSpec.ofChange liveLessWrong)

/- THE SECOND FORM. 'bulk': how many values and letters a reading holds, each counted each time it is reached (what is shared counts as often as it is met; a slice's spare places count too). A statement '..UptoSaid' is the law's where the arguments, and the package variables that the reading takes, are together of bulk at most 1048576: NARROWER than '..Said'. Prove '..Said' where nothing that the law and all that it calls make is longer than what came in: it says more and counts as full. Else prove '..UptoSaid'. A law counts once. -/
mutual
def uptoBulk {H : Type} : DataW H → Nat
  | .lit (.string bytes) => bytes.length + 1
  | .lit _ => 1
  | .nil => 1
  | .ptr d => uptoBulk d + 1
  | .slice elems spare => uptoBulkAll elems + uptoBulkAll spare + 1
  | .agg parts => uptoBulkAll parts + 1
  | .iface _ d => uptoBulk d + 1
  | .map entries => uptoBulkEntries entries + 1
  | .held _ => 1
def uptoBulkAll {H : Type} : List (DataW H) → Nat
  | [] => 0
  | d :: r => uptoBulk d + uptoBulkAll r
def uptoBulkEntries {H : Type} : List (Lit × DataW H) → Nat
  | [] => 0
  | x :: r => uptoBulkEntry x + uptoBulkEntries r
def uptoBulkEntry {H : Type} : Lit × DataW H → Nat
  | (.string bytes, d) => bytes.length + uptoBulk d + 1
  | (_, d) => uptoBulk d + 1
 end
def uptoSmall : (H : Type) → List (DataW H) → Bool := fun _ ds => decide (uptoBulkAll ds ≤ 1048576)
def OpenSpec.upto (s : _root_.Go.ChangeSpec) : _root_.Go.OpenSpec := { _root_.Go.OpenSpec.ofChange s with cond := some uptoSmall }

/-- 'pintlelaw29.LiveLives', WHERE WHAT IT READS IS OF BULK AT MOST 1048576: true; the input reads as it did. -/
def liveLivesUptoRow : OpenClaim := { program := "ytmifojpmomdmeaa", sum := "62eae84f2a63f648d392074a1da113d0d5a8e8783a28950e5de464a00e519d6f", func := "pintle/pintlelaw29.LiveLives", spec := "liveLives", unfollowed := true, recurses := true, apart := false, narrowed := true }
def LiveLivesUptoSaid : Prop := liveLivesUptoRow.holds Try.pinned (OpenSpec.upto liveLivesSpec)

/-- 'pintlelaw29.LivePeaks', WHERE WHAT IT READS IS OF BULK AT MOST 1048576: true; the input reads as it did. -/
def livePeaksUptoRow : OpenClaim := { program := "ytmifojpmomdmeaa", sum := "62eae84f2a63f648d392074a1da113d0d5a8e8783a28950e5de464a00e519d6f", func := "pintle/pintlelaw29.LivePeaks", spec := "livePeaks", unfollowed := true, recurses := true, apart := false, narrowed := true }
def LivePeaksUptoSaid : Prop := livePeaksUptoRow.holds Try.pinned (OpenSpec.upto livePeaksSpec)

/-- 'pintlelaw29.LiveHeld', WHERE WHAT IT READS IS OF BULK AT MOST 1048576: true; the input reads as it did. -/
def liveHeldUptoRow : OpenClaim := { program := "ytmifojpmomdmeaa", sum := "62eae84f2a63f648d392074a1da113d0d5a8e8783a28950e5de464a00e519d6f", func := "pintle/pintlelaw29.LiveHeld", spec := "liveHeld", unfollowed := true, recurses := true, apart := false, narrowed := true }
def LiveHeldUptoSaid : Prop := liveHeldUptoRow.holds Try.pinned (OpenSpec.upto liveHeldSpec)

/-- 'pintlelaw29.LiveOver', WHERE WHAT IT READS IS OF BULK AT MOST 1048576: true; the input reads as it did. -/
def liveOverUptoRow : OpenClaim := { program := "ytmifojpmomdmeaa", sum := "62eae84f2a63f648d392074a1da113d0d5a8e8783a28950e5de464a00e519d6f", func := "pintle/pintlelaw29.LiveOver", spec := "liveOver", unfollowed := true, recurses := true, apart := false, narrowed := true }
def LiveOverUptoSaid : Prop := liveOverUptoRow.holds Try.pinned (OpenSpec.upto liveOverSpec)

/-- 'pintlelaw29.LiveLess', WHERE WHAT IT READS IS OF BULK AT MOST 1048576: true; the input reads as it did. -/
def liveLessUptoRow : OpenClaim := { program := "ytmifojpmomdmeaa", sum := "62eae84f2a63f648d392074a1da113d0d5a8e8783a28950e5de464a00e519d6f", func := "pintle/pintlelaw29.LiveLess", spec := "liveLess", unfollowed := true, recurses := true, apart := false, narrowed := true }
def LiveLessUptoSaid : Prop := liveLessUptoRow.holds Try.pinned (OpenSpec.upto liveLessSpec)

end Rows
end Go.Proofs.Ytmifojpmomdmeaa
