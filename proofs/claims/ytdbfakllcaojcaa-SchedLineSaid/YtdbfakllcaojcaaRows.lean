/-
  No cell of these rows narrows 'for every input' (looked for: loops, veiled, ifaces, maps, wideKeys, modest, calm, conditions, laid).
  DERIVED. THE GIVEN ROWS OF THIS SEAT. 7 by the template 'for every input the law returns true; each argument reads behind the call as it read before'; 0 by the template 'total and deterministic' (their statements: YtdbfakllcaojcaaTotals.lean).
  GIVEN WITH THE SEED: the statements are not yours to turn. If you find one false, say at which input.
  Laid BY PROGRAM, IN A SANDBOX (cutbox-rows.mjs): the forced cells as the released guide's own fill.sh prints them over the translation 2ef9a51e6355f39f… (all of the seat's roots in one cut). By AI agents, Wed Nov 11 2026. No macro, syntax, notation, axiom, sorry.
-/
import Derived.Test.YtdbfakllcaojcaaChecked
import GoSem.Claim
import GoSem.ClaimJoined
import GoSem.ClaimMapViews
import Derived.JoinedTies
import Derived.KernelRfl
namespace Go.Proofs.Ytdbfakllcaojcaa
/- THE CELL 'sum', in the pinned program and in every row, IS THE sha256 OF THE DUMP (.gsa) THAT YtdbfakllcaojcaaProg.lean LOADS. Nothing in Lean hashes anything: it is a label: what it is worth is what the hold of that sum in a sandbox is worth. -/
noncomputable def Try.pinned : Pinned := { name := "ytdbfakllcaojcaa", sum := "2ef9a51e6355f39f7b4b5385a7627448317a4d38388455ba6a27a10a984983e9", checked := Try.checked }
namespace Rows
def none {H : Type} : Left H := { results := [], args := [] }

/-- 'pintlelaw27.FuseUses': WHATEVER THE INPUT: true; the input reads as it did. -/
def fuseUsesSpec : ChangeSpec := { name := "fuseUses", fn := fun _ => fun
  | [d] => { results := [.lit (.bool true)], args := [d] }
  | _ => none }
def fuseUsesRow : OpenClaim := { program := "ytdbfakllcaojcaa", sum := "2ef9a51e6355f39f7b4b5385a7627448317a4d38388455ba6a27a10a984983e9", func := "pintle/pintlelaw27.FuseUses", spec := "fuseUses", unfollowed := true, recurses := true, apart := false }
def FuseUsesSaid : Prop := fuseUsesRow.holds Try.pinned (OpenSpec.ofChange fuseUsesSpec)

/-- ITS FALSE NEIGHBOUR: 'it returns false'. Refute it at one input. -/
def fuseUsesWrong : ChangeSpec := { name := "fuseUses", fn := fun _ => fun
  | [d] => { results := [.lit (.bool false)], args := [d] }
  | _ => none }
def FuseUsesWrongFalsely : Prop := fuseUsesRow.holds Try.pinned (OpenSpec.ofChange fuseUsesWrong)

/-- 'pintlelaw27.FuseFuses': WHATEVER THE INPUT: true; the input reads as it did. -/
def fuseFusesSpec : ChangeSpec := { name := "fuseFuses", fn := fun _ => fun
  | [d] => { results := [.lit (.bool true)], args := [d] }
  | _ => none }
def fuseFusesRow : OpenClaim := { program := "ytdbfakllcaojcaa", sum := "2ef9a51e6355f39f7b4b5385a7627448317a4d38388455ba6a27a10a984983e9", func := "pintle/pintlelaw27.FuseFuses", spec := "fuseFuses", unfollowed := true, recurses := true, apart := false }
def FuseFusesSaid : Prop := fuseFusesRow.holds Try.pinned (OpenSpec.ofChange fuseFusesSpec)

/-- ITS FALSE NEIGHBOUR: 'it returns false'. Refute it at one input. -/
def fuseFusesWrong : ChangeSpec := { name := "fuseFuses", fn := fun _ => fun
  | [d] => { results := [.lit (.bool false)], args := [d] }
  | _ => none }
def FuseFusesWrongFalsely : Prop := fuseFusesRow.holds Try.pinned (OpenSpec.ofChange fuseFusesWrong)

/-- 'pintlelaw27.FuseSound': WHATEVER THE INPUT: true; the input reads as it did. -/
def fuseSoundSpec : ChangeSpec := { name := "fuseSound", fn := fun _ => fun
  | [d] => { results := [.lit (.bool true)], args := [d] }
  | _ => none }
def fuseSoundRow : OpenClaim := { program := "ytdbfakllcaojcaa", sum := "2ef9a51e6355f39f7b4b5385a7627448317a4d38388455ba6a27a10a984983e9", func := "pintle/pintlelaw27.FuseSound", spec := "fuseSound", unfollowed := true, recurses := true, apart := false }
def FuseSoundSaid : Prop := fuseSoundRow.holds Try.pinned (OpenSpec.ofChange fuseSoundSpec)

/-- ITS FALSE NEIGHBOUR: 'it returns false'. Refute it at one input. -/
def fuseSoundWrong : ChangeSpec := { name := "fuseSound", fn := fun _ => fun
  | [d] => { results := [.lit (.bool false)], args := [d] }
  | _ => none }
def FuseSoundWrongFalsely : Prop := fuseSoundRow.holds Try.pinned (OpenSpec.ofChange fuseSoundWrong)

/-- 'pintlelaw28.SchedNeeded': WHATEVER THE INPUT: true; the input reads as it did. -/
def schedNeededSpec : ChangeSpec := { name := "schedNeeded", fn := fun _ => fun
  | [d] => { results := [.lit (.bool true)], args := [d] }
  | _ => none }
def schedNeededRow : OpenClaim := { program := "ytdbfakllcaojcaa", sum := "2ef9a51e6355f39f7b4b5385a7627448317a4d38388455ba6a27a10a984983e9", func := "pintle/pintlelaw28.SchedNeeded", spec := "schedNeeded", unfollowed := true, recurses := true, apart := false }
def SchedNeededSaid : Prop := schedNeededRow.holds Try.pinned (OpenSpec.ofChange schedNeededSpec)

/-- ITS FALSE NEIGHBOUR: 'it returns false'. Refute it at one input. -/
def schedNeededWrong : ChangeSpec := { name := "schedNeeded", fn := fun _ => fun
  | [d] => { results := [.lit (.bool false)], args := [d] }
  | _ => none }
def SchedNeededWrongFalsely : Prop := schedNeededRow.holds Try.pinned (OpenSpec.ofChange schedNeededWrong)

/-- 'pintlelaw28.SchedOrders': WHATEVER THE INPUT: true; the input reads as it did. -/
def schedOrdersSpec : ChangeSpec := { name := "schedOrders", fn := fun _ => fun
  | [d] => { results := [.lit (.bool true)], args := [d] }
  | _ => none }
def schedOrdersRow : OpenClaim := { program := "ytdbfakllcaojcaa", sum := "2ef9a51e6355f39f7b4b5385a7627448317a4d38388455ba6a27a10a984983e9", func := "pintle/pintlelaw28.SchedOrders", spec := "schedOrders", unfollowed := true, recurses := true, apart := false }
def SchedOrdersSaid : Prop := schedOrdersRow.holds Try.pinned (OpenSpec.ofChange schedOrdersSpec)

/-- ITS FALSE NEIGHBOUR: 'it returns false'. Refute it at one input. -/
def schedOrdersWrong : ChangeSpec := { name := "schedOrders", fn := fun _ => fun
  | [d] => { results := [.lit (.bool false)], args := [d] }
  | _ => none }
def SchedOrdersWrongFalsely : Prop := schedOrdersRow.holds Try.pinned (OpenSpec.ofChange schedOrdersWrong)

/-- 'pintlelaw28.SchedAfter': WHATEVER THE INPUT: true; the input reads as it did. -/
def schedAfterSpec : ChangeSpec := { name := "schedAfter", fn := fun _ => fun
  | [d] => { results := [.lit (.bool true)], args := [d] }
  | _ => none }
def schedAfterRow : OpenClaim := { program := "ytdbfakllcaojcaa", sum := "2ef9a51e6355f39f7b4b5385a7627448317a4d38388455ba6a27a10a984983e9", func := "pintle/pintlelaw28.SchedAfter", spec := "schedAfter", unfollowed := true, recurses := true, apart := false }
def SchedAfterSaid : Prop := schedAfterRow.holds Try.pinned (OpenSpec.ofChange schedAfterSpec)

/-- ITS FALSE NEIGHBOUR: 'it returns false'. Refute it at one input. -/
def schedAfterWrong : ChangeSpec := { name := "schedAfter", fn := fun _ => fun
  | [d] => { results := [.lit (.bool false)], args := [d] }
  | _ => none }
def SchedAfterWrongFalsely : Prop := schedAfterRow.holds Try.pinned (OpenSpec.ofChange schedAfterWrong)

/-- 'pintlelaw28.SchedLine': WHATEVER THE INPUT: true; the input reads as it did. -/
def schedLineSpec : ChangeSpec := { name := "schedLine", fn := fun _ => fun
  | [d1, d2] => { results := [.lit (.bool true)], args := [d1, d2] }
  | _ => none }
def schedLineRow : OpenClaim := { program := "ytdbfakllcaojcaa", sum := "2ef9a51e6355f39f7b4b5385a7627448317a4d38388455ba6a27a10a984983e9", func := "pintle/pintlelaw28.SchedLine", spec := "schedLine", unfollowed := true, recurses := true, apart := false }
def SchedLineSaid : Prop := schedLineRow.holds Try.pinned (OpenSpec.ofChange schedLineSpec)

/-- ITS FALSE NEIGHBOUR: 'it returns false'. Refute it at one input. -/
def schedLineWrong : ChangeSpec := { name := "schedLine", fn := fun _ => fun
  | [d1, d2] => { results := [.lit (.bool false)], args := [d1, d2] }
  | _ => none }
def SchedLineWrongFalsely : Prop := schedLineRow.holds Try.pinned (OpenSpec.ofChange schedLineWrong)

/- THE SECOND FORM. 'bulk': how many values and letters a reading holds, each counted each time it is reached (what is shared counts as often as it is met; a slice's spare places count too). A statement '..UptoSaid' is the law's where the arguments, and the package variables that the reading takes, are together of bulk at most 1048576: NARROWER than '..Said'. Prove '..Said' where nothing that the law and all that it calls make is longer than what came in: it says more and counts as full. Else prove '..UptoSaid'. A law counts once. -/
mutual
def uptoBulk {H : Type} : DataW H → Nat
  | .lit (.string bytes) => bytes.length + 1
  | .lit _ => 1
  | .nil => 1
  | .ptr d => uptoBulk d + 1
  | .slice elems spare => uptoBulkAll elems + uptoBulkAll spare + 1
  | .agg parts => uptoBulkAll parts + 1
  | .iface _ d => uptoBulk d + 1
  | .map entries => uptoBulkEntries entries + 1
  | .held _ => 1
def uptoBulkAll {H : Type} : List (DataW H) → Nat
  | [] => 0
  | d :: r => uptoBulk d + uptoBulkAll r
def uptoBulkEntries {H : Type} : List (Lit × DataW H) → Nat
  | [] => 0
  | x :: r => uptoBulkEntry x + uptoBulkEntries r
def uptoBulkEntry {H : Type} : Lit × DataW H → Nat
  | (.string bytes, d) => bytes.length + uptoBulk d + 1
  | (_, d) => uptoBulk d + 1
 end
def uptoSmall : (H : Type) → List (DataW H) → Bool := fun _ ds => decide (uptoBulkAll ds ≤ 1048576)
def OpenSpec.upto (s : _root_.Go.ChangeSpec) : _root_.Go.OpenSpec := { _root_.Go.OpenSpec.ofChange s with cond := some uptoSmall }

/-- 'pintlelaw27.FuseUses', WHERE WHAT IT READS IS OF BULK AT MOST 1048576: true; the input reads as it did. -/
def fuseUsesUptoRow : OpenClaim := { program := "ytdbfakllcaojcaa", sum := "2ef9a51e6355f39f7b4b5385a7627448317a4d38388455ba6a27a10a984983e9", func := "pintle/pintlelaw27.FuseUses", spec := "fuseUses", unfollowed := true, recurses := true, apart := false, narrowed := true }
def FuseUsesUptoSaid : Prop := fuseUsesUptoRow.holds Try.pinned (OpenSpec.upto fuseUsesSpec)

/-- 'pintlelaw27.FuseFuses', WHERE WHAT IT READS IS OF BULK AT MOST 1048576: true; the input reads as it did. -/
def fuseFusesUptoRow : OpenClaim := { program := "ytdbfakllcaojcaa", sum := "2ef9a51e6355f39f7b4b5385a7627448317a4d38388455ba6a27a10a984983e9", func := "pintle/pintlelaw27.FuseFuses", spec := "fuseFuses", unfollowed := true, recurses := true, apart := false, narrowed := true }
def FuseFusesUptoSaid : Prop := fuseFusesUptoRow.holds Try.pinned (OpenSpec.upto fuseFusesSpec)

/-- 'pintlelaw27.FuseSound', WHERE WHAT IT READS IS OF BULK AT MOST 1048576: true; the input reads as it did. -/
def fuseSoundUptoRow : OpenClaim := { program := "ytdbfakllcaojcaa", sum := "2ef9a51e6355f39f7b4b5385a7627448317a4d38388455ba6a27a10a984983e9", func := "pintle/pintlelaw27.FuseSound", spec := "fuseSound", unfollowed := true, recurses := true, apart := false, narrowed := true }
def FuseSoundUptoSaid : Prop := fuseSoundUptoRow.holds Try.pinned (OpenSpec.upto fuseSoundSpec)

/-- 'pintlelaw28.SchedNeeded', WHERE WHAT IT READS IS OF BULK AT MOST 1048576: true; the input reads as it did. -/
def schedNeededUptoRow : OpenClaim := { program := "ytdbfakllcaojcaa", sum := "2ef9a51e6355f39f7b4b5385a7627448317a4d38388455ba6a27a10a984983e9", func := "pintle/pintlelaw28.SchedNeeded", spec := "schedNeeded", unfollowed := true, recurses := true, apart := false, narrowed := true }
def SchedNeededUptoSaid : Prop := schedNeededUptoRow.holds Try.pinned (OpenSpec.upto schedNeededSpec)

/-- 'pintlelaw28.SchedOrders', WHERE WHAT IT READS IS OF BULK AT MOST 1048576: true; the input reads as it did. -/
def schedOrdersUptoRow : OpenClaim := { program := "ytdbfakllcaojcaa", sum := "2ef9a51e6355f39f7b4b5385a7627448317a4d38388455ba6a27a10a984983e9", func := "pintle/pintlelaw28.SchedOrders", spec := "schedOrders", unfollowed := true, recurses := true, apart := false, narrowed := true }
def SchedOrdersUptoSaid : Prop := schedOrdersUptoRow.holds Try.pinned (OpenSpec.upto schedOrdersSpec)

/-- 'pintlelaw28.SchedAfter', WHERE WHAT IT READS IS OF BULK AT MOST 1048576: true; the input reads as it did. -/
def schedAfterUptoRow : OpenClaim := { program := "ytdbfakllcaojcaa", sum := "2ef9a51e6355f39f7b4b5385a7627448317a4d38388455ba6a27a10a984983e9", func := "pintle/pintlelaw28.SchedAfter", spec := "schedAfter", unfollowed := true, recurses := true, apart := false, narrowed := true }
def SchedAfterUptoSaid : Prop := schedAfterUptoRow.holds Try.pinned (OpenSpec.upto schedAfterSpec)

/-- 'pintlelaw28.SchedLine', WHERE WHAT IT READS IS OF BULK AT MOST 1048576: true; the input reads as it did. -/
def schedLineUptoRow : OpenClaim := { program := "ytdbfakllcaojcaa", sum := "2ef9a51e6355f39f7b4b5385a7627448317a4d38388455ba6a27a10a984983e9", func := "pintle/pintlelaw28.SchedLine", spec := "schedLine", unfollowed := true, recurses := true, apart := false, narrowed := true }
def SchedLineUptoSaid : Prop := schedLineUptoRow.holds Try.pinned (OpenSpec.upto schedLineSpec)

end Rows
end Go.Proofs.Ytdbfakllcaojcaa
