/-
  NARROWER THAN 'FOR EVERY INPUT', by the rows' own cells (each row's printed sentence says how): FlowNexts: laid · FlowSpans: laid · FlowReaches: laid · FlowBacks: laid.
  DERIVED. THE GIVEN ROWS OF THIS SEAT. 4 by the template 'for every input the law returns true; each argument reads behind the call as it read before'; 0 by the template 'total and deterministic' (their statements: YtmlhoagcppofgaaDoorTotals.lean).
  GIVEN WITH THE SEED: the statements are not yours to turn. If you find one false, say at which input.
  Laid BY PROGRAM, IN A SANDBOX (cutbox-rows.mjs): the forced cells as the released guide's own fill.sh prints them over the translation 3b46c846ef6fff2e… (all of the seat's roots in one cut). By AI agents, Wed Nov 11 2026. No macro, syntax, notation, axiom, sorry.
-/
import Derived.Test.YtmlhoagcppofgaaDoorChecked
import GoSem.Claim
import GoSem.ClaimJoined
import GoSem.ClaimMapViews
import Derived.JoinedTies
import Derived.KernelRfl
namespace Go.Proofs.YtmlhoagcppofgaaDoor
/- THE CELL 'sum', in the pinned program and in every row, IS THE sha256 OF THE DUMP (.gsa) THAT YtmlhoagcppofgaaDoorProg.lean LOADS. Nothing in Lean hashes anything: it is a label: what it is worth is what the hold of that sum in a sandbox is worth. -/
noncomputable def Tryd.pinned : Pinned := { name := "ytmlhoagcppofgaadoor", sum := "3b46c846ef6fff2ea75f226d3157a9263d391b7e7acd90e5864ad8e2158e5dcb", checked := Tryd.checked }
namespace Rows
def none {H : Type} : Left H := { results := [], args := [] }

/- WHAT THE LISTED PACKAGE-LEVEL VARIABLES READ AS WHEN THE CALL BEGINS. Each datum BY PROGRAM (the guide's laid-datum.mjs) off the statement by which the dump's own 'gosem.cut.vars' lays the variable. In a bare row this is a premise. The card (YtmlhoagcppofgaaDoorCards.lean) ties it to the program's text. -/
def laid_pintle_inst_funct3 {H : Type} : DataW H := .agg [.lit (.int .u32 0), .lit (.int .u32 0), .lit (.int .u32 0), .lit (.int .u32 1), .lit (.int .u32 2), .lit (.int .u32 3), .lit (.int .u32 4), .lit (.int .u32 5), .lit (.int .u32 5), .lit (.int .u32 6), .lit (.int .u32 7), .lit (.int .u32 0), .lit (.int .u32 1), .lit (.int .u32 2), .lit (.int .u32 3), .lit (.int .u32 4), .lit (.int .u32 5), .lit (.int .u32 6), .lit (.int .u32 7), .lit (.int .u32 0), .lit (.int .u32 2), .lit (.int .u32 3), .lit (.int .u32 4), .lit (.int .u32 6), .lit (.int .u32 7), .lit (.int .u32 1), .lit (.int .u32 5), .lit (.int .u32 5), .lit (.int .u32 0), .lit (.int .u32 1), .lit (.int .u32 2), .lit (.int .u32 4), .lit (.int .u32 5), .lit (.int .u32 0), .lit (.int .u32 1), .lit (.int .u32 2), .lit (.int .u32 0), .lit (.int .u32 1), .lit (.int .u32 4), .lit (.int .u32 5), .lit (.int .u32 6), .lit (.int .u32 7), .lit (.int .u32 0), .lit (.int .u32 0), .lit (.int .u32 0), .lit (.int .u32 0), .lit (.int .u32 0), .lit (.int .u32 0), .lit (.int .u32 0)]

/-- 'pintlelaw42.FlowNexts': WHATEVER THE INPUT: true; the input reads as it did. -/
def flowNextsSpec : ChangeSpec := { name := "flowNexts", fn := fun _ => fun
  | [d1, d2] => { results := [.lit (.bool true)], args := [d1, d2] }
  | _ => none }
def flowNextsRow : OpenClaim := { program := "ytmlhoagcppofgaadoor", sum := "3b46c846ef6fff2ea75f226d3157a9263d391b7e7acd90e5864ad8e2158e5dcb", func := "pintle/pintlelaw42.FlowNexts", spec := "flowNexts", unfollowed := true, recurses := true, named := ["pintle/inst.funct3"], apart := false, laid := [("pintle/inst.funct3", laid_pintle_inst_funct3)] }
def FlowNextsSaid : Prop := flowNextsRow.holds Tryd.pinned (OpenSpec.ofChange flowNextsSpec)

/-- ITS FALSE NEIGHBOUR: 'it returns false'. Refute it at one input. -/
def flowNextsWrong : ChangeSpec := { name := "flowNexts", fn := fun _ => fun
  | [d1, d2] => { results := [.lit (.bool false)], args := [d1, d2] }
  | _ => none }
def FlowNextsWrongFalsely : Prop := flowNextsRow.holds Tryd.pinned (OpenSpec.ofChange flowNextsWrong)

/-- 'pintlelaw42.FlowSpans': WHATEVER THE INPUT: true; the input reads as it did. -/
def flowSpansSpec : ChangeSpec := { name := "flowSpans", fn := fun _ => fun
  | [d] => { results := [.lit (.bool true)], args := [d] }
  | _ => none }
def flowSpansRow : OpenClaim := { program := "ytmlhoagcppofgaadoor", sum := "3b46c846ef6fff2ea75f226d3157a9263d391b7e7acd90e5864ad8e2158e5dcb", func := "pintle/pintlelaw42.FlowSpans", spec := "flowSpans", unfollowed := true, recurses := true, named := ["pintle/inst.funct3"], apart := false, laid := [("pintle/inst.funct3", laid_pintle_inst_funct3)] }
def FlowSpansSaid : Prop := flowSpansRow.holds Tryd.pinned (OpenSpec.ofChange flowSpansSpec)

/-- ITS FALSE NEIGHBOUR: 'it returns false'. Refute it at one input. -/
def flowSpansWrong : ChangeSpec := { name := "flowSpans", fn := fun _ => fun
  | [d] => { results := [.lit (.bool false)], args := [d] }
  | _ => none }
def FlowSpansWrongFalsely : Prop := flowSpansRow.holds Tryd.pinned (OpenSpec.ofChange flowSpansWrong)

/-- 'pintlelaw42.FlowReaches': WHATEVER THE INPUT: true; the input reads as it did. -/
def flowReachesSpec : ChangeSpec := { name := "flowReaches", fn := fun _ => fun
  | [d1, d2] => { results := [.lit (.bool true)], args := [d1, d2] }
  | _ => none }
def flowReachesRow : OpenClaim := { program := "ytmlhoagcppofgaadoor", sum := "3b46c846ef6fff2ea75f226d3157a9263d391b7e7acd90e5864ad8e2158e5dcb", func := "pintle/pintlelaw42.FlowReaches", spec := "flowReaches", unfollowed := true, recurses := true, named := ["pintle/inst.funct3"], apart := false, laid := [("pintle/inst.funct3", laid_pintle_inst_funct3)] }
def FlowReachesSaid : Prop := flowReachesRow.holds Tryd.pinned (OpenSpec.ofChange flowReachesSpec)

/-- ITS FALSE NEIGHBOUR: 'it returns false'. Refute it at one input. -/
def flowReachesWrong : ChangeSpec := { name := "flowReaches", fn := fun _ => fun
  | [d1, d2] => { results := [.lit (.bool false)], args := [d1, d2] }
  | _ => none }
def FlowReachesWrongFalsely : Prop := flowReachesRow.holds Tryd.pinned (OpenSpec.ofChange flowReachesWrong)

/-- 'pintlelaw42.FlowBacks': WHATEVER THE INPUT: true; the input reads as it did. -/
def flowBacksSpec : ChangeSpec := { name := "flowBacks", fn := fun _ => fun
  | [d] => { results := [.lit (.bool true)], args := [d] }
  | _ => none }
def flowBacksRow : OpenClaim := { program := "ytmlhoagcppofgaadoor", sum := "3b46c846ef6fff2ea75f226d3157a9263d391b7e7acd90e5864ad8e2158e5dcb", func := "pintle/pintlelaw42.FlowBacks", spec := "flowBacks", unfollowed := true, recurses := true, named := ["pintle/inst.funct3"], apart := false, laid := [("pintle/inst.funct3", laid_pintle_inst_funct3)] }
def FlowBacksSaid : Prop := flowBacksRow.holds Tryd.pinned (OpenSpec.ofChange flowBacksSpec)

/-- ITS FALSE NEIGHBOUR: 'it returns false'. Refute it at one input. -/
def flowBacksWrong : ChangeSpec := { name := "flowBacks", fn := fun _ => fun
  | [d] => { results := [.lit (.bool false)], args := [d] }
  | _ => none }
def FlowBacksWrongFalsely : Prop := flowBacksRow.holds Tryd.pinned (OpenSpec.ofChange flowBacksWrong)

/- THE SECOND FORM. 'bulk': how many values and letters a reading holds, each counted each time it is reached (what is shared counts as often as it is met; a slice's spare places count too). A statement '..UptoSaid' is the law's where the arguments, and the package variables that the reading takes, are together of bulk at most 1048576: NARROWER than '..Said'. Prove '..Said' where nothing that the law and all that it calls make is longer than what came in: it says more and counts as full. Else prove '..UptoSaid'. A law counts once. -/
mutual
def uptoBulk {H : Type} : DataW H → Nat
  | .lit (.string bytes) => bytes.length + 1
  | .lit _ => 1
  | .nil => 1
  | .ptr d => uptoBulk d + 1
  | .slice elems spare => uptoBulkAll elems + uptoBulkAll spare + 1
  | .agg parts => uptoBulkAll parts + 1
  | .iface _ d => uptoBulk d + 1
  | .map entries => uptoBulkEntries entries + 1
  | .held _ => 1
def uptoBulkAll {H : Type} : List (DataW H) → Nat
  | [] => 0
  | d :: r => uptoBulk d + uptoBulkAll r
def uptoBulkEntries {H : Type} : List (Lit × DataW H) → Nat
  | [] => 0
  | x :: r => uptoBulkEntry x + uptoBulkEntries r
def uptoBulkEntry {H : Type} : Lit × DataW H → Nat
  | (.string bytes, d) => bytes.length + uptoBulk d + 1
  | (_, d) => uptoBulk d + 1
 end
def uptoSmall : (H : Type) → List (DataW H) → Bool := fun _ ds => decide (uptoBulkAll ds ≤ 1048576)
def OpenSpec.upto (s : _root_.Go.ChangeSpec) : _root_.Go.OpenSpec := { _root_.Go.OpenSpec.ofChange s with cond := some uptoSmall }

/-- 'pintlelaw42.FlowNexts', WHERE WHAT IT READS IS OF BULK AT MOST 1048576: true; the input reads as it did. -/
def flowNextsUptoRow : OpenClaim := { program := "ytmlhoagcppofgaadoor", sum := "3b46c846ef6fff2ea75f226d3157a9263d391b7e7acd90e5864ad8e2158e5dcb", func := "pintle/pintlelaw42.FlowNexts", spec := "flowNexts", unfollowed := true, recurses := true, named := ["pintle/inst.funct3"], apart := false, laid := [("pintle/inst.funct3", laid_pintle_inst_funct3)], narrowed := true }
def FlowNextsUptoSaid : Prop := flowNextsUptoRow.holds Tryd.pinned (OpenSpec.upto flowNextsSpec)

/-- 'pintlelaw42.FlowSpans', WHERE WHAT IT READS IS OF BULK AT MOST 1048576: true; the input reads as it did. -/
def flowSpansUptoRow : OpenClaim := { program := "ytmlhoagcppofgaadoor", sum := "3b46c846ef6fff2ea75f226d3157a9263d391b7e7acd90e5864ad8e2158e5dcb", func := "pintle/pintlelaw42.FlowSpans", spec := "flowSpans", unfollowed := true, recurses := true, named := ["pintle/inst.funct3"], apart := false, laid := [("pintle/inst.funct3", laid_pintle_inst_funct3)], narrowed := true }
def FlowSpansUptoSaid : Prop := flowSpansUptoRow.holds Tryd.pinned (OpenSpec.upto flowSpansSpec)

/-- 'pintlelaw42.FlowReaches', WHERE WHAT IT READS IS OF BULK AT MOST 1048576: true; the input reads as it did. -/
def flowReachesUptoRow : OpenClaim := { program := "ytmlhoagcppofgaadoor", sum := "3b46c846ef6fff2ea75f226d3157a9263d391b7e7acd90e5864ad8e2158e5dcb", func := "pintle/pintlelaw42.FlowReaches", spec := "flowReaches", unfollowed := true, recurses := true, named := ["pintle/inst.funct3"], apart := false, laid := [("pintle/inst.funct3", laid_pintle_inst_funct3)], narrowed := true }
def FlowReachesUptoSaid : Prop := flowReachesUptoRow.holds Tryd.pinned (OpenSpec.upto flowReachesSpec)

/-- 'pintlelaw42.FlowBacks', WHERE WHAT IT READS IS OF BULK AT MOST 1048576: true; the input reads as it did. -/
def flowBacksUptoRow : OpenClaim := { program := "ytmlhoagcppofgaadoor", sum := "3b46c846ef6fff2ea75f226d3157a9263d391b7e7acd90e5864ad8e2158e5dcb", func := "pintle/pintlelaw42.FlowBacks", spec := "flowBacks", unfollowed := true, recurses := true, named := ["pintle/inst.funct3"], apart := false, laid := [("pintle/inst.funct3", laid_pintle_inst_funct3)], narrowed := true }
def FlowBacksUptoSaid : Prop := flowBacksUptoRow.holds Tryd.pinned (OpenSpec.upto flowBacksSpec)

end Rows
end Go.Proofs.YtmlhoagcppofgaaDoor
