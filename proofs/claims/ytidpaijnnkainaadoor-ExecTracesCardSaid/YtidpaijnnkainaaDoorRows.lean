/-
  NARROWER THAN 'FOR EVERY INPUT', by the rows' own cells (each row's printed sentence says how): ExecRuns: laid · ExecTraces: laid · ExecParts: laid · ExecTraps: laid · FlowBacks: laid.
  DERIVED. THE GIVEN ROWS OF THIS SEAT. 5 by the template 'for every input the law returns true; each argument reads behind the call as it read before'; 0 by the template 'total and deterministic' (their statements: YtidpaijnnkainaaDoorTotals.lean).
  GIVEN WITH THE SEED: the statements are not yours to turn. If you find one false, say at which input.
  Laid BY PROGRAM, IN A SANDBOX (cutbox-rows.mjs): the forced cells as the released guide's own fill.sh prints them over the translation f4198cec9f227e95… (all of the seat's roots in one cut). By AI agents, Wed Nov 11 2026. No macro, syntax, notation, axiom, sorry.
-/
import Derived.Test.YtidpaijnnkainaaDoorChecked
import GoSem.Claim
import GoSem.ClaimJoined
import GoSem.ClaimMapViews
import Derived.JoinedTies
import Derived.KernelRfl
namespace Go.Proofs.YtidpaijnnkainaaDoor
/- THE CELL 'sum', in the pinned program and in every row, IS THE sha256 OF THE DUMP (.gsa) THAT YtidpaijnnkainaaDoorProg.lean LOADS. Nothing in Lean hashes anything: it is a label: what it is worth is what the hold of that sum in a sandbox is worth. -/
noncomputable def Tryd.pinned : Pinned := { name := "ytidpaijnnkainaadoor", sum := "f4198cec9f227e95a3d8cfb3fc6564482f6e00ce9345e627d982dcdbe7d32925", checked := Tryd.checked }
namespace Rows
def none {H : Type} : Left H := { results := [], args := [] }

/- WHAT THE LISTED PACKAGE-LEVEL VARIABLES READ AS WHEN THE CALL BEGINS. Each datum BY PROGRAM (the guide's laid-datum.mjs) off the statement by which the dump's own 'gosem.cut.vars' lays the variable. In a bare row this is a premise. The card (YtidpaijnnkainaaDoorCards.lean) ties it to the program's text. -/
def laid_pintle_inst_funct3 {H : Type} : DataW H := .agg [.lit (.int .u32 0), .lit (.int .u32 0), .lit (.int .u32 0), .lit (.int .u32 1), .lit (.int .u32 2), .lit (.int .u32 3), .lit (.int .u32 4), .lit (.int .u32 5), .lit (.int .u32 5), .lit (.int .u32 6), .lit (.int .u32 7), .lit (.int .u32 0), .lit (.int .u32 1), .lit (.int .u32 2), .lit (.int .u32 3), .lit (.int .u32 4), .lit (.int .u32 5), .lit (.int .u32 6), .lit (.int .u32 7), .lit (.int .u32 0), .lit (.int .u32 2), .lit (.int .u32 3), .lit (.int .u32 4), .lit (.int .u32 6), .lit (.int .u32 7), .lit (.int .u32 1), .lit (.int .u32 5), .lit (.int .u32 5), .lit (.int .u32 0), .lit (.int .u32 1), .lit (.int .u32 2), .lit (.int .u32 4), .lit (.int .u32 5), .lit (.int .u32 0), .lit (.int .u32 1), .lit (.int .u32 2), .lit (.int .u32 0), .lit (.int .u32 1), .lit (.int .u32 4), .lit (.int .u32 5), .lit (.int .u32 6), .lit (.int .u32 7), .lit (.int .u32 0), .lit (.int .u32 0), .lit (.int .u32 0), .lit (.int .u32 0), .lit (.int .u32 0), .lit (.int .u32 0), .lit (.int .u32 0)]

/-- 'pintlelaw07.ExecRuns': WHATEVER THE INPUT: true; the input reads as it did. -/
def execRunsSpec : ChangeSpec := { name := "execRuns", fn := fun _ => fun
  | [d1, d2, d3] => { results := [.lit (.bool true)], args := [d1, d2, d3] }
  | _ => none }
def execRunsRow : OpenClaim := { program := "ytidpaijnnkainaadoor", sum := "f4198cec9f227e95a3d8cfb3fc6564482f6e00ce9345e627d982dcdbe7d32925", func := "pintle/pintlelaw07.ExecRuns", spec := "execRuns", unfollowed := true, recurses := true, named := ["pintle/inst.funct3"], apart := false, laid := [("pintle/inst.funct3", laid_pintle_inst_funct3)] }
def ExecRunsSaid : Prop := execRunsRow.holds Tryd.pinned (OpenSpec.ofChange execRunsSpec)

/-- ITS FALSE NEIGHBOUR: 'it returns false'. Refute it at one input. -/
def execRunsWrong : ChangeSpec := { name := "execRuns", fn := fun _ => fun
  | [d1, d2, d3] => { results := [.lit (.bool false)], args := [d1, d2, d3] }
  | _ => none }
def ExecRunsWrongFalsely : Prop := execRunsRow.holds Tryd.pinned (OpenSpec.ofChange execRunsWrong)

/-- 'pintlelaw07.ExecTraces': WHATEVER THE INPUT: true; the input reads as it did. -/
def execTracesSpec : ChangeSpec := { name := "execTraces", fn := fun _ => fun
  | [d1, d2, d3] => { results := [.lit (.bool true)], args := [d1, d2, d3] }
  | _ => none }
def execTracesRow : OpenClaim := { program := "ytidpaijnnkainaadoor", sum := "f4198cec9f227e95a3d8cfb3fc6564482f6e00ce9345e627d982dcdbe7d32925", func := "pintle/pintlelaw07.ExecTraces", spec := "execTraces", unfollowed := true, recurses := true, named := ["pintle/inst.funct3"], apart := false, laid := [("pintle/inst.funct3", laid_pintle_inst_funct3)] }
def ExecTracesSaid : Prop := execTracesRow.holds Tryd.pinned (OpenSpec.ofChange execTracesSpec)

/-- ITS FALSE NEIGHBOUR: 'it returns false'. Refute it at one input. -/
def execTracesWrong : ChangeSpec := { name := "execTraces", fn := fun _ => fun
  | [d1, d2, d3] => { results := [.lit (.bool false)], args := [d1, d2, d3] }
  | _ => none }
def ExecTracesWrongFalsely : Prop := execTracesRow.holds Tryd.pinned (OpenSpec.ofChange execTracesWrong)

/-- 'pintlelaw07.ExecParts': WHATEVER THE INPUT: true; the input reads as it did. -/
def execPartsSpec : ChangeSpec := { name := "execParts", fn := fun _ => fun
  | [d1, d2, d3] => { results := [.lit (.bool true)], args := [d1, d2, d3] }
  | _ => none }
def execPartsRow : OpenClaim := { program := "ytidpaijnnkainaadoor", sum := "f4198cec9f227e95a3d8cfb3fc6564482f6e00ce9345e627d982dcdbe7d32925", func := "pintle/pintlelaw07.ExecParts", spec := "execParts", unfollowed := true, recurses := true, named := ["pintle/inst.funct3"], apart := false, laid := [("pintle/inst.funct3", laid_pintle_inst_funct3)] }
def ExecPartsSaid : Prop := execPartsRow.holds Tryd.pinned (OpenSpec.ofChange execPartsSpec)

/-- ITS FALSE NEIGHBOUR: 'it returns false'. Refute it at one input. -/
def execPartsWrong : ChangeSpec := { name := "execParts", fn := fun _ => fun
  | [d1, d2, d3] => { results := [.lit (.bool false)], args := [d1, d2, d3] }
  | _ => none }
def ExecPartsWrongFalsely : Prop := execPartsRow.holds Tryd.pinned (OpenSpec.ofChange execPartsWrong)

/-- 'pintlelaw07.ExecTraps': WHATEVER THE INPUT: true; the input reads as it did. -/
def execTrapsSpec : ChangeSpec := { name := "execTraps", fn := fun _ => fun
  | [d1, d2] => { results := [.lit (.bool true)], args := [d1, d2] }
  | _ => none }
def execTrapsRow : OpenClaim := { program := "ytidpaijnnkainaadoor", sum := "f4198cec9f227e95a3d8cfb3fc6564482f6e00ce9345e627d982dcdbe7d32925", func := "pintle/pintlelaw07.ExecTraps", spec := "execTraps", unfollowed := true, recurses := true, named := ["pintle/inst.funct3"], apart := false, laid := [("pintle/inst.funct3", laid_pintle_inst_funct3)] }
def ExecTrapsSaid : Prop := execTrapsRow.holds Tryd.pinned (OpenSpec.ofChange execTrapsSpec)

/-- ITS FALSE NEIGHBOUR: 'it returns false'. Refute it at one input. -/
def execTrapsWrong : ChangeSpec := { name := "execTraps", fn := fun _ => fun
  | [d1, d2] => { results := [.lit (.bool false)], args := [d1, d2] }
  | _ => none }
def ExecTrapsWrongFalsely : Prop := execTrapsRow.holds Tryd.pinned (OpenSpec.ofChange execTrapsWrong)

/-- 'pintlelaw42.FlowBacks': WHATEVER THE INPUT: true; the input reads as it did. -/
def flowBacksSpec : ChangeSpec := { name := "flowBacks", fn := fun _ => fun
  | [d] => { results := [.lit (.bool true)], args := [d] }
  | _ => none }
def flowBacksRow : OpenClaim := { program := "ytidpaijnnkainaadoor", sum := "f4198cec9f227e95a3d8cfb3fc6564482f6e00ce9345e627d982dcdbe7d32925", func := "pintle/pintlelaw42.FlowBacks", spec := "flowBacks", unfollowed := true, recurses := true, named := ["pintle/inst.funct3"], apart := false, laid := [("pintle/inst.funct3", laid_pintle_inst_funct3)] }
def FlowBacksSaid : Prop := flowBacksRow.holds Tryd.pinned (OpenSpec.ofChange flowBacksSpec)

/-- ITS FALSE NEIGHBOUR: 'it returns false'. Refute it at one input. -/
def flowBacksWrong : ChangeSpec := { name := "flowBacks", fn := fun _ => fun
  | [d] => { results := [.lit (.bool false)], args := [d] }
  | _ => none }
def FlowBacksWrongFalsely : Prop := flowBacksRow.holds Tryd.pinned (OpenSpec.ofChange flowBacksWrong)

/- THE SECOND FORM. 'bulk': how many values and letters a reading holds, each counted each time it is reached (what is shared counts as often as it is met; a slice's spare places count too). A statement '..UptoSaid' is the law's where the arguments, and the package variables that the reading takes, are together of bulk at most 1048576: NARROWER than '..Said'. Prove '..Said' where nothing that the law and all that it calls make is longer than what came in: it says more and counts as full. Else prove '..UptoSaid'. A law counts once. -/
mutual
def uptoBulk {H : Type} : DataW H → Nat
  | .lit (.string bytes) => bytes.length + 1
  | .lit _ => 1
  | .nil => 1
  | .ptr d => uptoBulk d + 1
  | .slice elems spare => uptoBulkAll elems + uptoBulkAll spare + 1
  | .agg parts => uptoBulkAll parts + 1
  | .iface _ d => uptoBulk d + 1
  | .map entries => uptoBulkEntries entries + 1
  | .held _ => 1
def uptoBulkAll {H : Type} : List (DataW H) → Nat
  | [] => 0
  | d :: r => uptoBulk d + uptoBulkAll r
def uptoBulkEntries {H : Type} : List (Lit × DataW H) → Nat
  | [] => 0
  | x :: r => uptoBulkEntry x + uptoBulkEntries r
def uptoBulkEntry {H : Type} : Lit × DataW H → Nat
  | (.string bytes, d) => bytes.length + uptoBulk d + 1
  | (_, d) => uptoBulk d + 1
 end
def uptoSmall : (H : Type) → List (DataW H) → Bool := fun _ ds => decide (uptoBulkAll ds ≤ 1048576)
def OpenSpec.upto (s : _root_.Go.ChangeSpec) : _root_.Go.OpenSpec := { _root_.Go.OpenSpec.ofChange s with cond := some uptoSmall }

/-- 'pintlelaw07.ExecRuns', WHERE WHAT IT READS IS OF BULK AT MOST 1048576: true; the input reads as it did. -/
def execRunsUptoRow : OpenClaim := { program := "ytidpaijnnkainaadoor", sum := "f4198cec9f227e95a3d8cfb3fc6564482f6e00ce9345e627d982dcdbe7d32925", func := "pintle/pintlelaw07.ExecRuns", spec := "execRuns", unfollowed := true, recurses := true, named := ["pintle/inst.funct3"], apart := false, laid := [("pintle/inst.funct3", laid_pintle_inst_funct3)], narrowed := true }
def ExecRunsUptoSaid : Prop := execRunsUptoRow.holds Tryd.pinned (OpenSpec.upto execRunsSpec)

/-- 'pintlelaw07.ExecTraces', WHERE WHAT IT READS IS OF BULK AT MOST 1048576: true; the input reads as it did. -/
def execTracesUptoRow : OpenClaim := { program := "ytidpaijnnkainaadoor", sum := "f4198cec9f227e95a3d8cfb3fc6564482f6e00ce9345e627d982dcdbe7d32925", func := "pintle/pintlelaw07.ExecTraces", spec := "execTraces", unfollowed := true, recurses := true, named := ["pintle/inst.funct3"], apart := false, laid := [("pintle/inst.funct3", laid_pintle_inst_funct3)], narrowed := true }
def ExecTracesUptoSaid : Prop := execTracesUptoRow.holds Tryd.pinned (OpenSpec.upto execTracesSpec)

/-- 'pintlelaw07.ExecParts', WHERE WHAT IT READS IS OF BULK AT MOST 1048576: true; the input reads as it did. -/
def execPartsUptoRow : OpenClaim := { program := "ytidpaijnnkainaadoor", sum := "f4198cec9f227e95a3d8cfb3fc6564482f6e00ce9345e627d982dcdbe7d32925", func := "pintle/pintlelaw07.ExecParts", spec := "execParts", unfollowed := true, recurses := true, named := ["pintle/inst.funct3"], apart := false, laid := [("pintle/inst.funct3", laid_pintle_inst_funct3)], narrowed := true }
def ExecPartsUptoSaid : Prop := execPartsUptoRow.holds Tryd.pinned (OpenSpec.upto execPartsSpec)

/-- 'pintlelaw07.ExecTraps', WHERE WHAT IT READS IS OF BULK AT MOST 1048576: true; the input reads as it did. -/
def execTrapsUptoRow : OpenClaim := { program := "ytidpaijnnkainaadoor", sum := "f4198cec9f227e95a3d8cfb3fc6564482f6e00ce9345e627d982dcdbe7d32925", func := "pintle/pintlelaw07.ExecTraps", spec := "execTraps", unfollowed := true, recurses := true, named := ["pintle/inst.funct3"], apart := false, laid := [("pintle/inst.funct3", laid_pintle_inst_funct3)], narrowed := true }
def ExecTrapsUptoSaid : Prop := execTrapsUptoRow.holds Tryd.pinned (OpenSpec.upto execTrapsSpec)

/-- 'pintlelaw42.FlowBacks', WHERE WHAT IT READS IS OF BULK AT MOST 1048576: true; the input reads as it did. -/
def flowBacksUptoRow : OpenClaim := { program := "ytidpaijnnkainaadoor", sum := "f4198cec9f227e95a3d8cfb3fc6564482f6e00ce9345e627d982dcdbe7d32925", func := "pintle/pintlelaw42.FlowBacks", spec := "flowBacks", unfollowed := true, recurses := true, named := ["pintle/inst.funct3"], apart := false, laid := [("pintle/inst.funct3", laid_pintle_inst_funct3)], narrowed := true }
def FlowBacksUptoSaid : Prop := flowBacksUptoRow.holds Tryd.pinned (OpenSpec.upto flowBacksSpec)

end Rows
end Go.Proofs.YtidpaijnnkainaaDoor
