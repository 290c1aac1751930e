/-
  NARROWER THAN 'FOR EVERY INPUT', by the rows' own cells (each row's printed sentence says how): CpuOne: laid · CpuNoFurther: laid · CpuSteps: laid.
  DERIVED. THE GIVEN ROWS OF THIS SEAT. 3 by the template 'for every input the law returns true; each argument reads behind the call as it read before'; 0 by the template 'total and deterministic' (their statements: YtnkfdpkcnfefeaaDoorTotals.lean).
  GIVEN WITH THE SEED: the statements are not yours to turn. If you find one false, say at which input.
  Laid BY PROGRAM, IN A SANDBOX (cutbox-rows.mjs): the forced cells as the released guide's own fill.sh prints them over the translation 864bb935a5ab9fad… (all of the seat's roots in one cut). By AI agents, Wed Nov 11 2026. No macro, syntax, notation, axiom, sorry.
-/
import Derived.Test.YtnkfdpkcnfefeaaDoorChecked
import GoSem.Claim
import GoSem.ClaimJoined
import GoSem.ClaimMapViews
import Derived.JoinedTies
import Derived.KernelRfl
namespace Go.Proofs.YtnkfdpkcnfefeaaDoor
/- THE CELL 'sum', in the pinned program and in every row, IS THE sha256 OF THE DUMP (.gsa) THAT YtnkfdpkcnfefeaaDoorProg.lean LOADS. Nothing in Lean hashes anything: it is a label: what it is worth is what the hold of that sum in a sandbox is worth. -/
noncomputable def Tryd.pinned : Pinned := { name := "ytnkfdpkcnfefeaadoor", sum := "864bb935a5ab9fad11374b034bde026ef709add92336f0e8808fdb24a1eafc5b", checked := Tryd.checked }
namespace Rows
def none {H : Type} : Left H := { results := [], args := [] }

/- WHAT THE LISTED PACKAGE-LEVEL VARIABLES READ AS WHEN THE CALL BEGINS. Each datum BY PROGRAM (the guide's laid-datum.mjs) off the statement by which the dump's own 'gosem.cut.vars' lays the variable. In a bare row this is a premise. The card (YtnkfdpkcnfefeaaDoorCards.lean) ties it to the program's text. -/
def laid_pintle_inst_funct3 {H : Type} : DataW H := .agg [.lit (.int .u32 0), .lit (.int .u32 0), .lit (.int .u32 0), .lit (.int .u32 1), .lit (.int .u32 2), .lit (.int .u32 3), .lit (.int .u32 4), .lit (.int .u32 5), .lit (.int .u32 5), .lit (.int .u32 6), .lit (.int .u32 7), .lit (.int .u32 0), .lit (.int .u32 1), .lit (.int .u32 2), .lit (.int .u32 3), .lit (.int .u32 4), .lit (.int .u32 5), .lit (.int .u32 6), .lit (.int .u32 7), .lit (.int .u32 0), .lit (.int .u32 2), .lit (.int .u32 3), .lit (.int .u32 4), .lit (.int .u32 6), .lit (.int .u32 7), .lit (.int .u32 1), .lit (.int .u32 5), .lit (.int .u32 5), .lit (.int .u32 0), .lit (.int .u32 1), .lit (.int .u32 2), .lit (.int .u32 4), .lit (.int .u32 5), .lit (.int .u32 0), .lit (.int .u32 1), .lit (.int .u32 2), .lit (.int .u32 0), .lit (.int .u32 1), .lit (.int .u32 4), .lit (.int .u32 5), .lit (.int .u32 6), .lit (.int .u32 7), .lit (.int .u32 0), .lit (.int .u32 0), .lit (.int .u32 0), .lit (.int .u32 0), .lit (.int .u32 0), .lit (.int .u32 0), .lit (.int .u32 0)]

/-- 'pintlelaw06.CpuOne': WHATEVER THE INPUT: true; the input reads as it did. -/
def cpuOneSpec : ChangeSpec := { name := "cpuOne", fn := fun _ => fun
  | [d1, d2, d3] => { results := [.lit (.bool true)], args := [d1, d2, d3] }
  | _ => none }
def cpuOneRow : OpenClaim := { program := "ytnkfdpkcnfefeaadoor", sum := "864bb935a5ab9fad11374b034bde026ef709add92336f0e8808fdb24a1eafc5b", func := "pintle/pintlelaw06.CpuOne", spec := "cpuOne", named := ["pintle/inst.funct3"], apart := false, laid := [("pintle/inst.funct3", laid_pintle_inst_funct3)] }
def CpuOneSaid : Prop := cpuOneRow.holds Tryd.pinned (OpenSpec.ofChange cpuOneSpec)

/-- ITS FALSE NEIGHBOUR: 'it returns false'. Refute it at one input. -/
def cpuOneWrong : ChangeSpec := { name := "cpuOne", fn := fun _ => fun
  | [d1, d2, d3] => { results := [.lit (.bool false)], args := [d1, d2, d3] }
  | _ => none }
def CpuOneWrongFalsely : Prop := cpuOneRow.holds Tryd.pinned (OpenSpec.ofChange cpuOneWrong)

/-- 'pintlelaw06.CpuNoFurther': WHATEVER THE INPUT: true; the input reads as it did. -/
def cpuNoFurtherSpec : ChangeSpec := { name := "cpuNoFurther", fn := fun _ => fun
  | [d1, d2] => { results := [.lit (.bool true)], args := [d1, d2] }
  | _ => none }
def cpuNoFurtherRow : OpenClaim := { program := "ytnkfdpkcnfefeaadoor", sum := "864bb935a5ab9fad11374b034bde026ef709add92336f0e8808fdb24a1eafc5b", func := "pintle/pintlelaw06.CpuNoFurther", spec := "cpuNoFurther", named := ["pintle/inst.funct3"], apart := false, laid := [("pintle/inst.funct3", laid_pintle_inst_funct3)] }
def CpuNoFurtherSaid : Prop := cpuNoFurtherRow.holds Tryd.pinned (OpenSpec.ofChange cpuNoFurtherSpec)

/-- ITS FALSE NEIGHBOUR: 'it returns false'. Refute it at one input. -/
def cpuNoFurtherWrong : ChangeSpec := { name := "cpuNoFurther", fn := fun _ => fun
  | [d1, d2] => { results := [.lit (.bool false)], args := [d1, d2] }
  | _ => none }
def CpuNoFurtherWrongFalsely : Prop := cpuNoFurtherRow.holds Tryd.pinned (OpenSpec.ofChange cpuNoFurtherWrong)

/-- 'pintlelaw06.CpuSteps': WHATEVER THE INPUT: true; the input reads as it did. -/
def cpuStepsSpec : ChangeSpec := { name := "cpuSteps", fn := fun _ => fun
  | [d1, d2] => { results := [.lit (.bool true)], args := [d1, d2] }
  | _ => none }
def cpuStepsRow : OpenClaim := { program := "ytnkfdpkcnfefeaadoor", sum := "864bb935a5ab9fad11374b034bde026ef709add92336f0e8808fdb24a1eafc5b", func := "pintle/pintlelaw06.CpuSteps", spec := "cpuSteps", named := ["pintle/inst.funct3"], apart := false, laid := [("pintle/inst.funct3", laid_pintle_inst_funct3)] }
def CpuStepsSaid : Prop := cpuStepsRow.holds Tryd.pinned (OpenSpec.ofChange cpuStepsSpec)

/-- ITS FALSE NEIGHBOUR: 'it returns false'. Refute it at one input. -/
def cpuStepsWrong : ChangeSpec := { name := "cpuSteps", fn := fun _ => fun
  | [d1, d2] => { results := [.lit (.bool false)], args := [d1, d2] }
  | _ => none }
def CpuStepsWrongFalsely : Prop := cpuStepsRow.holds Tryd.pinned (OpenSpec.ofChange cpuStepsWrong)

/- THE SECOND FORM. 'bulk': how many values and letters a reading holds, each counted each time it is reached (what is shared counts as often as it is met; a slice's spare places count too). A statement '..UptoSaid' is the law's where the arguments, and the package variables that the reading takes, are together of bulk at most 1048576: NARROWER than '..Said'. Prove '..Said' where nothing that the law and all that it calls make is longer than what came in: it says more and counts as full. Else prove '..UptoSaid'. A law counts once. -/
mutual
def uptoBulk {H : Type} : DataW H → Nat
  | .lit (.string bytes) => bytes.length + 1
  | .lit _ => 1
  | .nil => 1
  | .ptr d => uptoBulk d + 1
  | .slice elems spare => uptoBulkAll elems + uptoBulkAll spare + 1
  | .agg parts => uptoBulkAll parts + 1
  | .iface _ d => uptoBulk d + 1
  | .map entries => uptoBulkEntries entries + 1
  | .held _ => 1
def uptoBulkAll {H : Type} : List (DataW H) → Nat
  | [] => 0
  | d :: r => uptoBulk d + uptoBulkAll r
def uptoBulkEntries {H : Type} : List (Lit × DataW H) → Nat
  | [] => 0
  | x :: r => uptoBulkEntry x + uptoBulkEntries r
def uptoBulkEntry {H : Type} : Lit × DataW H → Nat
  | (.string bytes, d) => bytes.length + uptoBulk d + 1
  | (_, d) => uptoBulk d + 1
 end
def uptoSmall : (H : Type) → List (DataW H) → Bool := fun _ ds => decide (uptoBulkAll ds ≤ 1048576)
def OpenSpec.upto (s : _root_.Go.ChangeSpec) : _root_.Go.OpenSpec := { _root_.Go.OpenSpec.ofChange s with cond := some uptoSmall }

/-- 'pintlelaw06.CpuOne', WHERE WHAT IT READS IS OF BULK AT MOST 1048576: true; the input reads as it did. -/
def cpuOneUptoRow : OpenClaim := { program := "ytnkfdpkcnfefeaadoor", sum := "864bb935a5ab9fad11374b034bde026ef709add92336f0e8808fdb24a1eafc5b", func := "pintle/pintlelaw06.CpuOne", spec := "cpuOne", named := ["pintle/inst.funct3"], apart := false, laid := [("pintle/inst.funct3", laid_pintle_inst_funct3)], narrowed := true }
def CpuOneUptoSaid : Prop := cpuOneUptoRow.holds Tryd.pinned (OpenSpec.upto cpuOneSpec)

/-- 'pintlelaw06.CpuNoFurther', WHERE WHAT IT READS IS OF BULK AT MOST 1048576: true; the input reads as it did. -/
def cpuNoFurtherUptoRow : OpenClaim := { program := "ytnkfdpkcnfefeaadoor", sum := "864bb935a5ab9fad11374b034bde026ef709add92336f0e8808fdb24a1eafc5b", func := "pintle/pintlelaw06.CpuNoFurther", spec := "cpuNoFurther", named := ["pintle/inst.funct3"], apart := false, laid := [("pintle/inst.funct3", laid_pintle_inst_funct3)], narrowed := true }
def CpuNoFurtherUptoSaid : Prop := cpuNoFurtherUptoRow.holds Tryd.pinned (OpenSpec.upto cpuNoFurtherSpec)

/-- 'pintlelaw06.CpuSteps', WHERE WHAT IT READS IS OF BULK AT MOST 1048576: true; the input reads as it did. -/
def cpuStepsUptoRow : OpenClaim := { program := "ytnkfdpkcnfefeaadoor", sum := "864bb935a5ab9fad11374b034bde026ef709add92336f0e8808fdb24a1eafc5b", func := "pintle/pintlelaw06.CpuSteps", spec := "cpuSteps", named := ["pintle/inst.funct3"], apart := false, laid := [("pintle/inst.funct3", laid_pintle_inst_funct3)], narrowed := true }
def CpuStepsUptoSaid : Prop := cpuStepsUptoRow.holds Tryd.pinned (OpenSpec.upto cpuStepsSpec)

end Rows
end Go.Proofs.YtnkfdpkcnfefeaaDoor
