/-
  NARROWER THAN 'FOR EVERY INPUT', by the rows' own cells (each row's printed sentence says how): AsmAll: laid · AsmGoes: laid.
  DERIVED. THE GIVEN ROWS OF THIS SEAT. 2 by the template 'for every input the law returns true; each argument reads behind the call as it read before'; 0 by the template 'total and deterministic' (their statements: YtipecnofjdhobaaDoorTotals.lean).
  GIVEN WITH THE SEED: the statements are not yours to turn. If you find one false, say at which input.
  Laid BY PROGRAM, IN A SANDBOX (cutbox-rows.mjs): the forced cells as the released guide's own fill.sh prints them over the translation a177487a8c74792a… (all of the seat's roots in one cut). By AI agents, Wed Nov 11 2026. No macro, syntax, notation, axiom, sorry.
-/
import Derived.Test.YtipecnofjdhobaaDoorChecked
import GoSem.Claim
import GoSem.ClaimJoined
import GoSem.ClaimMapViews
import Derived.JoinedTies
import Derived.KernelRfl
namespace Go.Proofs.YtipecnofjdhobaaDoor
/- THE CELL 'sum', in the pinned program and in every row, IS THE sha256 OF THE DUMP (.gsa) THAT YtipecnofjdhobaaDoorProg.lean LOADS. Nothing in Lean hashes anything: it is a label: what it is worth is what the hold of that sum in a sandbox is worth. -/
noncomputable def Tryd.pinned : Pinned := { name := "ytipecnofjdhobaadoor", sum := "a177487a8c74792a234303f5c4c49961ae85a98afb6f892af316c2c3452b0c4e", checked := Tryd.checked }
namespace Rows
def none {H : Type} : Left H := { results := [], args := [] }

/- WHAT THE LISTED PACKAGE-LEVEL VARIABLES READ AS WHEN THE CALL BEGINS. Each datum BY PROGRAM (the guide's laid-datum.mjs) off the statement by which the dump's own 'gosem.cut.vars' lays the variable. In a bare row this is a premise. The card (YtipecnofjdhobaaDoorCards.lean) ties it to the program's text. -/
def laid_pintle_inst_funct3 {H : Type} : DataW H := .agg [.lit (.int .u32 0), .lit (.int .u32 0), .lit (.int .u32 0), .lit (.int .u32 1), .lit (.int .u32 2), .lit (.int .u32 3), .lit (.int .u32 4), .lit (.int .u32 5), .lit (.int .u32 5), .lit (.int .u32 6), .lit (.int .u32 7), .lit (.int .u32 0), .lit (.int .u32 1), .lit (.int .u32 2), .lit (.int .u32 3), .lit (.int .u32 4), .lit (.int .u32 5), .lit (.int .u32 6), .lit (.int .u32 7), .lit (.int .u32 0), .lit (.int .u32 2), .lit (.int .u32 3), .lit (.int .u32 4), .lit (.int .u32 6), .lit (.int .u32 7), .lit (.int .u32 1), .lit (.int .u32 5), .lit (.int .u32 5), .lit (.int .u32 0), .lit (.int .u32 1), .lit (.int .u32 2), .lit (.int .u32 4), .lit (.int .u32 5), .lit (.int .u32 0), .lit (.int .u32 1), .lit (.int .u32 2), .lit (.int .u32 0), .lit (.int .u32 1), .lit (.int .u32 4), .lit (.int .u32 5), .lit (.int .u32 6), .lit (.int .u32 7), .lit (.int .u32 0), .lit (.int .u32 0), .lit (.int .u32 0), .lit (.int .u32 0), .lit (.int .u32 0), .lit (.int .u32 0), .lit (.int .u32 0)]

/-- 'pintlelaw14.AsmAll': WHATEVER THE INPUT: true; the input reads as it did. -/
def asmAllSpec : ChangeSpec := { name := "asmAll", fn := fun _ => fun
  | [d] => { results := [.lit (.bool true)], args := [d] }
  | _ => none }
def asmAllRow : OpenClaim := { program := "ytipecnofjdhobaadoor", sum := "a177487a8c74792a234303f5c4c49961ae85a98afb6f892af316c2c3452b0c4e", func := "pintle/pintlelaw14.AsmAll", spec := "asmAll", named := ["pintle/inst.funct3"], apart := false, laid := [("pintle/inst.funct3", laid_pintle_inst_funct3)] }
def AsmAllSaid : Prop := asmAllRow.holds Tryd.pinned (OpenSpec.ofChange asmAllSpec)

/-- ITS FALSE NEIGHBOUR: 'it returns false'. Refute it at one input. -/
def asmAllWrong : ChangeSpec := { name := "asmAll", fn := fun _ => fun
  | [d] => { results := [.lit (.bool false)], args := [d] }
  | _ => none }
def AsmAllWrongFalsely : Prop := asmAllRow.holds Tryd.pinned (OpenSpec.ofChange asmAllWrong)

/-- 'pintlelaw14.AsmGoes': WHATEVER THE INPUT: true; the input reads as it did. -/
def asmGoesSpec : ChangeSpec := { name := "asmGoes", fn := fun _ => fun
  | [d] => { results := [.lit (.bool true)], args := [d] }
  | _ => none }
def asmGoesRow : OpenClaim := { program := "ytipecnofjdhobaadoor", sum := "a177487a8c74792a234303f5c4c49961ae85a98afb6f892af316c2c3452b0c4e", func := "pintle/pintlelaw14.AsmGoes", spec := "asmGoes", named := ["pintle/inst.funct3"], apart := false, laid := [("pintle/inst.funct3", laid_pintle_inst_funct3)] }
def AsmGoesSaid : Prop := asmGoesRow.holds Tryd.pinned (OpenSpec.ofChange asmGoesSpec)

/-- ITS FALSE NEIGHBOUR: 'it returns false'. Refute it at one input. -/
def asmGoesWrong : ChangeSpec := { name := "asmGoes", fn := fun _ => fun
  | [d] => { results := [.lit (.bool false)], args := [d] }
  | _ => none }
def AsmGoesWrongFalsely : Prop := asmGoesRow.holds Tryd.pinned (OpenSpec.ofChange asmGoesWrong)

/- THE SECOND FORM. 'bulk': how many values and letters a reading holds, each counted each time it is reached (what is shared counts as often as it is met; a slice's spare places count too). A statement '..UptoSaid' is the law's where the arguments, and the package variables that the reading takes, are together of bulk at most 1048576: NARROWER than '..Said'. Prove '..Said' where nothing that the law and all that it calls make is longer than what came in: it says more and counts as full. Else prove '..UptoSaid'. A law counts once. -/
mutual
def uptoBulk {H : Type} : DataW H → Nat
  | .lit (.string bytes) => bytes.length + 1
  | .lit _ => 1
  | .nil => 1
  | .ptr d => uptoBulk d + 1
  | .slice elems spare => uptoBulkAll elems + uptoBulkAll spare + 1
  | .agg parts => uptoBulkAll parts + 1
  | .iface _ d => uptoBulk d + 1
  | .map entries => uptoBulkEntries entries + 1
  | .held _ => 1
def uptoBulkAll {H : Type} : List (DataW H) → Nat
  | [] => 0
  | d :: r => uptoBulk d + uptoBulkAll r
def uptoBulkEntries {H : Type} : List (Lit × DataW H) → Nat
  | [] => 0
  | x :: r => uptoBulkEntry x + uptoBulkEntries r
def uptoBulkEntry {H : Type} : Lit × DataW H → Nat
  | (.string bytes, d) => bytes.length + uptoBulk d + 1
  | (_, d) => uptoBulk d + 1
 end
def uptoSmall : (H : Type) → List (DataW H) → Bool := fun _ ds => decide (uptoBulkAll ds ≤ 1048576)
def OpenSpec.upto (s : _root_.Go.ChangeSpec) : _root_.Go.OpenSpec := { _root_.Go.OpenSpec.ofChange s with cond := some uptoSmall }

/-- 'pintlelaw14.AsmAll', WHERE WHAT IT READS IS OF BULK AT MOST 1048576: true; the input reads as it did. -/
def asmAllUptoRow : OpenClaim := { program := "ytipecnofjdhobaadoor", sum := "a177487a8c74792a234303f5c4c49961ae85a98afb6f892af316c2c3452b0c4e", func := "pintle/pintlelaw14.AsmAll", spec := "asmAll", named := ["pintle/inst.funct3"], apart := false, laid := [("pintle/inst.funct3", laid_pintle_inst_funct3)], narrowed := true }
def AsmAllUptoSaid : Prop := asmAllUptoRow.holds Tryd.pinned (OpenSpec.upto asmAllSpec)

/-- 'pintlelaw14.AsmGoes', WHERE WHAT IT READS IS OF BULK AT MOST 1048576: true; the input reads as it did. -/
def asmGoesUptoRow : OpenClaim := { program := "ytipecnofjdhobaadoor", sum := "a177487a8c74792a234303f5c4c49961ae85a98afb6f892af316c2c3452b0c4e", func := "pintle/pintlelaw14.AsmGoes", spec := "asmGoes", named := ["pintle/inst.funct3"], apart := false, laid := [("pintle/inst.funct3", laid_pintle_inst_funct3)], narrowed := true }
def AsmGoesUptoSaid : Prop := asmGoesUptoRow.holds Tryd.pinned (OpenSpec.upto asmGoesSpec)

end Rows
end Go.Proofs.YtipecnofjdhobaaDoor
