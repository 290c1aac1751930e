/-
  DERIVED. GIVEN WITH THE SEED: THE CARDS: each row of YtnkfdpkcnfefeaaDoorRows.lean that lists a variable, with what it lists TIED to the program's text (the seventh form; the later family's looks); each row that meets fmt, with fmt's text TOLD by the authors' own Lean function (tested against real Go, not proved from fmt's source: count such statements apart). THE CARD IS WHAT COUNTS. Prove the row's statement (the work); the ties are given (YtnkfdpkcnfefeaaDoorTie.lean); close each card by the builder's one call (the guide's Derived/Test/ToyasCard.lean, 'card_holds'). Laid BY PROGRAM, IN A SANDBOX (cutbox-door.mjs). By AI agents, Wed Nov 11 2026. No macro, syntax, notation, axiom, sorry.
-/
import Derived.Test.YtnkfdpkcnfefeaaDoorRows
import GoSem.ClaimSeven
namespace Go.Proofs.YtnkfdpkcnfefeaaDoor
namespace Rows

/-- THE TIED CARD OF 'pintlelaw06.CpuOne'. -/
def cpuOneCard : Claim7 := { stood := { row := cpuOneRow, standIns := [], harness := (true, "963520881f457ec3d52bb7c18a7e748c1a0a0fab13fa3413e31ddd56d7f06ddf"), looks := false }, kinds := [], alts := [], laidByText := true, laidKinds := [.data], laidTests := true, laidLooks := .later }
def CpuOneCardSaid : Prop := Claim7.holds Tryd.pinned (.plain (OpenSpec.ofChange cpuOneSpec)) cpuOneCard

/-- THE TIED CARD OF 'pintlelaw06.CpuNoFurther'. -/
def cpuNoFurtherCard : Claim7 := { stood := { row := cpuNoFurtherRow, standIns := [], harness := (true, "963520881f457ec3d52bb7c18a7e748c1a0a0fab13fa3413e31ddd56d7f06ddf"), looks := false }, kinds := [], alts := [], laidByText := true, laidKinds := [.data], laidTests := true, laidLooks := .later }
def CpuNoFurtherCardSaid : Prop := Claim7.holds Tryd.pinned (.plain (OpenSpec.ofChange cpuNoFurtherSpec)) cpuNoFurtherCard

/-- THE TIED CARD OF 'pintlelaw06.CpuSteps'. -/
def cpuStepsCard : Claim7 := { stood := { row := cpuStepsRow, standIns := [], harness := (true, "963520881f457ec3d52bb7c18a7e748c1a0a0fab13fa3413e31ddd56d7f06ddf"), looks := false }, kinds := [], alts := [], laidByText := true, laidKinds := [.data], laidTests := true, laidLooks := .later }
def CpuStepsCardSaid : Prop := Claim7.holds Tryd.pinned (.plain (OpenSpec.ofChange cpuStepsSpec)) cpuStepsCard

/-- THE SECOND FORM's CARD OF 'pintlelaw06.CpuOne'. -/
def cpuOneUptoCard : Claim7 := { stood := { row := cpuOneUptoRow, standIns := [], harness := (true, "963520881f457ec3d52bb7c18a7e748c1a0a0fab13fa3413e31ddd56d7f06ddf"), looks := false }, kinds := [], alts := [], laidByText := true, laidKinds := [.data], laidTests := true, laidLooks := .later }
def CpuOneUptoCardSaid : Prop := Claim7.holds Tryd.pinned (.plain (OpenSpec.upto cpuOneSpec)) cpuOneUptoCard

/-- THE SECOND FORM's CARD OF 'pintlelaw06.CpuNoFurther'. -/
def cpuNoFurtherUptoCard : Claim7 := { stood := { row := cpuNoFurtherUptoRow, standIns := [], harness := (true, "963520881f457ec3d52bb7c18a7e748c1a0a0fab13fa3413e31ddd56d7f06ddf"), looks := false }, kinds := [], alts := [], laidByText := true, laidKinds := [.data], laidTests := true, laidLooks := .later }
def CpuNoFurtherUptoCardSaid : Prop := Claim7.holds Tryd.pinned (.plain (OpenSpec.upto cpuNoFurtherSpec)) cpuNoFurtherUptoCard

/-- THE SECOND FORM's CARD OF 'pintlelaw06.CpuSteps'. -/
def cpuStepsUptoCard : Claim7 := { stood := { row := cpuStepsUptoRow, standIns := [], harness := (true, "963520881f457ec3d52bb7c18a7e748c1a0a0fab13fa3413e31ddd56d7f06ddf"), looks := false }, kinds := [], alts := [], laidByText := true, laidKinds := [.data], laidTests := true, laidLooks := .later }
def CpuStepsUptoCardSaid : Prop := Claim7.holds Tryd.pinned (.plain (OpenSpec.upto cpuStepsSpec)) cpuStepsUptoCard
end Rows
end Go.Proofs.YtnkfdpkcnfefeaaDoor
