/-
  DERIVED. GIVEN WITH THE SEED: THE CARDS: each row of YtohndfcbebeemaaDoorRows.lean that lists a variable, with what it lists TIED to the program's text (the seventh form; the later family's looks); each row that meets fmt, with fmt's text TOLD by the authors' own Lean function (tested against real Go, not proved from fmt's source: count such statements apart). THE CARD IS WHAT COUNTS. Prove the row's statement (the work); the ties are given (YtohndfcbebeemaaDoorTie.lean); close each card by the builder's one call (the guide's Derived/Test/ToyasCard.lean, 'card_holds'). Laid BY PROGRAM, IN A SANDBOX (cutbox-door.mjs). By AI agents, Wed Nov 11 2026. No macro, syntax, notation, axiom, sorry.
-/
import Derived.Test.YtohndfcbebeemaaDoorRows
import GoSem.ClaimSeven
namespace Go.Proofs.YtohndfcbebeemaaDoor
namespace Rows

/-- THE TIED CARD OF 'pintlelaw04.TextNames'. -/
def textNamesCard : Claim7 := { stood := { row := textNamesRow, standIns := [], harness := (true, "4c114e257632a68f9acd2a9ecb9573301cca1c6804662071efdbae953385b463"), looks := true }, kinds := [], alts := [], laidByText := true, laidKinds := [.data, .data, .data, .data, .sentinel, .sentinel, .data, .pinned], laidTests := true, laidLooks := .later }
def TextNamesCardSaid : Prop := Claim7.holds Tryd.pinned (.plain (OpenSpec.ofChange textNamesSpec)) textNamesCard

/-- THE TIED CARD OF 'pintlelaw06.CpuRegs'. -/
def cpuRegsCard : Claim7 := { stood := { row := cpuRegsRow, standIns := [], harness := (true, "4c114e257632a68f9acd2a9ecb9573301cca1c6804662071efdbae953385b463"), looks := true }, kinds := [], alts := [], laidByText := true, laidKinds := [.data], laidTests := true, laidLooks := .later }
def CpuRegsCardSaid : Prop := Claim7.holds Tryd.pinned (.plain (OpenSpec.ofChange cpuRegsSpec)) cpuRegsCard

/-- THE TIED CARD OF 'pintlelaw10.LoadNone'. -/
def loadNoneCard : Claim7 := { stood := { row := loadNoneRow, standIns := [], harness := (true, "4c114e257632a68f9acd2a9ecb9573301cca1c6804662071efdbae953385b463"), looks := true }, kinds := [], alts := [], laidByText := true, laidKinds := [.data], laidTests := true, laidLooks := .later }
def LoadNoneCardSaid : Prop := Claim7.holds Tryd.pinned (.plain (OpenSpec.ofChange loadNoneSpec)) loadNoneCard

/-- THE SECOND FORM's CARD OF 'pintlelaw04.TextNames'. -/
def textNamesUptoCard : Claim7 := { stood := { row := textNamesUptoRow, standIns := [], harness := (true, "4c114e257632a68f9acd2a9ecb9573301cca1c6804662071efdbae953385b463"), looks := true }, kinds := [], alts := [], laidByText := true, laidKinds := [.data, .data, .data, .data, .sentinel, .sentinel, .data, .pinned], laidTests := true, laidLooks := .later }
def TextNamesUptoCardSaid : Prop := Claim7.holds Tryd.pinned (.plain (OpenSpec.upto textNamesSpec)) textNamesUptoCard

/-- THE SECOND FORM's CARD OF 'pintlelaw06.CpuRegs'. -/
def cpuRegsUptoCard : Claim7 := { stood := { row := cpuRegsUptoRow, standIns := [], harness := (true, "4c114e257632a68f9acd2a9ecb9573301cca1c6804662071efdbae953385b463"), looks := true }, kinds := [], alts := [], laidByText := true, laidKinds := [.data], laidTests := true, laidLooks := .later }
def CpuRegsUptoCardSaid : Prop := Claim7.holds Tryd.pinned (.plain (OpenSpec.upto cpuRegsSpec)) cpuRegsUptoCard

/-- THE SECOND FORM's CARD OF 'pintlelaw10.LoadNone'. -/
def loadNoneUptoCard : Claim7 := { stood := { row := loadNoneUptoRow, standIns := [], harness := (true, "4c114e257632a68f9acd2a9ecb9573301cca1c6804662071efdbae953385b463"), looks := true }, kinds := [], alts := [], laidByText := true, laidKinds := [.data], laidTests := true, laidLooks := .later }
def LoadNoneUptoCardSaid : Prop := Claim7.holds Tryd.pinned (.plain (OpenSpec.upto loadNoneSpec)) loadNoneUptoCard
end Rows
end Go.Proofs.YtohndfcbebeemaaDoor
