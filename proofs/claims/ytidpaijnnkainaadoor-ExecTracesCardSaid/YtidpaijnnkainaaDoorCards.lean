/-
  DERIVED. GIVEN WITH THE SEED: THE CARDS: each row of YtidpaijnnkainaaDoorRows.lean that lists a variable, with what it lists TIED to the program's text (the seventh form; the later family's looks); each row that meets fmt, with fmt's text TOLD by the authors' own Lean function (tested against real Go, not proved from fmt's source: count such statements apart). THE CARD IS WHAT COUNTS. Prove the row's statement (the work); the ties are given (YtidpaijnnkainaaDoorTie.lean); close each card by the builder's one call (the guide's Derived/Test/ToyasCard.lean, 'card_holds'). Laid BY PROGRAM, IN A SANDBOX (cutbox-door.mjs). By AI agents, Wed Nov 11 2026. No macro, syntax, notation, axiom, sorry.
-/
import Derived.Test.YtidpaijnnkainaaDoorRows
import GoSem.ClaimSeven
namespace Go.Proofs.YtidpaijnnkainaaDoor
namespace Rows

/-- THE TIED CARD OF 'pintlelaw07.ExecRuns'. -/
def execRunsCard : Claim7 := { stood := { row := execRunsRow, standIns := [], harness := (true, "500b4f2f3ce6fb5d859c8e827a350170a6278c728c8098561d1e81e8533717c5"), looks := false }, kinds := [], alts := [], laidByText := true, laidKinds := [.data], laidTests := true, laidLooks := .later }
def ExecRunsCardSaid : Prop := Claim7.holds Tryd.pinned (.plain (OpenSpec.ofChange execRunsSpec)) execRunsCard

/-- THE TIED CARD OF 'pintlelaw07.ExecTraces'. -/
def execTracesCard : Claim7 := { stood := { row := execTracesRow, standIns := [], harness := (true, "500b4f2f3ce6fb5d859c8e827a350170a6278c728c8098561d1e81e8533717c5"), looks := false }, kinds := [], alts := [], laidByText := true, laidKinds := [.data], laidTests := true, laidLooks := .later }
def ExecTracesCardSaid : Prop := Claim7.holds Tryd.pinned (.plain (OpenSpec.ofChange execTracesSpec)) execTracesCard

/-- THE TIED CARD OF 'pintlelaw07.ExecParts'. -/
def execPartsCard : Claim7 := { stood := { row := execPartsRow, standIns := [], harness := (true, "500b4f2f3ce6fb5d859c8e827a350170a6278c728c8098561d1e81e8533717c5"), looks := false }, kinds := [], alts := [], laidByText := true, laidKinds := [.data], laidTests := true, laidLooks := .later }
def ExecPartsCardSaid : Prop := Claim7.holds Tryd.pinned (.plain (OpenSpec.ofChange execPartsSpec)) execPartsCard

/-- THE TIED CARD OF 'pintlelaw07.ExecTraps'. -/
def execTrapsCard : Claim7 := { stood := { row := execTrapsRow, standIns := [], harness := (true, "500b4f2f3ce6fb5d859c8e827a350170a6278c728c8098561d1e81e8533717c5"), looks := false }, kinds := [], alts := [], laidByText := true, laidKinds := [.data], laidTests := true, laidLooks := .later }
def ExecTrapsCardSaid : Prop := Claim7.holds Tryd.pinned (.plain (OpenSpec.ofChange execTrapsSpec)) execTrapsCard

/-- THE TIED CARD OF 'pintlelaw42.FlowBacks'. -/
def flowBacksCard : Claim7 := { stood := { row := flowBacksRow, standIns := [], harness := (true, "500b4f2f3ce6fb5d859c8e827a350170a6278c728c8098561d1e81e8533717c5"), looks := false }, kinds := [], alts := [], laidByText := true, laidKinds := [.data], laidTests := true, laidLooks := .later }
def FlowBacksCardSaid : Prop := Claim7.holds Tryd.pinned (.plain (OpenSpec.ofChange flowBacksSpec)) flowBacksCard

/-- THE SECOND FORM's CARD OF 'pintlelaw07.ExecRuns'. -/
def execRunsUptoCard : Claim7 := { stood := { row := execRunsUptoRow, standIns := [], harness := (true, "500b4f2f3ce6fb5d859c8e827a350170a6278c728c8098561d1e81e8533717c5"), looks := false }, kinds := [], alts := [], laidByText := true, laidKinds := [.data], laidTests := true, laidLooks := .later }
def ExecRunsUptoCardSaid : Prop := Claim7.holds Tryd.pinned (.plain (OpenSpec.upto execRunsSpec)) execRunsUptoCard

/-- THE SECOND FORM's CARD OF 'pintlelaw07.ExecTraces'. -/
def execTracesUptoCard : Claim7 := { stood := { row := execTracesUptoRow, standIns := [], harness := (true, "500b4f2f3ce6fb5d859c8e827a350170a6278c728c8098561d1e81e8533717c5"), looks := false }, kinds := [], alts := [], laidByText := true, laidKinds := [.data], laidTests := true, laidLooks := .later }
def ExecTracesUptoCardSaid : Prop := Claim7.holds Tryd.pinned (.plain (OpenSpec.upto execTracesSpec)) execTracesUptoCard

/-- THE SECOND FORM's CARD OF 'pintlelaw07.ExecParts'. -/
def execPartsUptoCard : Claim7 := { stood := { row := execPartsUptoRow, standIns := [], harness := (true, "500b4f2f3ce6fb5d859c8e827a350170a6278c728c8098561d1e81e8533717c5"), looks := false }, kinds := [], alts := [], laidByText := true, laidKinds := [.data], laidTests := true, laidLooks := .later }
def ExecPartsUptoCardSaid : Prop := Claim7.holds Tryd.pinned (.plain (OpenSpec.upto execPartsSpec)) execPartsUptoCard

/-- THE SECOND FORM's CARD OF 'pintlelaw07.ExecTraps'. -/
def execTrapsUptoCard : Claim7 := { stood := { row := execTrapsUptoRow, standIns := [], harness := (true, "500b4f2f3ce6fb5d859c8e827a350170a6278c728c8098561d1e81e8533717c5"), looks := false }, kinds := [], alts := [], laidByText := true, laidKinds := [.data], laidTests := true, laidLooks := .later }
def ExecTrapsUptoCardSaid : Prop := Claim7.holds Tryd.pinned (.plain (OpenSpec.upto execTrapsSpec)) execTrapsUptoCard

/-- THE SECOND FORM's CARD OF 'pintlelaw42.FlowBacks'. -/
def flowBacksUptoCard : Claim7 := { stood := { row := flowBacksUptoRow, standIns := [], harness := (true, "500b4f2f3ce6fb5d859c8e827a350170a6278c728c8098561d1e81e8533717c5"), looks := false }, kinds := [], alts := [], laidByText := true, laidKinds := [.data], laidTests := true, laidLooks := .later }
def FlowBacksUptoCardSaid : Prop := Claim7.holds Tryd.pinned (.plain (OpenSpec.upto flowBacksSpec)) flowBacksUptoCard
end Rows
end Go.Proofs.YtidpaijnnkainaaDoor
