/-
  DERIVED. GIVEN WITH THE SEED: THE CARDS: each row of YtmlhoagcppofgaaDoorRows.lean that lists a variable, with what it lists TIED to the program's text (the seventh form; the later family's looks); each row that meets fmt, with fmt's text TOLD by the authors' own Lean function (tested against real Go, not proved from fmt's source: count such statements apart). THE CARD IS WHAT COUNTS. Prove the row's statement (the work); the ties are given (YtmlhoagcppofgaaDoorTie.lean); close each card by the builder's one call (the guide's Derived/Test/ToyasCard.lean, 'card_holds'). Laid BY PROGRAM, IN A SANDBOX (cutbox-door.mjs). By AI agents, Wed Nov 11 2026. No macro, syntax, notation, axiom, sorry.
-/
import Derived.Test.YtmlhoagcppofgaaDoorRows
import GoSem.ClaimSeven
namespace Go.Proofs.YtmlhoagcppofgaaDoor
namespace Rows

/-- THE TIED CARD OF 'pintlelaw42.FlowNexts'. -/
def flowNextsCard : Claim7 := { stood := { row := flowNextsRow, standIns := [], harness := (true, "6e3594ea6a91062f28463823a0d53216b956632daaf12426f73a1e2064d8dcbd"), looks := false }, kinds := [], alts := [], laidByText := true, laidKinds := [.data], laidTests := true, laidLooks := .later }
def FlowNextsCardSaid : Prop := Claim7.holds Tryd.pinned (.plain (OpenSpec.ofChange flowNextsSpec)) flowNextsCard

/-- THE TIED CARD OF 'pintlelaw42.FlowSpans'. -/
def flowSpansCard : Claim7 := { stood := { row := flowSpansRow, standIns := [], harness := (true, "6e3594ea6a91062f28463823a0d53216b956632daaf12426f73a1e2064d8dcbd"), looks := false }, kinds := [], alts := [], laidByText := true, laidKinds := [.data], laidTests := true, laidLooks := .later }
def FlowSpansCardSaid : Prop := Claim7.holds Tryd.pinned (.plain (OpenSpec.ofChange flowSpansSpec)) flowSpansCard

/-- THE TIED CARD OF 'pintlelaw42.FlowReaches'. -/
def flowReachesCard : Claim7 := { stood := { row := flowReachesRow, standIns := [], harness := (true, "6e3594ea6a91062f28463823a0d53216b956632daaf12426f73a1e2064d8dcbd"), looks := false }, kinds := [], alts := [], laidByText := true, laidKinds := [.data], laidTests := true, laidLooks := .later }
def FlowReachesCardSaid : Prop := Claim7.holds Tryd.pinned (.plain (OpenSpec.ofChange flowReachesSpec)) flowReachesCard

/-- THE TIED CARD OF 'pintlelaw42.FlowBacks'. -/
def flowBacksCard : Claim7 := { stood := { row := flowBacksRow, standIns := [], harness := (true, "6e3594ea6a91062f28463823a0d53216b956632daaf12426f73a1e2064d8dcbd"), looks := false }, kinds := [], alts := [], laidByText := true, laidKinds := [.data], laidTests := true, laidLooks := .later }
def FlowBacksCardSaid : Prop := Claim7.holds Tryd.pinned (.plain (OpenSpec.ofChange flowBacksSpec)) flowBacksCard

/-- THE SECOND FORM's CARD OF 'pintlelaw42.FlowNexts'. -/
def flowNextsUptoCard : Claim7 := { stood := { row := flowNextsUptoRow, standIns := [], harness := (true, "6e3594ea6a91062f28463823a0d53216b956632daaf12426f73a1e2064d8dcbd"), looks := false }, kinds := [], alts := [], laidByText := true, laidKinds := [.data], laidTests := true, laidLooks := .later }
def FlowNextsUptoCardSaid : Prop := Claim7.holds Tryd.pinned (.plain (OpenSpec.upto flowNextsSpec)) flowNextsUptoCard

/-- THE SECOND FORM's CARD OF 'pintlelaw42.FlowSpans'. -/
def flowSpansUptoCard : Claim7 := { stood := { row := flowSpansUptoRow, standIns := [], harness := (true, "6e3594ea6a91062f28463823a0d53216b956632daaf12426f73a1e2064d8dcbd"), looks := false }, kinds := [], alts := [], laidByText := true, laidKinds := [.data], laidTests := true, laidLooks := .later }
def FlowSpansUptoCardSaid : Prop := Claim7.holds Tryd.pinned (.plain (OpenSpec.upto flowSpansSpec)) flowSpansUptoCard

/-- THE SECOND FORM's CARD OF 'pintlelaw42.FlowReaches'. -/
def flowReachesUptoCard : Claim7 := { stood := { row := flowReachesUptoRow, standIns := [], harness := (true, "6e3594ea6a91062f28463823a0d53216b956632daaf12426f73a1e2064d8dcbd"), looks := false }, kinds := [], alts := [], laidByText := true, laidKinds := [.data], laidTests := true, laidLooks := .later }
def FlowReachesUptoCardSaid : Prop := Claim7.holds Tryd.pinned (.plain (OpenSpec.upto flowReachesSpec)) flowReachesUptoCard

/-- THE SECOND FORM's CARD OF 'pintlelaw42.FlowBacks'. -/
def flowBacksUptoCard : Claim7 := { stood := { row := flowBacksUptoRow, standIns := [], harness := (true, "6e3594ea6a91062f28463823a0d53216b956632daaf12426f73a1e2064d8dcbd"), looks := false }, kinds := [], alts := [], laidByText := true, laidKinds := [.data], laidTests := true, laidLooks := .later }
def FlowBacksUptoCardSaid : Prop := Claim7.holds Tryd.pinned (.plain (OpenSpec.upto flowBacksSpec)) flowBacksUptoCard
end Rows
end Go.Proofs.YtmlhoagcppofgaaDoor
