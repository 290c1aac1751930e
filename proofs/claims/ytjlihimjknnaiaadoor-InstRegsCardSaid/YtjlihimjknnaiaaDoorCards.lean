/-
  DERIVED. GIVEN WITH THE SEED: THE CARDS: each row of YtjlihimjknnaiaaDoorRows.lean that lists a variable, with what it lists TIED to the program's text (the seventh form; the later family's looks); each row that meets fmt, with fmt's text TOLD by the authors' own Lean function (tested against real Go, not proved from fmt's source: count such statements apart). THE CARD IS WHAT COUNTS. Prove the row's statement (the work); the ties are given (YtjlihimjknnaiaaDoorTie.lean); close each card by the builder's one call (the guide's Derived/Test/ToyasCard.lean, 'card_holds'). Laid BY PROGRAM, IN A SANDBOX (cutbox-door.mjs). By AI agents, Wed Nov 11 2026. No macro, syntax, notation, axiom, sorry.
-/
import Derived.Test.YtjlihimjknnaiaaDoorRows
import GoSem.ClaimSeven
namespace Go.Proofs.YtjlihimjknnaiaaDoor
namespace Rows

/-- THE TIED CARD OF 'pintlelaw03.InstEncodes'. -/
def instEncodesCard : Claim7 := { stood := { row := instEncodesRow, standIns := [], harness := (true, "15d766a682a75725184e3a2fbd2b22da9d63beb477ba0681afe0728be49077d9"), looks := false }, kinds := [], alts := [], laidByText := true, laidKinds := [.data], laidTests := true, laidLooks := .later }
def InstEncodesCardSaid : Prop := Claim7.holds Tryd.pinned (.plain (OpenSpec.ofChange instEncodesSpec)) instEncodesCard

/-- THE TIED CARD OF 'pintlelaw03.InstDecodes'. -/
def instDecodesCard : Claim7 := { stood := { row := instDecodesRow, standIns := [], harness := (true, "15d766a682a75725184e3a2fbd2b22da9d63beb477ba0681afe0728be49077d9"), looks := false }, kinds := [], alts := [], laidByText := true, laidKinds := [.data], laidTests := true, laidLooks := .later }
def InstDecodesCardSaid : Prop := Claim7.holds Tryd.pinned (.plain (OpenSpec.ofChange instDecodesSpec)) instDecodesCard

/-- THE TIED CARD OF 'pintlelaw03.InstBack'. -/
def instBackCard : Claim7 := { stood := { row := instBackRow, standIns := [], harness := (true, "15d766a682a75725184e3a2fbd2b22da9d63beb477ba0681afe0728be49077d9"), looks := false }, kinds := [], alts := [], laidByText := true, laidKinds := [.data], laidTests := true, laidLooks := .later }
def InstBackCardSaid : Prop := Claim7.holds Tryd.pinned (.plain (OpenSpec.ofChange instBackSpec)) instBackCard

/-- THE TIED CARD OF 'pintlelaw03.InstWords'. -/
def instWordsCard : Claim7 := { stood := { row := instWordsRow, standIns := [], harness := (true, "15d766a682a75725184e3a2fbd2b22da9d63beb477ba0681afe0728be49077d9"), looks := false }, kinds := [], alts := [], laidByText := true, laidKinds := [.data], laidTests := true, laidLooks := .later }
def InstWordsCardSaid : Prop := Claim7.holds Tryd.pinned (.plain (OpenSpec.ofChange instWordsSpec)) instWordsCard

/-- THE TIED CARD OF 'pintlelaw03.InstRegs'. -/
def instRegsCard : Claim7 := { stood := { row := instRegsRow, standIns := [], harness := (true, "15d766a682a75725184e3a2fbd2b22da9d63beb477ba0681afe0728be49077d9"), looks := false }, kinds := [], alts := [], laidByText := true, laidKinds := [.data], laidTests := true, laidLooks := .later }
def InstRegsCardSaid : Prop := Claim7.holds Tryd.pinned (.plain (OpenSpec.ofChange instRegsSpec)) instRegsCard

/-- THE TIED CARD OF 'pintlelaw03.InstAll'. -/
def instAllCard : Claim7 := { stood := { row := instAllRow, standIns := [], harness := (true, "15d766a682a75725184e3a2fbd2b22da9d63beb477ba0681afe0728be49077d9"), looks := false }, kinds := [], alts := [], laidByText := true, laidKinds := [.data], laidTests := true, laidLooks := .later }
def InstAllCardSaid : Prop := Claim7.holds Tryd.pinned (.plain (OpenSpec.ofChange instAllSpec)) instAllCard

/-- THE SECOND FORM's CARD OF 'pintlelaw03.InstEncodes'. -/
def instEncodesUptoCard : Claim7 := { stood := { row := instEncodesUptoRow, standIns := [], harness := (true, "15d766a682a75725184e3a2fbd2b22da9d63beb477ba0681afe0728be49077d9"), looks := false }, kinds := [], alts := [], laidByText := true, laidKinds := [.data], laidTests := true, laidLooks := .later }
def InstEncodesUptoCardSaid : Prop := Claim7.holds Tryd.pinned (.plain (OpenSpec.upto instEncodesSpec)) instEncodesUptoCard

/-- THE SECOND FORM's CARD OF 'pintlelaw03.InstDecodes'. -/
def instDecodesUptoCard : Claim7 := { stood := { row := instDecodesUptoRow, standIns := [], harness := (true, "15d766a682a75725184e3a2fbd2b22da9d63beb477ba0681afe0728be49077d9"), looks := false }, kinds := [], alts := [], laidByText := true, laidKinds := [.data], laidTests := true, laidLooks := .later }
def InstDecodesUptoCardSaid : Prop := Claim7.holds Tryd.pinned (.plain (OpenSpec.upto instDecodesSpec)) instDecodesUptoCard

/-- THE SECOND FORM's CARD OF 'pintlelaw03.InstBack'. -/
def instBackUptoCard : Claim7 := { stood := { row := instBackUptoRow, standIns := [], harness := (true, "15d766a682a75725184e3a2fbd2b22da9d63beb477ba0681afe0728be49077d9"), looks := false }, kinds := [], alts := [], laidByText := true, laidKinds := [.data], laidTests := true, laidLooks := .later }
def InstBackUptoCardSaid : Prop := Claim7.holds Tryd.pinned (.plain (OpenSpec.upto instBackSpec)) instBackUptoCard

/-- THE SECOND FORM's CARD OF 'pintlelaw03.InstWords'. -/
def instWordsUptoCard : Claim7 := { stood := { row := instWordsUptoRow, standIns := [], harness := (true, "15d766a682a75725184e3a2fbd2b22da9d63beb477ba0681afe0728be49077d9"), looks := false }, kinds := [], alts := [], laidByText := true, laidKinds := [.data], laidTests := true, laidLooks := .later }
def InstWordsUptoCardSaid : Prop := Claim7.holds Tryd.pinned (.plain (OpenSpec.upto instWordsSpec)) instWordsUptoCard

/-- THE SECOND FORM's CARD OF 'pintlelaw03.InstRegs'. -/
def instRegsUptoCard : Claim7 := { stood := { row := instRegsUptoRow, standIns := [], harness := (true, "15d766a682a75725184e3a2fbd2b22da9d63beb477ba0681afe0728be49077d9"), looks := false }, kinds := [], alts := [], laidByText := true, laidKinds := [.data], laidTests := true, laidLooks := .later }
def InstRegsUptoCardSaid : Prop := Claim7.holds Tryd.pinned (.plain (OpenSpec.upto instRegsSpec)) instRegsUptoCard

/-- THE SECOND FORM's CARD OF 'pintlelaw03.InstAll'. -/
def instAllUptoCard : Claim7 := { stood := { row := instAllUptoRow, standIns := [], harness := (true, "15d766a682a75725184e3a2fbd2b22da9d63beb477ba0681afe0728be49077d9"), looks := false }, kinds := [], alts := [], laidByText := true, laidKinds := [.data], laidTests := true, laidLooks := .later }
def InstAllUptoCardSaid : Prop := Claim7.holds Tryd.pinned (.plain (OpenSpec.upto instAllSpec)) instAllUptoCard
end Rows
end Go.Proofs.YtjlihimjknnaiaaDoor
