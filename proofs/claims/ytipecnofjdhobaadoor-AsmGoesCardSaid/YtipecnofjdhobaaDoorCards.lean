/-
  DERIVED. GIVEN WITH THE SEED: THE CARDS: each row of YtipecnofjdhobaaDoorRows.lean that lists a variable, with what it lists TIED to the program's text (the seventh form; the later family's looks); each row that meets fmt, with fmt's text TOLD by the authors' own Lean function (tested against real Go, not proved from fmt's source: count such statements apart). THE CARD IS WHAT COUNTS. Prove the row's statement (the work); the ties are given (YtipecnofjdhobaaDoorTie.lean); close each card by the builder's one call (the guide's Derived/Test/ToyasCard.lean, 'card_holds'). Laid BY PROGRAM, IN A SANDBOX (cutbox-door.mjs). By AI agents, Wed Nov 11 2026. No macro, syntax, notation, axiom, sorry.
-/
import Derived.Test.YtipecnofjdhobaaDoorRows
import GoSem.ClaimSeven
namespace Go.Proofs.YtipecnofjdhobaaDoor
namespace Rows

/-- THE TIED CARD OF 'pintlelaw14.AsmAll'. -/
def asmAllCard : Claim7 := { stood := { row := asmAllRow, standIns := [], harness := (true, "60307677635613d7abd97a59e375aedc1dc2e38b13f6cdefdf0feeed75abc00f"), looks := false }, kinds := [], alts := [], laidByText := true, laidKinds := [.data], laidTests := true, laidLooks := .later }
def AsmAllCardSaid : Prop := Claim7.holds Tryd.pinned (.plain (OpenSpec.ofChange asmAllSpec)) asmAllCard

/-- THE TIED CARD OF 'pintlelaw14.AsmGoes'. -/
def asmGoesCard : Claim7 := { stood := { row := asmGoesRow, standIns := [], harness := (true, "60307677635613d7abd97a59e375aedc1dc2e38b13f6cdefdf0feeed75abc00f"), looks := false }, kinds := [], alts := [], laidByText := true, laidKinds := [.data], laidTests := true, laidLooks := .later }
def AsmGoesCardSaid : Prop := Claim7.holds Tryd.pinned (.plain (OpenSpec.ofChange asmGoesSpec)) asmGoesCard

/-- THE SECOND FORM's CARD OF 'pintlelaw14.AsmAll'. -/
def asmAllUptoCard : Claim7 := { stood := { row := asmAllUptoRow, standIns := [], harness := (true, "60307677635613d7abd97a59e375aedc1dc2e38b13f6cdefdf0feeed75abc00f"), looks := false }, kinds := [], alts := [], laidByText := true, laidKinds := [.data], laidTests := true, laidLooks := .later }
def AsmAllUptoCardSaid : Prop := Claim7.holds Tryd.pinned (.plain (OpenSpec.upto asmAllSpec)) asmAllUptoCard

/-- THE SECOND FORM's CARD OF 'pintlelaw14.AsmGoes'. -/
def asmGoesUptoCard : Claim7 := { stood := { row := asmGoesUptoRow, standIns := [], harness := (true, "60307677635613d7abd97a59e375aedc1dc2e38b13f6cdefdf0feeed75abc00f"), looks := false }, kinds := [], alts := [], laidByText := true, laidKinds := [.data], laidTests := true, laidLooks := .later }
def AsmGoesUptoCardSaid : Prop := Claim7.holds Tryd.pinned (.plain (OpenSpec.upto asmGoesSpec)) asmGoesUptoCard
end Rows
end Go.Proofs.YtipecnofjdhobaaDoor
