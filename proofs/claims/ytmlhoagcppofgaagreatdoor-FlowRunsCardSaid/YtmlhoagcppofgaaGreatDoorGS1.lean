/- The document's machine: loads with a sign. -/
import Derived.Test.YtmlhoagcppofgaaGreatDoorGR
namespace Go.Proofs.YtmlhoagcppofgaaGreatDoor
open Go Go.RowKit Pl
set_option linter.unusedVariables false

end Go.Proofs.YtmlhoagcppofgaaGreatDoor
