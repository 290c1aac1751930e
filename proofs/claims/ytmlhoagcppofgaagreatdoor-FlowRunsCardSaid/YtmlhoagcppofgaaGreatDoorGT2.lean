/- The document's machine: a branch that is taken. -/
import Derived.Test.YtmlhoagcppofgaaGreatDoorGS4
namespace Go.Proofs.YtmlhoagcppofgaaGreatDoor
open Go Go.RowKit Pl
set_option linter.unusedVariables false

end Go.Proofs.YtmlhoagcppofgaaGreatDoor
