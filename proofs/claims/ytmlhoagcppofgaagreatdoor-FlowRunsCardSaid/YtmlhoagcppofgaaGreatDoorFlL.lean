/- The lives of layer 42, carried out over the table of three bits. -/
import Derived.Test.YtmlhoagcppofgaaGreatDoorGI
namespace Go.Proofs.YtmlhoagcppofgaaGreatDoor
open Go Go.RowKit Pl
set_option linter.unusedVariables false
theorem lives42 (w : World) (ht : T3 w) : Calls Tryz.prog 9 #[] w fun e w' => e = .returned (.bool true) ∧ Below w.heap.size w w' :=
  calls_tab names_ok mixed_ok (g := 0) (k := .u32) (t := 37) (l := threeL) (n := 60) (args := []) (by kernel_rfl) (by kernel_rfl) rfl rfl w ht.2 ht.1
end Go.Proofs.YtmlhoagcppofgaaGreatDoor
