/- lives27 by the runner. -/
import Derived.Test.YtdbfakllcaojcaaRsH
namespace Go.Proofs.Ytdbfakllcaojcaa
open Go Go.RowKit
theorem lives27 (w : World) : Calls Try.prog 13 #[] w fun e w' => e = .returned (.bool true) ∧ Below w.heap.size w w' :=
  calls_closed names_ok mixed_ok (n := 60) (args := []) (by kernel_rfl) (by kernel_rfl) rfl rfl w
end Go.Proofs.Ytdbfakllcaojcaa
