/- lives24 by the runner. -/
import Derived.Test.YtekdcfepfieleaaEG
import Derived.Test.YtekdcfepfieleaaChecked
namespace Go.Proofs.Ytekdcfepfieleaa
open Go Go.RowKit
theorem names_ok : namesOk Try.prog = true := by kernel_rfl
theorem mixed_ok : Try.prog.follows .mixedOrders = true := by kernel_rfl
theorem lives24 (w : World) : Calls Try.prog 7 #[] w fun e w' => e = .returned (.bool true) ∧ Below w.heap.size w w' :=
  calls_closed names_ok mixed_ok (n := 60) (args := []) (by kernel_rfl) (by kernel_rfl) rfl rfl w
end Go.Proofs.Ytekdcfepfieleaa
