/- The living call of layer 17, carried out by the kernel. -/
import Derived.Test.YtolohbegdjnjnaaExeG
import Derived.Test.YtolohbegdjnjnaaChecked
namespace Go.Proofs.Ytolohbegdjnjnaa
open Go Go.RowKit
set_option linter.unusedVariables false

theorem names_ok17 : namesOk Try.prog = true := by kernel_rfl
theorem mixed_ok17 : Try.prog.follows .mixedOrders = true := by kernel_rfl
theorem lives17 (w : World) : Calls Try.prog 22 #[] w fun e w' => e = .returned (.bool true) ∧ Below w.heap.size w w' :=
  calls_closed names_ok17 mixed_ok17 (n := 60) (args := []) (by kernel_rfl) (by kernel_rfl) rfl rfl w
end Go.Proofs.Ytolohbegdjnjnaa
