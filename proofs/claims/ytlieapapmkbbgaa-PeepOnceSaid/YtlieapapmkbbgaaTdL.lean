/- The living call of layer 39, carried out by the kernel. -/
import Derived.Test.YtlieapapmkbbgaaExeG
import Derived.Test.YtlieapapmkbbgaaChecked
namespace Go.Proofs.Ytlieapapmkbbgaa
open Go Go.RowKit
set_option linter.unusedVariables false

theorem names_ok39 : namesOk Try.prog = true := by kernel_rfl
theorem mixed_ok39 : Try.prog.follows .mixedOrders = true := by kernel_rfl
theorem lives39 (w : World) : Calls Try.prog 7 #[] w fun e w' => e = .returned (.bool true) ∧ Below w.heap.size w w' :=
  calls_closed names_ok39 mixed_ok39 (n := 60) (args := []) (by kernel_rfl) (by kernel_rfl) rfl rfl w
end Go.Proofs.Ytlieapapmkbbgaa
