/- lives26 by the runner. -/
import Derived.Test.YthapoiplejbckaaGreatRsH
namespace Go.Proofs.YthapoiplejbckaaGreat
open Go Go.RowKit
theorem lives26 (w : World) : Calls Tryz.prog 7 #[] w fun e w' => e = .returned (.bool true) ∧ Below w.heap.size w w' :=
  calls_closed names_ok mixed_ok (n := 60) (args := []) (by kernel_rfl) (by kernel_rfl) rfl rfl w
end Go.Proofs.YthapoiplejbckaaGreat
