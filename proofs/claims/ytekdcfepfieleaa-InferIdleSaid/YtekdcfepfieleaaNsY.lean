/- Package infer: nodeShape keeps what Shapes asks of it; Shapes. -/
import Derived.Test.YtekdcfepfieleaaNsX
import Derived.Test.YtekdcfepfieleaaShp
namespace Go.Proofs.Ytekdcfepfieleaa
open Go Go.RowKit
set_option linter.unusedVariables false
theorem ns_any : NSc := by
  intro n C cc ca sa sc l w hC hS hg hl
  by_cases h : 1 ≤ n.op ∧ n.op ≤ 14
  · exact ns_main n C cc ca sa sc l w h hC hS hg hl
  · have e : nodeE (C.map CnQ.cn) n l = (15, default) := by unfold nodeE; rw [if_pos (by omega)]
    rw [e]
    exact ns_op n _ _ w (by omega)
/-- what Shapes tells of a network -/
theorem shapes_all (g : GrQ) (w : World) (hC : CnsIn w g.ca g.C g.cc) (hN : NdsIn w g.na g.ns g.nc) (hn : g.ns.length ≤ 1000) :
    Calls Try.prog 6 #[g.val] w (ShPost g w) := shapes_any ns_any g w hC hN hn
end Go.Proofs.Ytekdcfepfieleaa
