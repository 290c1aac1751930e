/- Contract of inst.Can. -/
import Derived.Test.YtmlhoagcppofgaaDoorInst
namespace Go.Proofs.YtmlhoagcppofgaaDoor
open Go Go.RowKit Pl
set_option linter.unusedVariables false

theorem below_trans {w a b : World} (h : Below w.heap.size w a) (k : Below a.heap.size a b) : Below w.heap.size w b := h.trans (k.mono h.size)
def ICanP (x : Q5) (w : World) (e : Ending) (w' : World) : Prop := e = .returned (.bool (canI x)) ∧ Below w.heap.size w w'
theorem ican_mk {x : Q5} {w w' : World} {b : Bool} (h : canI x = b) (hb : Below w.heap.size w w') : ICanP x w (.returned (.bool b)) w' := ⟨by rw [h], hb⟩
end Go.Proofs.YtmlhoagcppofgaaDoor
