/- A node's cells are one cell each. -/
import Derived.Test.YtmifojpmomdmeaaGA
import Derived.Test.YtmifojpmomdmeaaRowW
namespace Go.Proofs.Ytmifojpmomdmeaa
open Go Go.RowKit
set_option linter.unusedVariables false

theorem NdAt.row {w : World} {b : Nat} {k : Nd} (h : NdAt w b k) : RowAt w b k.cells := ⟨h.lt, h.fr, h.cell⟩
theorem Nd.one (k : Nd) : ∀ v ∈ k.cells, v.oneCell' = true := by
  intro v hv
  simp [Nd.cells] at hv
  rcases hv with rfl | rfl | rfl | rfl | rfl | rfl | rfl | rfl | rfl | rfl | rfl | rfl | rfl | rfl | rfl | rfl | rfl | rfl | rfl | rfl | rfl | rfl | rfl | rfl | rfl | rfl <;> rfl
end Go.Proofs.Ytmifojpmomdmeaa
