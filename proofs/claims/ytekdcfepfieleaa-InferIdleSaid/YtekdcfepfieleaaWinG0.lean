/- Contracts of the document's Good and Out of windows. -/
import Derived.Test.YtekdcfepfieleaaWin
namespace Go.Proofs.Ytekdcfepfieleaa
open Go Go.RowKit
set_option linter.unusedVariables false

theorem gdW_o {n k s p q : Int} (h : gdW n k s p q = true) : 1 ≤ n ∧ n ≤ 64 ∧ 1 ≤ k ∧ k ≤ 8 ∧ 1 ≤ s ∧ s ≤ 8 ∧ 0 ≤ p ∧ p < k ∧ 0 ≤ q ∧ q < k ∧ k ≤ n + p + q := of_decide_eq_true h

end Go.Proofs.Ytekdcfepfieleaa
