/- A slice of blocks that comes in; what laws begin with. -/
import Derived.Test.YtmmhoemddfncmaaRows
import Derived.Test.YtmmhoemddfncmaaArE
import Derived.Test.YtmmhoemddfncmaaExeL
import Derived.Test.YtmmhoemddfncmaaOpen
namespace Go.Proofs.Ytmmhoemddfncmaa
open Go Go.RowKit Go.ChangeShapes Go.WideShapes Go.ChangeAt
set_option linter.unusedVariables false

theorem block_in {H : Type} {enc : TypeId × Value → H} {w : World} {r : Reach} {b base : Nat} {spare : Nat → Bool} {held : Bool} {v : Value} {d : DataW H} {p : List MemPlace}
    (hv : Value.okWide Try.prog w r b 22 v) (h : DataW.Trod enc Try.prog w base spare held 22 v d p) : ∃ (a : Option Addr) (c : Nat) (l : List Q3), v = .slice a l.length c ∧ B3In w a l c := by
  refine blocks_in Try.underlying22 Try.underlying33 (by kernel_rfl) (by rfl) (by kernel_rfl) ?_ hv h
  intro j f hf
  match j, hf with
  | 0, hf => simp at hf; subst hf; exact Try.underlying3
  | 1, hf => simp at hf; subst hf; exact Try.underlying3
  | 2, hf => simp at hf; subst hf; exact Try.underlying3
  | j + 3, hf => simp at hf
theorem bt {w a b : World} (h : Below w.heap.size w a) (k : Below a.heap.size a b) : Below w.heap.size w b := h.trans (k.mono h.size)
end Go.Proofs.Ytmmhoemddfncmaa
