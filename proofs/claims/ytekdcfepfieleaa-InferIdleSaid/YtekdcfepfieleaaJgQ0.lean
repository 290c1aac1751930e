/- Package infer: the judge's method numbers. -/
import Derived.Test.YtekdcfepfieleaaJgM
import Derived.Test.YtekdcfepfieleaaOpen
import Derived.BigRegion
import Derived.Deep.LoopGhost
namespace Go.Proofs.Ytekdcfepfieleaa
open Go Go.RowKit
set_option linter.unusedVariables false

/-- the cells of a slice of integers that came in -/
theorem ints_cell {k : IntKind} {w : World} {a : Option Addr} {l : List Int} {c : Nat} (h : IntsIn k w a l c) : ∀ i z, l[i]? = some z → (Lit.int k z).wf = true ∧ ∃ b off, a = some ⟨b, off, none⟩ ∧ b < w.heap.size ∧ w.cell? ⟨b, off + i, none⟩ = some (.int k z) := by
  intro i z hz
  obtain ⟨⟨_, _, _, ⟨_, h1, _⟩ | ⟨_, h1⟩ | ⟨b, off, rfl, hb, hc⟩⟩, hw⟩ := h
  · rw [List.map_eq_nil_iff] at h1; subst h1; simp at hz
  · rw [List.map_eq_nil_iff] at h1; subst h1; simp at hz
  · refine ⟨hw z (List.mem_of_getElem? hz), b, off, rfl, hb, ?_⟩
    have := hc i [.int k z] (by simp [hz]) 0 (.int k z) rfl
    simpa using this
end Go.Proofs.Ytekdcfepfieleaa
