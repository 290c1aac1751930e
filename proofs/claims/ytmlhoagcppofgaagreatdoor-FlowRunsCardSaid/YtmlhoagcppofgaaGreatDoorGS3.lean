/- The document's machine: stores. -/
import Derived.Test.YtmlhoagcppofgaaGreatDoorGR
namespace Go.Proofs.YtmlhoagcppofgaaGreatDoor
open Go Go.RowKit Pl
set_option linter.unusedVariables false

theorem RSt.weak {Y X B f n1 rr n2 pc : Nat} {r : Nat → Nat} {L : List (Nat × Nat)} {v : Value} {b0 b1 : Nat} {W V : World} (h : RSt Y X B f n1 rr n2 pc r L v b0 W V) (hb : b1 ≤ b0) : RSt Y X B f n1 rr n2 pc r L v b1 W V := by
  obtain ⟨v', m1, m2⟩ := h.mem
  exact ⟨h.mach, h.out, v', m1, fun j hj => (m2 j hj).imp id fun g => Nat.le_trans hb g⟩
end Go.Proofs.YtmlhoagcppofgaaGreatDoor
