/- Plain: which values are known. -/
import Derived.Test.YtdbfakllcaojcaaFA
namespace Go.Proofs.Ytdbfakllcaojcaa
open Go Go.RowKit
set_option linter.unusedVariables false

/-- a sound network's nodes read what lies ahead of them -/
theorem shapes_ahead {C : List Cn} : ∀ (ns : List Nd) (l : List Sh), (shapesE C ns l).1 = 0 → ∀ (k : Nat) (n : Nd), ns[k]? = some n → ∀ v ∈ insN n, 0 ≤ v ∧ v < ((l.length + k : Nat) : Int)
  | [], _, _ => by simp
  | m :: r, l, h0 => by
    rw [shapesE] at h0
    by_cases e : (nodeE C m l).1 ≠ 0
    · rw [if_pos e] at h0; exact absurd h0 e
    · rw [if_neg e] at h0
      obtain ⟨_, h1, h2, hi, _⟩ := nodeE_fit (C := C) (n := m) (l := l) (by simpa using e)
      intro k n hn v hv
      cases k with
      | zero =>
        obtain rfl : m = n := by simpa using hn
        unfold insOk at hi
        have := List.all_eq_true.1 hi v hv
        have := of_decide_eq_true this
        omega
      | succ k =>
        have := shapes_ahead r _ h0 k n (by simpa using hn) v hv
        rw [List.length_append, List.length_singleton] at this
        omega
theorem graph_ahead {g : Gr} (h : (graphE g).1 = 0) : ∀ (k : Nat) (n : Nd), g.ns[k]? = some n → ∀ v ∈ insN n, 0 ≤ v ∧ v ≤ (k : Int) := by
  unfold graphE at h
  by_cases h1 : g.inp.fit ≠ 0
  · rw [if_pos h1] at h; exact absurd h h1
  · rw [if_neg h1] at h
    by_cases h2 : (shapesE g.C g.ns [g.inp]).1 ≠ 0
    · rw [if_pos h2] at h; exact absurd h h2
    · intro k n hn v hv
      have := shapes_ahead g.ns [g.inp] (by simpa using h2) k n hn v hv
      rw [List.length_singleton] at this
      omega
end Go.Proofs.Ytdbfakllcaojcaa
