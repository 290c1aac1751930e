/- Spans of words: plain. -/
import Derived.Test.YtmlhoagcppofgaaDoorFlB
namespace Go.Proofs.YtmlhoagcppofgaaDoor
open Go Go.RowKit Pl
set_option linter.unusedVariables false

/-- behind a word a span ends -/
def endsQ (q : Q5) : Bool := decide (q.o = 0 ∨ (36 ≤ q.o ∧ q.o ≤ 41) ∨ q.o = 44 ∨ q.o = 45 ∨ 47 ≤ q.o)
def aimed (l : List Nat) (n k : Nat) : Bool := (List.range n).any fun i => aimQ (qAt l i) i k
def firstB (l : List Nat) (k : Nat) : Bool := decide (k = 0) || endsQ (qAt l (k - 1)) || aimed l l.length k
theorem aimed_next (l : List Nat) (n k : Nat) : aimed l (n + 1) k = (aimed l n k || aimQ (qAt l n) n k) := by
  unfold aimed; rw [List.range_succ, List.any_append]; simp
theorem aimed_zero (l : List Nat) (k : Nat) : aimed l 0 k = false := rfl
theorem aimed_yes {l : List Nat} {n k i : Nat} (hi : i < n) (h : aimQ (qAt l i) i k = true) : aimed l n k = true := by
  unfold aimed
  rw [List.any_eq_true]
  exact ⟨i, by simp [hi], h⟩
/-- the first ones that the first n words tell -/
def markS (l : List Nat) (n : Nat) (k : Nat) : Bool := decide (k = 0) || (List.range n).any fun i => aimQ (qAt l i) i k || (endsQ (qAt l i) && decide (k = i + 1))
theorem markS_next (l : List Nat) (n k : Nat) : markS l (n + 1) k = (markS l n k || (aimQ (qAt l n) n k || (endsQ (qAt l n) && decide (k = n + 1)))) := by
  unfold markS; rw [List.range_succ, List.any_append, Bool.or_assoc]; simp
theorem markS_first {l : List Nat} {k : Nat} (hk : k < l.length) : markS l l.length k = firstB l k := by
  unfold markS firstB aimed
  rw [Bool.eq_iff_iff]
  simp only [Bool.or_eq_true, decide_eq_true_eq, List.any_eq_true, List.mem_range, Bool.and_eq_true]
  constructor
  · rintro (h | ⟨i, hi, h | ⟨h, rfl⟩⟩)
    · exact .inl (.inl h)
    · exact .inr ⟨i, hi, h⟩
    · exact .inl (.inr (by simpa using h))
  · rintro ((h | h) | ⟨i, hi, h⟩)
    · exact .inl h
    · by_cases k0 : k = 0
      · exact .inl k0
      · exact .inr ⟨k - 1, by omega, .inr ⟨h, by omega⟩⟩
    · exact .inr ⟨i, hi, .inl h⟩
/-- the spans of the first words, and where the next one begins -/
def spS (l : List Nat) : Nat → List (Nat × Nat) × Nat
  | 0 => ([], 0)
  | i + 1 => if i + 1 < l.length ∧ firstB l (i + 1) = false then spS l i else ((spS l i).1 ++ [((spS l i).2, i + 1)], i + 1)
theorem spS_go {l : List Nat} {i : Nat} (h : i + 1 < l.length ∧ firstB l (i + 1) = false) : spS l (i + 1) = spS l i := by
  show (if _ then _ else _) = _; rw [if_pos h]
theorem spS_cut {l : List Nat} {i : Nat} (h : ¬ (i + 1 < l.length ∧ firstB l (i + 1) = false)) : spS l (i + 1) = ((spS l i).1 ++ [((spS l i).2, i + 1)], i + 1) := by
  show (if _ then _ else _) = _; rw [if_neg h]
/-- spans from one place on up to another one -/
def okP (l : List Nat) : Nat → List (Nat × Nat) → Nat → Prop
  | a, [], b => a = b
  | a, (f, t) :: P, b => (f = a ∧ a < t ∧ t ≤ l.length ∧ firstB l a = true ∧ ∀ k, a < k → k < t → firstB l k = false) ∧ okP l t P b
theorem okP_put {l : List Nat} {P : List (Nat × Nat)} {a b t : Nat} (h : okP l a P b) (h2 : b < t ∧ t ≤ l.length ∧ firstB l b = true ∧ ∀ k, b < k → k < t → firstB l k = false) : okP l a (P ++ [(b, t)]) t := by
  induction P generalizing a with
  | nil =>
    obtain rfl : a = b := h
    exact ⟨⟨rfl, h2⟩, rfl⟩
  | cons p P ih =>
    obtain ⟨f, u⟩ := p
    exact ⟨h.1, ih h.2⟩
theorem spS_inv (l : List Nat) (i : Nat) (hi : i ≤ l.length) : okP l 0 (spS l i).1 (spS l i).2 ∧ (spS l i).2 ≤ i ∧ ((spS l i).2 < l.length → firstB l (spS l i).2 = true) ∧ ∀ k, (spS l i).2 < k → k ≤ i → k < l.length → firstB l k = false := by
  induction i with
  | zero => exact ⟨rfl, Nat.le_refl _, fun _ => by simp [spS, firstB], fun k h1 h2 _ => by simp [spS] at h1; omega⟩
  | succ i ih =>
    obtain ⟨h1, h2, h3, h4⟩ := ih (by omega)
    by_cases h : i + 1 < l.length ∧ firstB l (i + 1) = false
    · rw [spS_go h]
      refine ⟨h1, by omega, h3, fun k k1 k2 k3 => ?_⟩
      by_cases e : k = i + 1
      · subst e; exact h.2
      · exact h4 k k1 (by omega) k3
    · rw [spS_cut h]
      refine ⟨okP_put h1 ⟨by omega, by omega, h3 (by omega), fun k k1 k2 => h4 k k1 (by omega) (by omega)⟩, Nat.le_refl _, fun hl => ?_, fun k k1 k2 _ => by simp at k1; omega⟩
      have hl' : i + 1 < l.length := hl
      cases hf : firstB l (i + 1)
      · exact absurd ⟨hl', hf⟩ h
      · rfl
theorem spS_end (l : List Nat) : (spS l l.length).2 = l.length := by
  cases hn : l.length with
  | zero => rfl
  | succ i => rw [spS_cut (by omega)]
theorem spS_ok (l : List Nat) : okP l 0 (spS l l.length).1 l.length := by
  have := (spS_inv l l.length (Nat.le_refl _)).1
  rw [spS_end] at this
  exact this
theorem spS_len (l : List Nat) (i : Nat) : (spS l i).1.length ≤ i := by
  induction i with
  | zero => exact Nat.le_refl _
  | succ i ih =>
    by_cases h : i + 1 < l.length ∧ firstB l (i + 1) = false
    · rw [spS_go h]; omega
    · rw [spS_cut h, List.length_append]; simp; omega
theorem spS_from {l : List Nat} {i : Nat} (hi : i ≤ l.length) : (spS l i).2 ≤ i := (spS_inv l i hi).2.1
end Go.Proofs.YtmlhoagcppofgaaDoor
