/- Where branches and jumps go back: plain. -/
import Derived.Test.YtmlhoagcppofgaaDoorInstE
namespace Go.Proofs.YtmlhoagcppofgaaDoor
open Go Go.RowKit Pl
set_option linter.unusedVariables false

/-- an operation that aims -/
def aimO (o : Int) : Bool := decide ((36 ≤ o ∧ o ≤ 41) ∨ o = 44)
/-- where an instruction at a place goes back to, if it does -/
def bkQ (i : Nat) (q : Q5) : Option Nat := if aimO q.o = true ∧ q.i % 4 = 0 ∧ 0 ≤ (i : Int) + q.i / 4 ∧ (i : Int) + q.i / 4 ≤ i then some ((i : Int) + q.i / 4).toNat else none
theorem bkQ_iff (i : Nat) (q : Q5) (k : Nat) (hk : k ≤ i) : bkQ i q = some k ↔ aimO q.o = true ∧ q.i = 4 * ((k : Int) - (i : Int)) := by
  unfold bkQ
  constructor
  · intro h
    split at h
    · rename_i g
      have e := Option.some.inj h
      exact ⟨g.1, by omega⟩
    · cases h
  · rintro ⟨h1, h2⟩
    rw [if_pos ⟨h1, by omega, by omega, by omega⟩]
    congr 1
    omega
theorem bkQ_le {i : Nat} {q : Q5} {k : Nat} (h : bkQ i q = some k) : k ≤ i := by
  unfold bkQ at h
  split at h
  · rename_i g
    have e := Option.some.inj h
    omega
  · cases h
def qAt (l : List Nat) (i : Nat) : Q5 := decI (l.getD i 0 : Nat)
def backsTo (l : List Nat) : Nat → List (Nat × Nat)
  | 0 => []
  | m + 1 => backsTo l m ++ (match bkQ m (qAt l m) with | some k => [(m, k)] | none => [])
theorem backsTo_some {l : List Nat} {m k : Nat} (h : bkQ m (qAt l m) = some k) : backsTo l (m + 1) = backsTo l m ++ [(m, k)] := by
  show backsTo l m ++ _ = _
  rw [h]
theorem backsTo_none {l : List Nat} {m : Nat} (h : bkQ m (qAt l m) = none) : backsTo l (m + 1) = backsTo l m := by
  show backsTo l m ++ _ = _
  rw [h, List.append_nil]
theorem backsTo_len (l : List Nat) (m : Nat) : (backsTo l m).length ≤ m := by
  induction m with
  | zero => simp [backsTo]
  | succ m ih =>
    cases h : bkQ m (qAt l m) with
    | none => rw [backsTo_none h]; omega
    | some k => rw [backsTo_some h, List.length_append]; simp; omega
theorem backsTo_pre (l : List Nat) (m n : Nat) (h : m ≤ n) : backsTo l m <+: backsTo l n := by
  induction n with
  | zero => obtain rfl : m = 0 := by omega
            exact List.prefix_refl _
  | succ n ih =>
    rcases Nat.lt_or_ge m (n + 1) with g | g
    · exact (ih (by omega)).trans ⟨_, rfl⟩
    · obtain rfl : m = n + 1 := by omega
      exact List.prefix_refl _
theorem backsTo_at {l : List Nat} {m n k : Nat} (h : bkQ m (qAt l m) = some k) (hm : m < n) : (backsTo l n)[(backsTo l m).length]? = some (m, k) := by
  obtain ⟨t, ht⟩ := backsTo_pre l (m + 1) n hm
  rw [← ht, backsTo_some h, List.append_assoc, List.getElem?_append_right (Nat.le_refl _), Nat.sub_self]
  rfl
/-- whether it has been met among the first k -/
def metQ (i : Nat) (q : Q5) (k : Nat) : Nat := match bkQ i q with | some j => if j < k then 1 else 0 | none => 0
theorem metQ_zero (i : Nat) (q : Q5) : metQ i q 0 = 0 := by
  unfold metQ
  split
  · rw [if_neg (by omega)]
  · rfl
theorem metQ_yes {i : Nat} {q : Q5} {k : Nat} (h : bkQ i q = some k) : metQ i q k = 0 ∧ metQ i q (k + 1) = 1 := by
  unfold metQ
  rw [h]
  exact ⟨if_neg (Nat.lt_irrefl k), if_pos (Nat.lt_succ_self k)⟩
theorem metQ_no {i : Nat} {q : Q5} {k : Nat} (h : bkQ i q ≠ some k) : metQ i q (k + 1) = metQ i q k := by
  unfold metQ
  cases g : bkQ i q with
  | none => rfl
  | some j =>
    have : j ≠ k := fun e => h (by rw [g, e])
    by_cases hj : j < k
    · simp only [if_pos hj, if_pos (show j < k + 1 by omega)]
    · simp only [if_neg hj, if_neg (show ¬ j < k + 1 by omega)]
theorem metQ_all (l : List Nat) (i : Nat) : (backsTo l i).length + metQ i (qAt l i) (i + 1) = (backsTo l (i + 1)).length := by
  unfold metQ
  cases g : bkQ i (qAt l i) with
  | none => rw [backsTo_none g]; rfl
  | some j =>
    have := bkQ_le g
    rw [backsTo_some g]
    simp only [if_pos (show j < i + 1 by omega), List.length_append]
    rfl
end Go.Proofs.YtmlhoagcppofgaaDoor
