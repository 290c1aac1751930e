/- Plain facts: LirrunCounts' programs: what lir.Check and lir.Ends say of them, and what the variables come to. -/
import Derived.Test.YtokomefopbcihaaRunP
import Derived.Test.YtokomefopbcihaaLirP
namespace Go.Proofs.Ytokomefopbcihaa
open Go Go.RowKit Pl
set_option linter.unusedVariables false

/-- the law's body: the sum of all that the counter is, and how often -/
def bodyC (c : Nat) : List Q5 := [⟨3, 0, 0, c, 0⟩, ⟨13, 63, 63, 0, 1⟩]
/-- the body of its lives -/
def bodyV : List Q5 := [⟨13, 0, 0, 0, 5⟩]
theorem ends_C (c : Nat) (n : Int) : endsS (progL c n (bodyC c)) = some [3, -1, -1, 0] := by rfl
theorem ends_V : endsS (progL 1 3 bodyV) = some [2, -1, 0] := by rfl
theorem check_V : checkS (progL 1 3 bodyV) = 0 := by decide
theorem check_C (c : Nat) (n : Int) (hc : 1 ≤ c ∧ c ≤ 62) (hn : 1 ≤ n ∧ n ≤ 2000) : checkS (progL c n (bodyC c)) = 0 := by
  have h1 : canS ⟨23, c, 0, 0, n⟩ = true := by simp [canS, isOp, fitsS, hasD, hasA, hasB, leastS, mostS]; omega
  have h2 : canS ⟨3, 0, 0, c, 0⟩ = true := by simp [canS, isOp, fitsS, hasD, hasA, hasB, leastS, mostS]; omega
  have h3 : canS ⟨13, 63, 63, 0, 1⟩ = true := by decide
  have h4 : canS ⟨24, 0, 0, 0, 0⟩ = true := by decide
  have w2 : writesS ⟨3, 0, 0, c, 0⟩ = 0 := by unfold writesS; rw [h2]; rfl
  have w3 : writesS ⟨13, 63, 63, 0, 1⟩ = 63 := by unfold writesS; rw [h3]; rfl
  have w1 : writesS ⟨23, c, 0, 0, n⟩ = c := by unfold writesS; rw [h1]; rfl
  have n1 : ((0 : Int) = c) = False := by simp; omega
  have n2 : ((63 : Int) = c) = False := by simp; omega
  have hct : countedS (progL c n (bodyC c)) = true := by
    simp [countedS, progL, bodyC, runC, stepC, w1, w2, w3, n1, n2]
  have he := ends_C c n
  unfold checkS
  rw [he, hct]
  simp [progL, bodyC, h1, h2, h3, h4]
theorem counts_V : (rounds 1 3 bodyV 3) 0 = 15 ∧ (rounds 1 3 bodyV 3) 1 = 0 := by decide
/-- what the law's rounds come to -/
theorem counts_C (c : Nat) (n : Int) (hc : 1 ≤ c ∧ c ≤ 62) (hn : 1 ≤ n ∧ n ≤ 2000) : ∀ r : Nat, (r : Int) ≤ n →
    2 * (rounds c n (bodyC c) r) 0 = r * (2 * n - r + 1) ∧ (rounds c n (bodyC c) r) 63 = r ∧ (rounds c n (bodyC c) r) c = n - r
  | 0, _ => by
    refine ⟨?_, ?_, ?_⟩ <;> simp [rounds, upd] <;> omega
  | r + 1, h => by
    obtain ⟨h1, h2, h3⟩ := counts_C c n hc hn r (by omega)
    have hb1 : 0 ≤ (r : Int) * (2 * n - r + 1) := Int.mul_nonneg (by omega) (by omega)
    have hb2 : (r : Int) * (2 * n - r + 1) ≤ 2000 * 4001 := Int.mul_le_mul (by omega) (by omega) (by omega) (by omega)
    have hid : ((r : Int) + 1) * (2 * n - ((r : Int) + 1) + 1) = r * (2 * n - r + 1) + 2 * (n - r) := by
      have e : 2 * n - ((r : Int) + 1) + 1 = (2 * n - r + 1) - 1 := by omega
      rw [e, Int.mul_sub, Int.add_mul]; omega
    have c0 : c ≠ 0 := by omega
    have c63 : c ≠ 63 := by omega
    have z0 : (0 : Nat) ≠ c := by omega
    have z63 : (63 : Nat) ≠ c := by omega
    have e0 : runF (bodyC c) (rounds c n (bodyC c) r) 0 = (rounds c n (bodyC c) r 0 + rounds c n (bodyC c) r c) % 4294967296 := by
      simp [bodyC, runF, stepF, valF, upd, aluOf, aluS]
    have e63 : runF (bodyC c) (rounds c n (bodyC c) r) 63 = (rounds c n (bodyC c) r 63 + 1) % 4294967296 := by
      simp [bodyC, runF, stepF, valF, upd, aluOf, aluS]
    have ec : runF (bodyC c) (rounds c n (bodyC c) r) c = rounds c n (bodyC c) r c := by
      simp [bodyC, runF, stepF, upd, c0, c63]
    have er : rounds c n (bodyC c) (r + 1) = upd (runF (bodyC c) (rounds c n (bodyC c) r)) c ((runF (bodyC c) (rounds c n (bodyC c) r) c - 1) % 4294967296) := rfl
    rw [er]
    refine ⟨?_, ?_, ?_⟩
    · unfold upd
      rw [if_neg z0, e0, h3]
      push_cast
      rw [hid]; omega
    · unfold upd
      rw [if_neg z63, e63, h2]
      push_cast
      omega
    · unfold upd
      rw [if_pos rfl, ec, h3]
      push_cast
      omega
end Go.Proofs.Ytokomefopbcihaa
