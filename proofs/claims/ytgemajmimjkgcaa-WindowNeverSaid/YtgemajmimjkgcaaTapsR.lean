/- Plain facts on windows: the places that lie over the input, as a list of cells. -/
import Derived.Test.YtgemajmimjkgcaaTapsP
namespace Go.Proofs.Ytgemajmimjkgcaa.Pl
open Go Go.RowKit

/-- the cells of the places, two each -/
def tapL (k1 : Int) (f : Nat → Bool) : Nat → List Value
  | 0 => []
  | n + 1 => if f n then tapL k1 f n ++ [.int .i64 ((n : Int) / k1), .int .i64 ((n : Int) % k1)] else tapL k1 f n
theorem tapL_yes {k1 : Int} {f : Nat → Bool} {n : Nat} (h : f n = true) : tapL k1 f (n + 1) = tapL k1 f n ++ [.int .i64 ((n : Int) / k1), .int .i64 ((n : Int) % k1)] := by
  show (if f n then _ else _) = _; rw [h]; rfl
theorem tapL_no {k1 : Int} {f : Nat → Bool} {n : Nat} (h : f n = false) : tapL k1 f (n + 1) = tapL k1 f n := by
  show (if f n then _ else _) = _; rw [h]; rfl
theorem tapL_len (k1 : Int) (f : Nat → Bool) : ∀ n, (tapL k1 f n).length = 2 * cntB f n
  | 0 => rfl
  | n + 1 => by
    have ih := tapL_len k1 f n
    unfold cntB
    cases h : f n
    · rw [tapL_no h, ih]; simp
    · rw [tapL_yes h]; simp [ih]; omega
theorem tapL_at (k1 : Int) (f : Nat → Bool) : ∀ n i, i < cntB f n → ∃ x y, (tapL k1 f n)[2 * i]? = some (.int .i64 x) ∧ (tapL k1 f n)[2 * i + 1]? = some (.int .i64 y)
  | 0, i, h => absurd h (Nat.not_lt_zero i)
  | n + 1, i, h => by
    have hl := tapL_len k1 f n
    have ih := tapL_at k1 f n i
    unfold cntB at h
    cases hf : f n
    · rw [hf] at h
      rw [tapL_no hf]
      exact ih (by simpa using h)
    · rw [hf] at h
      rw [tapL_yes hf]
      rcases Nat.lt_or_ge i (cntB f n) with g | g
      · obtain ⟨x, y, hx, hy⟩ := ih g
        refine ⟨x, y, ?_, ?_⟩
        · rw [List.getElem?_append_left (by omega)]; exact hx
        · rw [List.getElem?_append_left (by omega)]; exact hy
      · obtain rfl : i = cntB f n := by simp at h; omega
        refine ⟨(n : Int) / k1, (n : Int) % k1, ?_, ?_⟩
        · rw [List.getElem?_append_right (by omega), show 2 * cntB f n - (tapL k1 f n).length = 0 by omega]; rfl
        · rw [List.getElem?_append_right (by omega), show 2 * cntB f n + 1 - (tapL k1 f n).length = 1 by omega]; rfl
theorem pair_dm {i j K1 : Nat} {k1 : Int} (hk : k1 = K1) (hj : j < K1) : ((i * K1 + j : Nat) : Int) / k1 = i ∧ ((i * K1 + j : Nat) : Int) % k1 = j := by
  have hc : ((i * K1 + j : Nat) : Int) = (j : Int) + (i : Int) * (K1 : Int) := by rw [Int.natCast_add, Int.natCast_mul]; omega
  rw [hk, hc, Int.add_mul_ediv_right _ _ (by omega), Int.add_mul_emod_self_right, Int.ediv_eq_zero_of_lt (by omega) (by omega), Int.emod_eq_of_lt (by omega) (by omega)]
  omega
theorem tap_pair {m0 m1 k1 s0 s1 p0 p1 y x : Int} {i j K1 : Nat} (hk : k1 = K1) (hj : j < K1) :
    tapB m0 m1 k1 s0 s1 p0 p1 y x (i * K1 + j) = decide (0 ≤ y * s0 - p0 + (i : Int) ∧ y * s0 - p0 + (i : Int) < m0 ∧ 0 ≤ x * s1 - p1 + (j : Int) ∧ x * s1 - p1 + (j : Int) < m1) := by
  obtain ⟨h1, h2⟩ := pair_dm (i := i) hk hj
  unfold tapB
  rw [h1, h2, decide_eq_decide]
  omega
end Go.Proofs.Ytgemajmimjkgcaa.Pl
