/- Plain facts on windows: each output has a tap. -/
import Derived.Test.YtgemajmimjkgcaaTapsP
namespace Go.Proofs.Ytgemajmimjkgcaa.Pl
open Go Go.RowKit

theorem cnt_pos {f : Nat → Bool} {k : Nat} (hf : f k = true) : ∀ n, k < n → 1 ≤ cntB f n
  | 0, h => by omega
  | n + 1, h => by
    unfold cntB
    by_cases g : k = n
    · subst g; rw [if_pos hf]; omega
    · have := cnt_pos hf n (by omega)
      omega
theorem side_some {n k s p q y : Int} (hn : 1 ≤ n) (hk : 1 ≤ k) (hp : p < k) (hq : q < k) (hy : 0 ≤ y * s) (h : y * s + k ≤ n + p + q) : ∃ i, 0 ≤ i ∧ i < k ∧ 0 ≤ y * s + i - p ∧ y * s + i - p < n := by
  by_cases c : p ≤ y * s
  · exact ⟨0, by omega⟩
  · exact ⟨p - y * s, by omega⟩
theorem never {n0 n1 k0 k1 s0 s1 p0 p1 q0 q1 y x : Int} (hn0 : 1 ≤ n0) (hn1 : 1 ≤ n1) (hk0 : 1 ≤ k0) (hk1 : 1 ≤ k1) (hp0 : p0 < k0) (hp1 : p1 < k1) (hq0 : q0 < k0) (hq1 : q1 < k1)
    (hy : 0 ≤ y * s0) (hx : 0 ≤ x * s1) (gy : y * s0 + k0 ≤ n0 + p0 + q0) (gx : x * s1 + k1 ≤ n1 + p1 + q1) : 1 ≤ cntB (tapB n0 n1 k1 s0 s1 p0 p1 y x) (k0 * k1).toNat := by
  obtain ⟨i, i0, i1, i2, i3⟩ := side_some hn0 hk0 hp0 hq0 hy gy
  obtain ⟨j, j0, j1, j2, j3⟩ := side_some hn1 hk1 hp1 hq1 hx gx
  have m0 : 0 ≤ i * k1 := Int.mul_nonneg i0 (by omega)
  have m1 : i * k1 + k1 ≤ k0 * k1 := by
    have := Int.mul_le_mul_of_nonneg_right (show i + 1 ≤ k0 by omega) (show 0 ≤ k1 by omega)
    rw [Int.add_mul] at this; omega
  have el : ((i * k1 + j).toNat : Int) = i * k1 + j := Int.toNat_of_nonneg (by omega)
  have d1 : (i * k1 + j) / k1 = i := by
    rw [Int.add_comm, Int.add_mul_ediv_right _ _ (by omega), Int.ediv_eq_zero_of_lt j0 j1]; omega
  have d2 : (i * k1 + j) % k1 = j := by
    rw [Int.add_comm, Int.add_mul_emod_self_right, Int.emod_eq_of_lt j0 j1]
  refine cnt_pos (k := (i * k1 + j).toNat) (decide_eq_true ?_) _ (by omega)
  rw [el, d1, d2]
  exact ⟨i2, i3, j2, j3⟩
end Go.Proofs.Ytgemajmimjkgcaa.Pl
