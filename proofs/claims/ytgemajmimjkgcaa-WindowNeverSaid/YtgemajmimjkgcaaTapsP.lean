/- Plain facts on windows: which outputs have all of the kernel over the input. -/
import Derived.WalkKit
namespace Go.Proofs.Ytgemajmimjkgcaa.Pl
open Go Go.RowKit

/-- whether one place of a kernel lies over the input -/
def tapB (m0 m1 k1 s0 s1 p0 p1 y x : Int) (n : Nat) : Bool :=
  decide (0 ≤ y * s0 + (n : Int) / k1 - p0 ∧ y * s0 + (n : Int) / k1 - p0 < m0 ∧ 0 ≤ x * s1 + (n : Int) % k1 - p1 ∧ x * s1 + (n : Int) % k1 - p1 < m1)
/-- how many of the first places do -/
def cntB (f : Nat → Bool) : Nat → Nat
  | 0 => 0
  | n + 1 => cntB f n + if f n then 1 else 0
theorem cnt_le (f : Nat → Bool) : ∀ n, cntB f n ≤ n
  | 0 => Nat.le_refl _
  | n + 1 => by have := cnt_le f n; unfold cntB; split <;> omega
theorem cnt_all (f : Nat → Bool) : ∀ n, cntB f n = n ↔ ∀ k, k < n → f k = true
  | 0 => by simp [cntB]
  | n + 1 => by
    have l := cnt_le f n
    have ih := cnt_all f n
    unfold cntB
    constructor
    · intro h k hk
      by_cases g : f n = true
      · rw [if_pos g] at h
        rcases Nat.lt_or_ge k n with q | q
        · exact ih.1 (by omega) k q
        · obtain rfl : k = n := by omega
          exact g
      · rw [if_neg g] at h; omega
    · intro h
      rw [if_pos (h n (by omega)), ih.2 (fun k hk => h k (by omega))]
/-- where rows (or columns) are whole: from which one, up to which -/
def fromW (n k s p : Int) : Int := if n + p - k < 0 then 0 else (p + s - 1) / s
def toW (n k s p o : Int) : Int := if n + p - k < 0 then 0 else if o ≤ (n + p - k) / s + 1 then o else (n + p - k) / s + 1
theorem side_iff {n k s p o y : Int} (hs : 1 ≤ s) (hy : 0 ≤ y ∧ y < o) : (fromW n k s p ≤ y ∧ y < toW n k s p o) ↔ (0 ≤ y * s - p ∧ y * s + (k - 1) - p < n) := by
  unfold fromW toW
  by_cases h : n + p - k < 0
  · rw [if_pos h, if_pos h]
    constructor
    · intro g; omega
    · intro g
      exfalso
      have := Int.mul_nonneg hy.1 (show 0 ≤ s by omega)
      omega
  · rw [if_neg h, if_neg h]
    have a : (p + s - 1) / s ≤ y ↔ p ≤ y * s := by
      have e := Int.ediv_lt_iff_lt_mul (a := p + s - 1) (b := y + 1) (c := s) (by omega)
      have m : (y + 1) * s = y * s + s := by rw [Int.add_mul]; omega
      rw [m] at e
      constructor
      · intro g
        have := e.1 (by omega)
        omega
      · intro g
        have := e.2 (by omega)
        omega
    have b : y < (n + p - k) / s + 1 ↔ y * s ≤ n + p - k := by
      have e := Int.le_ediv_iff_mul_le (a := y) (b := n + p - k) (c := s) (by omega)
      constructor
      · intro g; exact e.1 (by omega)
      · intro g; have := e.2 g; omega
    rw [a]
    split
    · constructor
      · rintro ⟨g1, g2⟩
        have := b.1 (by omega)
        omega
      · rintro ⟨g1, g2⟩
        exact ⟨by omega, hy.2⟩
    · rw [b]; constructor
      · rintro ⟨g1, g2⟩; omega
      · rintro ⟨g1, g2⟩; exact ⟨by omega, by omega⟩
/-- all of the kernel lies over the input just where both sides are whole -/
theorem all_iff {m0 m1 k0 k1 s0 s1 p0 p1 y x : Int} (hk0 : 1 ≤ k0) (hk1 : 1 ≤ k1) :
    cntB (tapB m0 m1 k1 s0 s1 p0 p1 y x) (k0 * k1).toNat = (k0 * k1).toNat ↔ ((0 ≤ y * s0 - p0 ∧ y * s0 + (k0 - 1) - p0 < m0) ∧ (0 ≤ x * s1 - p1 ∧ x * s1 + (k1 - 1) - p1 < m1)) := by
  rw [cnt_all]
  have hp : 1 ≤ k0 * k1 := by have := Int.mul_le_mul hk0 hk1 (by omega) (by omega); omega
  constructor
  · intro h
    have h0 := of_decide_eq_true (h 0 (by omega))
    have el : (((k0 - 1) * k1 + (k1 - 1)).toNat : Int) = (k0 - 1) * k1 + (k1 - 1) := by
      have := Int.mul_nonneg (show 0 ≤ k0 - 1 by omega) (show 0 ≤ k1 by omega)
      omega
    have lt : ((k0 - 1) * k1 + (k1 - 1)).toNat < (k0 * k1).toNat := by
      have e : (k0 - 1) * k1 = k0 * k1 - k1 := by rw [Int.sub_mul]; omega
      omega
    have hl := of_decide_eq_true (h _ lt)
    rw [el] at hl
    have d1 : ((k0 - 1) * k1 + (k1 - 1)) / k1 = k0 - 1 := by
      rw [Int.add_comm, Int.add_mul_ediv_right _ _ (by omega), Int.ediv_eq_zero_of_lt (by omega) (by omega)]; omega
    have d2 : ((k0 - 1) * k1 + (k1 - 1)) % k1 = k1 - 1 := by
      rw [Int.add_comm, Int.add_mul_emod_self_right, Int.emod_eq_of_lt (by omega) (by omega)]
    rw [d1, d2] at hl
    simp at h0
    omega
  · rintro ⟨⟨a1, a2⟩, b1, b2⟩ k hk
    apply decide_eq_true
    have q0 : 0 ≤ (k : Int) / k1 := Int.ediv_nonneg (by omega) (by omega)
    have q1 : (k : Int) / k1 ≤ k0 - 1 := by
      have := (Int.ediv_lt_iff_lt_mul (a := (k : Int)) (b := k0) (c := k1) (by omega)).2 (by omega)
      omega
    have r0 := Int.emod_nonneg (k : Int) (show k1 ≠ 0 by omega)
    have r1 := Int.emod_lt_of_pos (k : Int) (show 0 < k1 by omega)
    omega
end Go.Proofs.Ytgemajmimjkgcaa.Pl
