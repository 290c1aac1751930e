/- Plain facts on floats: comparisons and complex sums of small whole numbers. -/
import Derived.Test.YtgemajmimjkgcaaFloatP
import Derived.WalkLawsBesides
namespace Go.Proofs.Ytgemajmimjkgcaa.Pl
open Go Ieee

theorem fmt64 : FloatKind.f64.format = double := rfl
theorem fN_zero : fN 0 = 0 := by unfold fN; decide
theorem floatOfInt_fN (a : Int) : floatOfInt .f64 a = fN a := rfl
theorem ge_small (a b : Int) (ha : -1048576 ≤ a ∧ a ≤ 1048576) (hb : -1048576 ≤ b ∧ b ≤ 1048576) :
    (FloatKind.f64.format.order (fN a) (fN b) == some .gt || FloatKind.f64.format.order (fN a) (fN b) == some .eq) = decide (b ≤ a) := by
  rw [fmt64, order_small a b (log2_le a ha) (log2_le b hb)]
  simp only [compare, compareOfLessAndEq]
  rcases Int.lt_trichotomy a b with h | h | h
  · rw [if_pos h]; simp; omega
  · subst h; simp
  · rw [if_neg (by omega), if_neg (by omega)]; simp; omega
theorem le_small (a b : Int) (ha : -1048576 ≤ a ∧ a ≤ 1048576) (hb : -1048576 ≤ b ∧ b ≤ 1048576) :
    (FloatKind.f64.format.order (fN a) (fN b) == some .lt || FloatKind.f64.format.order (fN a) (fN b) == some .eq) = decide (a ≤ b) := by
  rw [fmt64, order_small a b (log2_le a ha) (log2_le b hb)]
  simp only [compare, compareOfLessAndEq]
  rcases Int.lt_trichotomy a b with h | h | h
  · rw [if_pos h]; simp; omega
  · subst h; simp
  · rw [if_neg (by omega), if_neg (by omega)]; simp; omega
theorem cadd_small (a b c d : Int) (ha : -524288 ≤ a ∧ a ≤ 524288) (hb : -524288 ≤ b ∧ b ≤ 524288) (hc : -524288 ≤ c ∧ c ≤ 524288) (hd : -524288 ≤ d ∧ d ≤ 524288) :
    cSumBits .add .f64 (fN a) (fN b) (fN c) (fN d) = some (fN (a + c), fN (b + d)) := by
  have h1 : floatBits .add .f64 (fN a) (fN c) = some (fN (a + c)) := add_small a c (log2_le _ (by omega)) (log2_le _ (by omega)) (log2_le _ (by omega))
  have h2 : floatBits .add .f64 (fN b) (fN d) = some (fN (b + d)) := add_small b d (log2_le _ (by omega)) (log2_le _ (by omega)) (log2_le _ (by omega))
  unfold cSumBits
  rw [h1, h2]; rfl
theorem csub_small (a b c d : Int) (ha : -524288 ≤ a ∧ a ≤ 524288) (hb : -524288 ≤ b ∧ b ≤ 524288) (hc : -524288 ≤ c ∧ c ≤ 524288) (hd : -524288 ≤ d ∧ d ≤ 524288) :
    cSumBits .sub .f64 (fN a) (fN b) (fN c) (fN d) = some (fN (a - c), fN (b - d)) := by
  have h1 : floatBits .sub .f64 (fN a) (fN c) = some (fN (a - c)) := sub_small a c (log2_le _ (by omega)) (log2_le _ (by omega)) (log2_le _ (by omega))
  have h2 : floatBits .sub .f64 (fN b) (fN d) = some (fN (b - d)) := sub_small b d (log2_le _ (by omega)) (log2_le _ (by omega)) (log2_le _ (by omega))
  unfold cSumBits
  rw [h1, h2]; rfl
end Go.Proofs.Ytgemajmimjkgcaa.Pl
