/- Contracts of the places of windows (complex numbers). -/
import Derived.Test.YtgemajmimjkgcaaOpen
import Derived.Test.YtgemajmimjkgcaaFloatQ
import Derived.Test.YtgemajmimjkgcaaProg
import Derived.WalkSpells
import Derived.WalkSmall
import Derived.Handy
import Derived.Lib.Hide
import Derived.BigQuiet
import Derived.Laws.StructEq
import Derived.Deep.QuietTactic
import Derived.Deep.RegionHeld3

namespace Go.Proofs.Ytgemajmimjkgcaa
open Go Go.RowKit Pl
set_option linter.unusedVariables false

theorem und_f64 : Try.prog.underlying 113 = some (.float .f64) := by kernel_rfl
theorem und_int : (Try.prog.underlying 3).isSome = true := by kernel_rfl
theorem conv_f (n : Int) (w : World) : (convert 3 113 (.int .i64 n)).run Try.prog w = .ok (.float .f64 (fN n)) w := by
  rw [run_convert_int_float w _ _ _ _ n und_int und_f64, floatOfInt_fN]
theorem place_any (r c : Int) (w : World) : Calls Try.prog 48 #[.int .i64 r, .int .i64 c] w fun e w' => e = .returned (.complex .f64 (fN r) (fN c)) ∧ w = w' := by
  have cv := conv_f
  go_enter Try.func48, Try.ntmps48
  go_wp2_with fail
  all_goals (go_ret; exact ⟨rfl, rfl⟩)
theorem fN_ge {a : Int} (ha : -1048576 ≤ a ∧ a ≤ 1048576) : (FloatKind.f64.format.order (fN a) 0 == some .gt || FloatKind.f64.format.order (fN a) 0 == some .eq) = decide (0 ≤ a) := by
  have h := ge_small a 0 ha (by omega)
  rw [fN_zero] at h
  exact h
set_option maxHeartbeats 1000000 in
theorem corner_any (a0 a1 b0 b1 b2 b3 y x : Int) (w : World) (ha0 : 1 ≤ a0 ∧ a0 ≤ 8) (ha1 : 1 ≤ a1 ∧ a1 ≤ 8) (hb0 : 0 ≤ b0 ∧ b0 ≤ 7) (hb1 : 0 ≤ b1 ∧ b1 ≤ 7) (hy : 0 ≤ y ∧ y ≤ 1001) (hx : 0 ≤ x ∧ x ≤ 1001) :
    Calls Try.prog 46 #[.agg #[.int .i64 a0, .int .i64 a1], .agg #[.int .i64 b0, .int .i64 b1, .int .i64 b2, .int .i64 b3], .int .i64 y, .int .i64 x] w fun e w' => e = .returned (.complex .f64 (fN (y * a0 - b0)) (fN (x * a1 - b1))) ∧ Below w.heap.size w w' := by
  have YB : 0 ≤ y * a0 ∧ y * a0 ≤ 8008 := by
    refine ⟨Int.mul_nonneg hy.1 (by omega), ?_⟩
    have := Int.mul_le_mul hy.2 ha0.2 (by omega) (by omega)
    omega
  have XB : 0 ≤ x * a1 ∧ x * a1 ≤ 8008 := by
    refine ⟨Int.mul_nonneg hx.1 (by omega), ?_⟩
    have := Int.mul_le_mul hx.2 ha1.2 (by omega) (by omega)
    omega
  have u1 := IntWalk.i64_in (y * a0) (by omega)
  have u2 := IntWalk.i64_in (x * a1) (by omega)
  have hop := fun t w => run_complex_sum (P := Try.prog) w .sub (Or.inr rfl) t .f64 _ _ _ _ _ _ (csub_small (y * a0) (x * a1) b0 b1 (by omega) (by omega) (by omega) (by omega))
  go_enter Try.func46, Try.ntmps46
  go_wp2_with fail
  go_region_held3 (fun w' => w'.cell? ⟨w.heap.size, 0, none⟩ = some (.int .i64 a0) ∧ w'.cell? ⟨w.heap.size, 1, none⟩ = some (.int .i64 a1) ∧ w'.cell? ⟨w.heap.size + 1, 0, none⟩ = some (.int .i64 b0) ∧ w'.cell? ⟨w.heap.size + 1, 1, none⟩ = some (.int .i64 b1) ∧ w'.cell? ⟨w.heap.size + 1, 2, none⟩ = some (.int .i64 b2) ∧ w'.cell? ⟨w.heap.size + 1, 3, none⟩ = some (.int .i64 b3) ∧ w.heap.size + 1 < w'.heap.size ∧ Below w.heap.size w w')
    (first | exact ⟨by simp, by simp, by simp, by simp, by simp, by simp, by simp, by go_grown⟩ | (obtain ⟨s0, s1, s2, s3, s4, s5, s6, s7⟩ := ‹_ ∧ _ ∧ _ ∧ _ ∧ _ ∧ _ ∧ _ ∧ Below w.heap.size w _›; exact ⟨(hbl.cell (by show w.heap.size < _; omega)).trans s0, (hbl.cell (by show w.heap.size < _; omega)).trans s1, (hbl.cell (by show w.heap.size + 1 < _; omega)).trans s2, (hbl.cell (by show w.heap.size + 1 < _; omega)).trans s3, (hbl.cell (by show w.heap.size + 1 < _; omega)).trans s4, (hbl.cell (by show w.heap.size + 1 < _; omega)).trans s5, by have := hbl.size; omega, Below.trans s7 (hbl.mono (by omega))⟩) | (with_reducible assumption) | (obtain ⟨s0, s1, s2, s3, s4, s5, s6, s7⟩ := ‹_ ∧ _ ∧ _ ∧ _ ∧ _ ∧ _ ∧ _ ∧ Below w.heap.size w _›; exact ⟨s0, s1, s2, s3, s4, s5, s6, s7⟩))
    (first | (go_at_call 48; refine (place_any _ _ _).mono ?_; rintro e w9 ⟨rfl, rfl⟩))
  go_wp2_with fail
  go_ret
  refine ⟨rfl, ?_⟩
  obtain ⟨_, _, _, _, _, _, _, hB⟩ := ‹_ ∧ _ ∧ _ ∧ _ ∧ _ ∧ _ ∧ _ ∧ Below w.heap.size w _›
  exact hB
set_option maxHeartbeats 1000000 in
theorem over_any (r c n0 n1 : Int) (w : World) (hr : -20000 ≤ r ∧ r ≤ 20000) (hc : -20000 ≤ c ∧ c ≤ 20000) (hn0 : 1 ≤ n0 ∧ n0 ≤ 64) (hn1 : 1 ≤ n1 ∧ n1 ≤ 64) :
    Calls Try.prog 47 #[.complex .f64 (fN r) (fN c), .agg #[.int .i64 n0, .int .i64 n1]] w fun e w' => e = .returned (.bool (decide (0 ≤ r ∧ r < n0 ∧ 0 ≤ c ∧ c < n1))) ∧ Below w.heap.size w w' := by
  have u1 := IntWalk.i64_in (n0 - 1) (by omega)
  have u2 := IntWalk.i64_in (n1 - 1) (by omega)
  have g1 := fN_ge (a := r) (by omega)
  have g2 := fN_ge (a := c) (by omega)
  have l1 := le_small r (n0 - 1) (by omega) (by omega)
  have l2 := le_small c (n1 - 1) (by omega) (by omega)
  have hh : decide (0 ≤ r ∧ r < n0 ∧ 0 ≤ c ∧ c < n1) = (decide (0 ≤ r) && (decide (0 ≤ c) && (decide (r ≤ n0 - 1) && decide (c ≤ n1 - 1)))) := by
    rw [Bool.eq_iff_iff]; simp only [Bool.and_eq_true, decide_eq_true_eq]; omega
  rw [hh]
  clear hh
  go_enter Try.func47, Try.ntmps47
  cases h1 : decide (0 ≤ r)
  all_goals cases h2 : decide (0 ≤ c)
  all_goals cases h3 : decide (r ≤ n0 - 1)
  all_goals rw [h1] at g1
  all_goals rw [h2] at g2
  all_goals rw [h3] at l1
  all_goals (go_wp2_with ((go_at_call 48; refine (place_any _ _ _).mono ?_; rintro e w9 ⟨rfl, rfl⟩)))
  all_goals (go_ret; refine ⟨?_, by go_grown⟩)
  all_goals rfl
end Go.Proofs.Ytgemajmimjkgcaa
