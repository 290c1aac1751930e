/- Contracts of the document's Good and Out of windows. -/
import Derived.Test.YtdbfakllcaojcaaTW
namespace Go.Proofs.Ytdbfakllcaojcaa
open Go Go.RowKit
set_option linter.unusedVariables false


set_option maxHeartbeats 2000000 in
theorem good_a0 (n0 n1 k0 k1 s0 s1 p0 p1 q0 q1 : Int) (w : World) (h0_0 : n0 < 1) :
    Calls Try.prog 52 #[.agg #[.int .i64 n0, .int .i64 n1], .agg #[.int .i64 k0, .int .i64 k1], .agg #[.int .i64 s0, .int .i64 s1], .agg #[.int .i64 p0, .int .i64 p1, .int .i64 q0, .int .i64 q1]] w fun e w' => e = .returned (.bool (gdW n0 k0 s0 p0 q0 && gdW n1 k1 s1 p1 q1)) ∧ Below w.heap.size w w' := by
  rw [show (gdW n0 k0 s0 p0 q0 && gdW n1 k1 s1 p1 q1) = false by rw [show gdW n0 k0 s0 p0 q0 = false from decide_eq_false (fun h => by omega)]; simp]
  have t0_0 : decide (n0 < 1) = true := by simp; omega
  have u2 : IntKind.i64.wrap 2 = 2 := rfl
  have u3 : IntKind.i64.wrap 3 = 3 := rfl
  go_enter Try.func52, Try.ntmps52
  go_wp2_with fail
  refine wp_loop_rounds 3 ?_
  rw [rounds_succ]
  go_wp2_with fail
  refine wp_region_quiet_lit (by kernel_rfl) (by kernel_rfl) ?_
  simp only [List.append]
  repeat (go_big_quiet_step (fail))
  refine wpQuiet_nil ?_
  intro _ hw'
  obtain ⟨nq0, hw2⟩ := hw'
  subst hw2
  go_wp2_with fail
  go_ret
  exact ⟨rfl, by repeat' (first | (with_reducible refine below_drewN ?_ _) | (with_reducible refine Below.setCell ?_ ?_ _) | (with_reducible refine Below.alloc ?_ ?_ _) | (with_reducible exact Below.refl _ _) | go_size)⟩
set_option maxHeartbeats 2000000 in
theorem good_a1 (n0 n1 k0 k1 s0 s1 p0 p1 q0 q1 : Int) (w : World) (h0_0 : 1 ≤ n0) (h0_1 : 64 < n0) :
    Calls Try.prog 52 #[.agg #[.int .i64 n0, .int .i64 n1], .agg #[.int .i64 k0, .int .i64 k1], .agg #[.int .i64 s0, .int .i64 s1], .agg #[.int .i64 p0, .int .i64 p1, .int .i64 q0, .int .i64 q1]] w fun e w' => e = .returned (.bool (gdW n0 k0 s0 p0 q0 && gdW n1 k1 s1 p1 q1)) ∧ Below w.heap.size w w' := by
  rw [show (gdW n0 k0 s0 p0 q0 && gdW n1 k1 s1 p1 q1) = false by rw [show gdW n0 k0 s0 p0 q0 = false from decide_eq_false (fun h => by omega)]; simp]
  have t0_0 : decide (n0 < 1) = false := by simp; omega
  have t0_1 : decide (64 < n0) = true := by simp; omega
  have u2 : IntKind.i64.wrap 2 = 2 := rfl
  have u3 : IntKind.i64.wrap 3 = 3 := rfl
  go_enter Try.func52, Try.ntmps52
  go_wp2_with fail
  refine wp_loop_rounds 3 ?_
  rw [rounds_succ]
  go_wp2_with fail
  refine wp_region_quiet_lit (by kernel_rfl) (by kernel_rfl) ?_
  simp only [List.append]
  repeat (go_big_quiet_step (fail))
  refine wpQuiet_nil ?_
  intro _ hw'
  obtain ⟨nq0, hw2⟩ := hw'
  subst hw2
  go_wp2_with fail
  go_ret
  exact ⟨rfl, by repeat' (first | (with_reducible refine below_drewN ?_ _) | (with_reducible refine Below.setCell ?_ ?_ _) | (with_reducible refine Below.alloc ?_ ?_ _) | (with_reducible exact Below.refl _ _) | go_size)⟩
set_option maxHeartbeats 2000000 in
theorem good_a2 (n0 n1 k0 k1 s0 s1 p0 p1 q0 q1 : Int) (w : World) (h0_0 : 1 ≤ n0) (h0_1 : n0 ≤ 64) (h0_2 : k0 < 1) :
    Calls Try.prog 52 #[.agg #[.int .i64 n0, .int .i64 n1], .agg #[.int .i64 k0, .int .i64 k1], .agg #[.int .i64 s0, .int .i64 s1], .agg #[.int .i64 p0, .int .i64 p1, .int .i64 q0, .int .i64 q1]] w fun e w' => e = .returned (.bool (gdW n0 k0 s0 p0 q0 && gdW n1 k1 s1 p1 q1)) ∧ Below w.heap.size w w' := by
  rw [show (gdW n0 k0 s0 p0 q0 && gdW n1 k1 s1 p1 q1) = false by rw [show gdW n0 k0 s0 p0 q0 = false from decide_eq_false (fun h => by omega)]; simp]
  have t0_0 : decide (n0 < 1) = false := by simp; omega
  have t0_1 : decide (64 < n0) = false := by simp; omega
  have t0_2 : decide (k0 < 1) = true := by simp; omega
  have u2 : IntKind.i64.wrap 2 = 2 := rfl
  have u3 : IntKind.i64.wrap 3 = 3 := rfl
  go_enter Try.func52, Try.ntmps52
  go_wp2_with fail
  refine wp_loop_rounds 3 ?_
  rw [rounds_succ]
  go_wp2_with fail
  refine wp_region_quiet_lit (by kernel_rfl) (by kernel_rfl) ?_
  simp only [List.append]
  repeat (go_big_quiet_step (fail))
  refine wpQuiet_nil ?_
  intro _ hw'
  obtain ⟨nq0, hw2⟩ := hw'
  subst hw2
  go_wp2_with fail
  go_ret
  exact ⟨rfl, by repeat' (first | (with_reducible refine below_drewN ?_ _) | (with_reducible refine Below.setCell ?_ ?_ _) | (with_reducible refine Below.alloc ?_ ?_ _) | (with_reducible exact Below.refl _ _) | go_size)⟩
set_option maxHeartbeats 2000000 in
theorem good_a3 (n0 n1 k0 k1 s0 s1 p0 p1 q0 q1 : Int) (w : World) (h0_0 : 1 ≤ n0) (h0_1 : n0 ≤ 64) (h0_2 : 1 ≤ k0) (h0_3 : 8 < k0) :
    Calls Try.prog 52 #[.agg #[.int .i64 n0, .int .i64 n1], .agg #[.int .i64 k0, .int .i64 k1], .agg #[.int .i64 s0, .int .i64 s1], .agg #[.int .i64 p0, .int .i64 p1, .int .i64 q0, .int .i64 q1]] w fun e w' => e = .returned (.bool (gdW n0 k0 s0 p0 q0 && gdW n1 k1 s1 p1 q1)) ∧ Below w.heap.size w w' := by
  rw [show (gdW n0 k0 s0 p0 q0 && gdW n1 k1 s1 p1 q1) = false by rw [show gdW n0 k0 s0 p0 q0 = false from decide_eq_false (fun h => by omega)]; simp]
  have t0_0 : decide (n0 < 1) = false := by simp; omega
  have t0_1 : decide (64 < n0) = false := by simp; omega
  have t0_2 : decide (k0 < 1) = false := by simp; omega
  have t0_3 : decide (8 < k0) = true := by simp; omega
  have u2 : IntKind.i64.wrap 2 = 2 := rfl
  have u3 : IntKind.i64.wrap 3 = 3 := rfl
  go_enter Try.func52, Try.ntmps52
  go_wp2_with fail
  refine wp_loop_rounds 3 ?_
  rw [rounds_succ]
  go_wp2_with fail
  refine wp_region_quiet_lit (by kernel_rfl) (by kernel_rfl) ?_
  simp only [List.append]
  repeat (go_big_quiet_step (fail))
  refine wpQuiet_nil ?_
  intro _ hw'
  obtain ⟨nq0, hw2⟩ := hw'
  subst hw2
  go_wp2_with fail
  go_ret
  exact ⟨rfl, by repeat' (first | (with_reducible refine below_drewN ?_ _) | (with_reducible refine Below.setCell ?_ ?_ _) | (with_reducible refine Below.alloc ?_ ?_ _) | (with_reducible exact Below.refl _ _) | go_size)⟩
set_option maxHeartbeats 2000000 in
theorem good_a4 (n0 n1 k0 k1 s0 s1 p0 p1 q0 q1 : Int) (w : World) (h0_0 : 1 ≤ n0) (h0_1 : n0 ≤ 64) (h0_2 : 1 ≤ k0) (h0_3 : k0 ≤ 8) (h0_4 : s0 < 1) :
    Calls Try.prog 52 #[.agg #[.int .i64 n0, .int .i64 n1], .agg #[.int .i64 k0, .int .i64 k1], .agg #[.int .i64 s0, .int .i64 s1], .agg #[.int .i64 p0, .int .i64 p1, .int .i64 q0, .int .i64 q1]] w fun e w' => e = .returned (.bool (gdW n0 k0 s0 p0 q0 && gdW n1 k1 s1 p1 q1)) ∧ Below w.heap.size w w' := by
  rw [show (gdW n0 k0 s0 p0 q0 && gdW n1 k1 s1 p1 q1) = false by rw [show gdW n0 k0 s0 p0 q0 = false from decide_eq_false (fun h => by omega)]; simp]
  have t0_0 : decide (n0 < 1) = false := by simp; omega
  have t0_1 : decide (64 < n0) = false := by simp; omega
  have t0_2 : decide (k0 < 1) = false := by simp; omega
  have t0_3 : decide (8 < k0) = false := by simp; omega
  have t0_4 : decide (s0 < 1) = true := by simp; omega
  have u2 : IntKind.i64.wrap 2 = 2 := rfl
  have u3 : IntKind.i64.wrap 3 = 3 := rfl
  go_enter Try.func52, Try.ntmps52
  go_wp2_with fail
  refine wp_loop_rounds 3 ?_
  rw [rounds_succ]
  go_wp2_with fail
  refine wp_region_quiet_lit (by kernel_rfl) (by kernel_rfl) ?_
  simp only [List.append]
  repeat (go_big_quiet_step (fail))
  refine wpQuiet_nil ?_
  intro _ hw'
  obtain ⟨nq0, hw2⟩ := hw'
  subst hw2
  go_wp2_with fail
  go_ret
  exact ⟨rfl, by repeat' (first | (with_reducible refine below_drewN ?_ _) | (with_reducible refine Below.setCell ?_ ?_ _) | (with_reducible refine Below.alloc ?_ ?_ _) | (with_reducible exact Below.refl _ _) | go_size)⟩
set_option maxHeartbeats 2000000 in
theorem good_a5 (n0 n1 k0 k1 s0 s1 p0 p1 q0 q1 : Int) (w : World) (h0_0 : 1 ≤ n0) (h0_1 : n0 ≤ 64) (h0_2 : 1 ≤ k0) (h0_3 : k0 ≤ 8) (h0_4 : 1 ≤ s0) (h0_5 : 8 < s0) :
    Calls Try.prog 52 #[.agg #[.int .i64 n0, .int .i64 n1], .agg #[.int .i64 k0, .int .i64 k1], .agg #[.int .i64 s0, .int .i64 s1], .agg #[.int .i64 p0, .int .i64 p1, .int .i64 q0, .int .i64 q1]] w fun e w' => e = .returned (.bool (gdW n0 k0 s0 p0 q0 && gdW n1 k1 s1 p1 q1)) ∧ Below w.heap.size w w' := by
  rw [show (gdW n0 k0 s0 p0 q0 && gdW n1 k1 s1 p1 q1) = false by rw [show gdW n0 k0 s0 p0 q0 = false from decide_eq_false (fun h => by omega)]; simp]
  have t0_0 : decide (n0 < 1) = false := by simp; omega
  have t0_1 : decide (64 < n0) = false := by simp; omega
  have t0_2 : decide (k0 < 1) = false := by simp; omega
  have t0_3 : decide (8 < k0) = false := by simp; omega
  have t0_4 : decide (s0 < 1) = false := by simp; omega
  have t0_5 : decide (8 < s0) = true := by simp; omega
  have u2 : IntKind.i64.wrap 2 = 2 := rfl
  have u3 : IntKind.i64.wrap 3 = 3 := rfl
  go_enter Try.func52, Try.ntmps52
  go_wp2_with fail
  refine wp_loop_rounds 3 ?_
  rw [rounds_succ]
  go_wp2_with fail
  refine wp_region_quiet_lit (by kernel_rfl) (by kernel_rfl) ?_
  simp only [List.append]
  repeat (go_big_quiet_step (fail))
  refine wpQuiet_nil ?_
  intro _ hw'
  obtain ⟨nq0, hw2⟩ := hw'
  subst hw2
  go_wp2_with fail
  go_ret
  exact ⟨rfl, by repeat' (first | (with_reducible refine below_drewN ?_ _) | (with_reducible refine Below.setCell ?_ ?_ _) | (with_reducible refine Below.alloc ?_ ?_ _) | (with_reducible exact Below.refl _ _) | go_size)⟩
end Go.Proofs.Ytdbfakllcaojcaa
