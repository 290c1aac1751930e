/- The statement QuantRuns of layer 20 (numbers brought to a byte by a loop program): it returns true for all inputs. -/
import Derived.Test.YtghclbeoabkgcaaRows
import Derived.Test.YtghclbeoabkgcaaQrP
namespace Go.Proofs.Ytghclbeoabkgcaa
open Pl Go Go.RowKit Go.ChangeShapes Go.WideShapes Go.ChangeAt
set_option linter.unusedVariables false

set_option maxRecDepth 100000 in
set_option maxHeartbeats 2000000 in
theorem qruns_no1 (n m s z lo hi : Int) (w : World) (C1 : canqS 0 0 1 s = false) :
    Calls Try.prog 3 #[.int .i32 n, .int .i32 m, .agg #[.int .i64 s, .int .i32 z, .int .i32 lo, .int .i32 hi]] w fun e w' => e = .returned (.bool true) ∧ Below w.heap.size w w' := by
  go_enter Try.func3, Try.ntmps3
  go_wp2_with (first | (go_at_call 11; refine (canq_any _ _ _ _ _ (by omega)).mono ?_; rw [C1]; rintro e w' ⟨rfl, rfl⟩) | (go_at_call 12; refine (bounds_any _ _ _ _ _ (by omega)).mono ?_; rw [C2]; rintro e w' ⟨rfl, rfl⟩) | (go_at_call 13; refine (law20_lives _).mono ?_; rintro e w1 ⟨rfl, b1⟩))
  go_ret
  exact ⟨rfl, (show Below w.heap.size w _ from ((Below.refl _ _).alloc (Nat.le_refl _) _)).trans (b1.mono (by simp))⟩
set_option maxRecDepth 100000 in
set_option maxHeartbeats 2000000 in
theorem qruns_no2 (n m s z lo hi : Int) (w : World) (C1 : canqS 0 0 1 s = true) (C2 : boundsS 0 1 lo hi = false) :
    Calls Try.prog 3 #[.int .i32 n, .int .i32 m, .agg #[.int .i64 s, .int .i32 z, .int .i32 lo, .int .i32 hi]] w fun e w' => e = .returned (.bool true) ∧ Below w.heap.size w w' := by
  go_enter Try.func3, Try.ntmps3
  go_wp2_with (first | (go_at_call 11; refine (canq_any _ _ _ _ _ (by omega)).mono ?_; rw [C1]; rintro e w' ⟨rfl, rfl⟩) | (go_at_call 12; refine (bounds_any _ _ _ _ _ (by omega)).mono ?_; rw [C2]; rintro e w' ⟨rfl, rfl⟩) | (go_at_call 13; refine (law20_lives _).mono ?_; rintro e w1 ⟨rfl, b1⟩))
  go_ret
  exact ⟨rfl, (show Below w.heap.size w _ from ((Below.refl _ _).alloc (Nat.le_refl _) _)).trans (b1.mono (by simp))⟩
set_option maxRecDepth 100000 in
set_option maxHeartbeats 2000000 in
theorem qruns_no3 (n m s z lo hi : Int) (w : World) (C1 : canqS 0 0 1 s = true) (C2 : boundsS 0 1 lo hi = true) (C3 : decide (1000 < z) = true) :
    Calls Try.prog 3 #[.int .i32 n, .int .i32 m, .agg #[.int .i64 s, .int .i32 z, .int .i32 lo, .int .i32 hi]] w fun e w' => e = .returned (.bool true) ∧ Below w.heap.size w w' := by
  go_enter Try.func3, Try.ntmps3
  go_wp2_with (first | (go_at_call 11; refine (canq_any _ _ _ _ _ (by omega)).mono ?_; rw [C1]; rintro e w' ⟨rfl, rfl⟩) | (go_at_call 12; refine (bounds_any _ _ _ _ _ (by omega)).mono ?_; rw [C2]; rintro e w' ⟨rfl, rfl⟩) | (go_at_call 13; refine (law20_lives _).mono ?_; rintro e w1 ⟨rfl, b1⟩))
  go_ret
  exact ⟨rfl, (show Below w.heap.size w _ from ((Below.refl _ _).alloc (Nat.le_refl _) _)).trans (b1.mono (by simp))⟩
set_option maxRecDepth 100000 in
set_option maxHeartbeats 2000000 in
theorem qruns_no4 (n m s z lo hi : Int) (w : World) (C1 : canqS 0 0 1 s = true) (C2 : boundsS 0 1 lo hi = true) (C3 : decide (1000 < z) = false) (C4 : decide (z < -1000) = true) :
    Calls Try.prog 3 #[.int .i32 n, .int .i32 m, .agg #[.int .i64 s, .int .i32 z, .int .i32 lo, .int .i32 hi]] w fun e w' => e = .returned (.bool true) ∧ Below w.heap.size w w' := by
  go_enter Try.func3, Try.ntmps3
  go_wp2_with (first | (go_at_call 11; refine (canq_any _ _ _ _ _ (by omega)).mono ?_; rw [C1]; rintro e w' ⟨rfl, rfl⟩) | (go_at_call 12; refine (bounds_any _ _ _ _ _ (by omega)).mono ?_; rw [C2]; rintro e w' ⟨rfl, rfl⟩) | (go_at_call 13; refine (law20_lives _).mono ?_; rintro e w1 ⟨rfl, b1⟩))
  go_ret
  exact ⟨rfl, (show Below w.heap.size w _ from ((Below.refl _ _).alloc (Nat.le_refl _) _)).trans (b1.mono (by simp))⟩
end Go.Proofs.Ytghclbeoabkgcaa
