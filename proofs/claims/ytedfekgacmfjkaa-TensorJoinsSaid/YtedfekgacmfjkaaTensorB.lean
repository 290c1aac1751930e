/- Contracts of package tensor, more. -/
import Derived.Test.YtedfekgacmfjkaaTensor
import Derived.RegionTactic
import Derived.BigRegion
namespace Go.Proofs.Ytedfekgacmfjkaa
open Go Go.RowKit Pl
set_option linter.unusedVariables false

set_option maxHeartbeats 400000 in
theorem of_yes (x y z i : Int) (w : World) (hg : goodB x y z = true) (h0 : 0 ≤ i) (h1 : i < x * y * z) :
    Calls Try.prog 22 #[.agg #[.int .i64 x, .int .i64 y, .int .i64 z], .int .i64 i] w fun e w' => e = .returned (.tuple #[.agg #[.int .i64 (i / z / y), .int .i64 (i / z % y), .int .i64 (i % z)], .bool true]) ∧ Below w.heap.size w w' := by
  obtain ⟨x0, x1, y0, y1, z0, z1, _⟩ := goodB_out hg
  have hs : sizeS x y z = x * y * z := by unfold sizeS; rw [if_pos hg]
  go_enter Try.func22, Try.ntmps22
  go_wp2_with fail
  refine (size_any x y z _).mono ?_
  rw [hs]
  rintro e w1 ⟨rfl, rfl⟩
  have hpx0 : 0 ≤ i / z := Int.ediv_nonneg h0 (by omega)
  have hpx1 : i / z ≤ 16384 := by have := Int.ediv_le_self z h0; omega
  go_wp2_with (go_at_call 47; refine (below_yes _ _ _ h0 h1).mono ?_; rintro e w' ⟨rfl, rfl⟩)
  go_region
  go_wp2
  go_returns
  exact ⟨rfl, (((((Below.refl _ _).alloc (Nat.le_refl _) _).alloc (by simp) _).alloc (by simp; omega) _).alloc (by simp; omega) _).drew⟩

set_option maxHeartbeats 400000 in
theorem of_no (x y z i : Int) (w : World) (h : ¬ (0 ≤ i ∧ i < sizeS x y z)) :
    Calls Try.prog 22 #[.agg #[.int .i64 x, .int .i64 y, .int .i64 z], .int .i64 i] w fun e w' => e = .returned (.tuple #[.agg #[.int .i64 0, .int .i64 0, .int .i64 0], .bool false]) ∧ Below w.heap.size w w' := by
  have HN := Lib.hid h
  clear h
  go_enter Try.func22, Try.ntmps22
  go_wp2_with fail
  refine (size_any x y z _).mono ?_
  rintro e w1 ⟨rfl, rfl⟩
  go_wp2_with (go_at_call 47; refine (below_no _ _ _ HN.out).mono ?_; rintro e w' ⟨rfl, rfl⟩)
  go_returns
  exact ⟨rfl, by go_grown⟩

theorem good_add {x y z c : Int} (h : goodB x y z = true) (g : goodB x y c = true) : 2 ≤ z + c ∧ z + c ≤ 128 := by
  have := goodB_out h
  have := goodB_out g
  omega

set_option maxHeartbeats 1000000 in
theorem join_yes (x y z c : Int) (w : World) (h1 : goodB x y z = true) (h2 : goodB x y c = true) (h3 : goodB x y (z + c) = true) :
    Calls Try.prog 23 #[.agg #[.int .i64 x, .int .i64 y, .int .i64 z], .agg #[.int .i64 x, .int .i64 y, .int .i64 c]] w fun e w' => e = .returned (.tuple #[.agg #[.int .i64 x, .int .i64 y, .int .i64 (z + c)], .bool true]) ∧ Below w.heap.size w w' := by
  obtain ⟨s0, s1⟩ := good_add h1 h2
  go_enter Try.func23, Try.ntmps23
  go_wp2_with (go_at_call 15; refine (good_any _ _ _ _).mono ?_; rintro e w' ⟨rfl, rfl⟩)
  go_returns
  exact ⟨rfl, by go_grown⟩

set_option maxHeartbeats 1000000 in
theorem join_no (x y z a b c : Int) (w : World) (h : ¬ (goodB x y z = true ∧ goodB a b c = true ∧ x = a ∧ y = b ∧ goodB x y (z + c) = true)) :
    Calls Try.prog 23 #[.agg #[.int .i64 x, .int .i64 y, .int .i64 z], .agg #[.int .i64 a, .int .i64 b, .int .i64 c]] w fun e w' => e = .returned (.tuple #[.agg #[.int .i64 0, .int .i64 0, .int .i64 0], .bool false]) ∧ Below w.heap.size w w' := by
  by_cases h1 : goodB x y z = true
  · by_cases h2 : goodB a b c = true
    · by_cases h3 : x = a
      · subst h3
        by_cases h4 : y = b
        · subst h4
          have h5 : goodB x y (z + c) = false := by
            cases g : goodB x y (z + c)
            · rfl
            · exact absurd ⟨h1, h2, rfl, rfl, g⟩ h
          obtain ⟨s0, s1⟩ := good_add h1 h2
          clear h
          go_enter Try.func23, Try.ntmps23
          go_wp2_with (go_at_call 15; refine (good_any _ _ _ _).mono ?_; rintro e w' ⟨rfl, rfl⟩)
          go_returns
          exact ⟨rfl, by go_grown⟩
        · have h4 : (y != b) = true := by simpa using h4
          clear h
          go_enter Try.func23, Try.ntmps23
          go_wp2_with (go_at_call 15; refine (good_any _ _ _ _).mono ?_; rintro e w' ⟨rfl, rfl⟩)
          go_returns
          exact ⟨rfl, by go_grown⟩
      · have h3 : (x != a) = true := by simpa using h3
        clear h
        go_enter Try.func23, Try.ntmps23
        go_wp2_with (go_at_call 15; refine (good_any _ _ _ _).mono ?_; rintro e w' ⟨rfl, rfl⟩)
        go_returns
        exact ⟨rfl, by go_grown⟩
    · have h2 : goodB a b c = false := by simpa using h2
      clear h
      go_enter Try.func23, Try.ntmps23
      go_wp2_with (go_at_call 15; refine (good_any _ _ _ _).mono ?_; rintro e w' ⟨rfl, rfl⟩)
      go_returns
      exact ⟨rfl, by go_grown⟩
  · have h1 : goodB x y z = false := by simpa using h1
    clear h
    go_enter Try.func23, Try.ntmps23
    go_wp2_with (go_at_call 15; refine (good_any _ _ _ _).mono ?_; rintro e w' ⟨rfl, rfl⟩)
    go_returns
    exact ⟨rfl, by go_grown⟩
end Go.Proofs.Ytedfekgacmfjkaa
