/- Contracts of packages tensor and pintleref21: what each call answers. -/
import Derived.Test.YtekdcfepfieleaaProg
import Derived.Test.YtekdcfepfieleaaPlainA
import Derived.WalkSpells
import Derived.WalkSmall
import Derived.Handy
import Derived.Lib.Hide
import Derived.BigQuiet
import Derived.StillTailTactics
namespace Go.Proofs.Ytekdcfepfieleaa
open Go Go.RowKit Pl
set_option linter.unusedVariables false

theorem ret_bool {a b : Bool} (h : a = b) : Ending.returned (.bool a) = .returned (.bool b) := by rw [h]
theorem ret_i64 {a b : Int} (h : a = b) : Ending.returned (.int .i64 a) = .returned (.int .i64 b) := by rw [h]

/-- three numbers as a value -/
def sh (x y z : Int) : Value := .agg #[.int .i64 x, .int .i64 y, .int .i64 z]
def goodB (x y z : Int) : Bool := decide (1 ≤ x ∧ x ≤ 64 ∧ 1 ≤ y ∧ y ≤ 64 ∧ 1 ≤ z ∧ z ≤ 64 ∧ x * y * z ≤ 16384)

theorem goodB_no {x y z : Int} (h : ¬ (1 ≤ x ∧ x ≤ 64 ∧ 1 ≤ y ∧ y ≤ 64 ∧ 1 ≤ z ∧ z ≤ 64 ∧ x * y * z ≤ 16384)) : goodB x y z = false := decide_eq_false h
theorem goodB_yes {x y z : Int} (h : 1 ≤ x ∧ x ≤ 64 ∧ 1 ≤ y ∧ y ≤ 64 ∧ 1 ≤ z ∧ z ≤ 64 ∧ x * y * z ≤ 16384) : goodB x y z = true := decide_eq_true h
theorem mul3 {x y z : Int} (hx : 1 ≤ x ∧ x ≤ 64) (hy : 1 ≤ y ∧ y ≤ 64) (hz : 1 ≤ z ∧ z ≤ 64) : 0 ≤ x * y ∧ x * y ≤ 4096 ∧ 0 ≤ x * y * z ∧ x * y * z ≤ 262144 := by
  have h1 := mul_bd (x := x) (y := y) (A := 64) (B := 64) (by omega) (by omega)
  have h2 := mul_bd (x := x * y) (y := z) (A := 4096) (B := 64) h1 (by omega)
  have h3 : 0 ≤ x * y := Int.mul_nonneg (by omega) (by omega)
  have h4 : 0 ≤ x * y * z := Int.mul_nonneg h3 (by omega)
  omega

theorem good_last {x y z : Int} (hx : 1 ≤ x ∧ x ≤ 64) (hy : 1 ≤ y ∧ y ≤ 64) (hz : 1 ≤ z ∧ z ≤ 64) : decide (wrap64 (wrap64 (x * y) * z) ≤ 16384) = goodB x y z := by
  obtain ⟨a, b, c, d⟩ := mul3 hx hy hz
  rw [wrap64_in' (n := x * y) (by omega), wrap64_in' (by omega)]
  unfold goodB
  rw [decide_eq_decide]
  exact ⟨fun h => ⟨hx.1, hx.2, hy.1, hy.2, hz.1, hz.2, h⟩, fun h => h.2.2.2.2.2.2⟩

set_option maxHeartbeats 400000 in
theorem good_any (x y z : Int) (w : World) :
    Calls Try.prog 12 #[.agg #[.int .i64 x, .int .i64 y, .int .i64 z]] w fun e w' => e = .returned (.bool (goodB x y z)) ∧ w' = w.alloc (.cells #[.int .i64 x, .int .i64 y, .int .i64 z] 22) := by
  have i0 : ∀ w, (Instr.index 22 (.agg #[.int .i64 x, .int .i64 y, .int .i64 z]) (.int .i64 0)).run Try.prog w = .ok (.int .i64 x) w := fun _ => by kernel_rfl
  have i1 : ∀ w, (Instr.index 22 (.agg #[.int .i64 x, .int .i64 y, .int .i64 z]) (.int .i64 1)).run Try.prog w = .ok (.int .i64 y) w := fun _ => by kernel_rfl
  have i2 : ∀ w, (Instr.index 22 (.agg #[.int .i64 x, .int .i64 y, .int .i64 z]) (.int .i64 2)).run Try.prog w = .ok (.int .i64 z) w := fun _ => by kernel_rfl
  go_enter Try.func12, Try.ntmps12
  go_wp2
  go_rounds 4
  all_goals go_ret
  all_goals first | exact ⟨ret_bool (goodB_no (by omega)).symm, rfl⟩ | exact ⟨ret_bool (good_last ⟨by omega, by omega⟩ ⟨by omega, by omega⟩ ⟨by omega, by omega⟩), rfl⟩

set_option maxHeartbeats 400000 in
theorem ref_good (x y z : Int) (w : World) :
    Calls Try.prog 8 #[.agg #[.int .i64 x, .int .i64 y, .int .i64 z]] w fun e w' => e = .returned (.bool (goodB x y z)) ∧ w' = w.alloc (.cells #[.int .i64 x, .int .i64 y, .int .i64 z] 22) := by
  have i0 : ∀ w, (Instr.index 22 (.agg #[.int .i64 x, .int .i64 y, .int .i64 z]) (.int .i64 0)).run Try.prog w = .ok (.int .i64 x) w := fun _ => by kernel_rfl
  have i1 : ∀ w, (Instr.index 22 (.agg #[.int .i64 x, .int .i64 y, .int .i64 z]) (.int .i64 1)).run Try.prog w = .ok (.int .i64 y) w := fun _ => by kernel_rfl
  have i2 : ∀ w, (Instr.index 22 (.agg #[.int .i64 x, .int .i64 y, .int .i64 z]) (.int .i64 2)).run Try.prog w = .ok (.int .i64 z) w := fun _ => by kernel_rfl
  go_enter Try.func8, Try.ntmps8
  go_wp2
  go_rounds 4
  all_goals go_ret
  all_goals first | exact ⟨ret_bool (goodB_no (by omega)).symm, rfl⟩ | exact ⟨ret_bool (good_last ⟨by omega, by omega⟩ ⟨by omega, by omega⟩ ⟨by omega, by omega⟩), rfl⟩

def sizeS (x y z : Int) : Int := if goodB x y z then x * y * z else 0
theorem goodB_out {x y z : Int} (h : goodB x y z = true) : 1 ≤ x ∧ x ≤ 64 ∧ 1 ≤ y ∧ y ≤ 64 ∧ 1 ≤ z ∧ z ≤ 64 ∧ x * y * z ≤ 16384 := of_decide_eq_true h

set_option maxHeartbeats 400000 in
theorem size_any (x y z : Int) (w : World) :
    Calls Try.prog 41 #[.agg #[.int .i64 x, .int .i64 y, .int .i64 z]] w fun e w' => e = .returned (.int .i64 (sizeS x y z)) ∧ w' = (w.alloc (.cells #[.int .i64 x, .int .i64 y, .int .i64 z] 22)).alloc (.cells #[.int .i64 x, .int .i64 y, .int .i64 z] 22) := by
  by_cases hg : goodB x y z = true
  · obtain ⟨x0, x1, y0, y1, z0, z1, _⟩ := goodB_out hg
    obtain ⟨m0, m1, m2, m3⟩ := mul3 ⟨x0, x1⟩ ⟨y0, y1⟩ ⟨z0, z1⟩
    have hs : sizeS x y z = x * y * z := by unfold sizeS; rw [if_pos hg]
    rw [hs]
    clear hs
    go_enter Try.func41, Try.ntmps41
    go_wp2_with (go_at_call 12; refine (good_any x y z _).mono ?_; rintro e w' ⟨rfl, rfl⟩)
    go_ret
    exact ⟨rfl, rfl⟩
  · have hg : goodB x y z = false := by simpa using hg
    have hs : sizeS x y z = 0 := by unfold sizeS; rw [hg]; rfl
    rw [hs]
    clear hs
    go_enter Try.func41, Try.ntmps41
    go_wp2_with (go_at_call 12; refine (good_any x y z _).mono ?_; rintro e w' ⟨rfl, rfl⟩)
    go_ret
    exact ⟨rfl, rfl⟩

/-- an element of a shape -/
def inS (x y z a b c : Int) : Prop := 0 ≤ a ∧ a < x ∧ 0 ≤ b ∧ b < y ∧ 0 ≤ c ∧ c < z
theorem prods {x y z a b c : Int} (hx : 1 ≤ x ∧ x ≤ 64) (hy : 1 ≤ y ∧ y ≤ 64) (hz : 1 ≤ z ∧ z ≤ 64) (h : inS x y z a b c) :
    0 ≤ a * y ∧ a * y ≤ 4096 ∧ 0 ≤ b * z ∧ b * z ≤ 4096 ∧ 0 ≤ a * y * z ∧ a * y * z ≤ 262144 ∧ 0 ≤ (a * y + b) * z ∧ (a * y + b) * z ≤ 266240 ∧ a * y * z + b * z = (a * y + b) * z := by
  obtain ⟨a0, a1, b0, b1, c0, c1⟩ := h
  have h1 := mul_bd (x := a) (y := y) (A := 64) (B := 64) (by omega) (by omega)
  have h2 := mul_bd (x := b) (y := z) (A := 64) (B := 64) (by omega) (by omega)
  have h3 := mul_bd (x := a * y) (y := z) (A := 4096) (B := 64) h1 (by omega)
  have p1 : 0 ≤ a * y := Int.mul_nonneg a0 (by omega)
  have p2 : 0 ≤ b * z := Int.mul_nonneg b0 (by omega)
  have p3 : 0 ≤ a * y * z := Int.mul_nonneg p1 (by omega)
  have e : (a * y + b) * z = a * y * z + b * z := Int.add_mul _ _ _
  omega

end Go.Proofs.Ytekdcfepfieleaa
