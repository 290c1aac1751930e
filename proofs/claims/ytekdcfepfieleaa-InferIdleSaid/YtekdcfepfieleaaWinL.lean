/- Contracts for windows: Out at any arrays, and the law's own 'lives'. -/
import Derived.Test.YtekdcfepfieleaaWinO
import Derived.BigRegion
namespace Go.Proofs.Ytekdcfepfieleaa
open Go Go.RowKit
set_option linter.unusedVariables false

theorem out_any (n0 n1 k0 k1 s0 s1 p0 p1 q0 q1 : Int) (w : World) :
    Calls Try.prog 39 #[.agg #[.int .i64 n0, .int .i64 n1], .agg #[.int .i64 k0, .int .i64 k1], .agg #[.int .i64 s0, .int .i64 s1], .agg #[.int .i64 p0, .int .i64 p1, .int .i64 q0, .int .i64 q1]] w (OutP (gdW n0 k0 s0 p0 q0 && gdW n1 k1 s1 p1 q1) (odW n0 k0 s0 p0 q0) (odW n1 k1 s1 p1 q1) w) := by
  cases h0n : inB n0 1 64
  · exact out_a0 n0 n1 k0 k1 s0 s1 p0 p1 q0 q1 w  h0n
  cases h0k : inB k0 1 8
  · exact out_a1 n0 n1 k0 k1 s0 s1 p0 p1 q0 q1 w h0n h0k
  cases h0s : inB s0 1 8
  · exact out_a2 n0 n1 k0 k1 s0 s1 p0 p1 q0 q1 w h0n h0k h0s
  cases h0p : padB p0 k0
  · exact out_a3 n0 n1 k0 k1 s0 s1 p0 p1 q0 q1 w h0n h0k h0s h0p
  cases h0q : padB q0 k0
  · exact out_a4 n0 n1 k0 k1 s0 s1 p0 p1 q0 q1 w h0n h0k h0s h0p h0q
  by_cases h0r : 0 ≤ n0 + p0 + q0 - k0
  case neg => exact out_a5 n0 n1 k0 k1 s0 s1 p0 p1 q0 q1 w h0n h0k h0s h0p h0q (by omega)
  cases h1n : inB n1 1 64
  · exact out_b0 n0 n1 k0 k1 s0 s1 p0 p1 q0 q1 w h0n h0k h0s h0p h0q h0r h1n
  cases h1k : inB k1 1 8
  · exact out_b1 n0 n1 k0 k1 s0 s1 p0 p1 q0 q1 w h0n h0k h0s h0p h0q h0r h1n h1k
  cases h1s : inB s1 1 8
  · exact out_b2 n0 n1 k0 k1 s0 s1 p0 p1 q0 q1 w h0n h0k h0s h0p h0q h0r h1n h1k h1s
  cases h1p : padB p1 k1
  · exact out_b3 n0 n1 k0 k1 s0 s1 p0 p1 q0 q1 w h0n h0k h0s h0p h0q h0r h1n h1k h1s h1p
  cases h1q : padB q1 k1
  · exact out_b4 n0 n1 k0 k1 s0 s1 p0 p1 q0 q1 w h0n h0k h0s h0p h0q h0r h1n h1k h1s h1p h1q
  by_cases h1r : 0 ≤ n1 + p1 + q1 - k1
  case neg => exact out_b5 n0 n1 k0 k1 s0 s1 p0 p1 q0 q1 w h0n h0k h0s h0p h0q h0r h1n h1k h1s h1p h1q (by omega)
  exact out_y n0 n1 k0 k1 s0 s1 p0 p1 q0 q1 w h0n h0k h0s h0p h0q h0r h1n h1k h1s h1p h1q h1r
theorem out_live (w : World) : Calls Try.prog 39 #[.agg #[.int .i64 5, .int .i64 5], .agg #[.int .i64 3, .int .i64 3], .agg #[.int .i64 1, .int .i64 1], .agg #[.int .i64 1, .int .i64 1, .int .i64 1, .int .i64 1]] w fun e w' => e = .returned (.tuple #[.agg #[.int .i64 5, .int .i64 5], .bool true]) ∧ Below w.heap.size w w' := by
  have h := out_any 5 5 3 3 1 1 1 1 1 1 w
  unfold OutP at h
  rw [show (gdW 5 3 1 1 1 && gdW 5 3 1 1 1) = true by decide, show odW 5 3 1 1 1 = 5 by decide] at h
  exact h
end Go.Proofs.Ytekdcfepfieleaa
