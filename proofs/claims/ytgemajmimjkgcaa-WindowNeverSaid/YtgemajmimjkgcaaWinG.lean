/- Contracts of the document's Good and Out of windows. -/
import Derived.Test.YtgemajmimjkgcaaWinG1
import Derived.Test.YtgemajmimjkgcaaWinG2
import Derived.Test.YtgemajmimjkgcaaWinG3
import Derived.Test.YtgemajmimjkgcaaWinG4
namespace Go.Proofs.Ytgemajmimjkgcaa
open Go Go.RowKit
set_option linter.unusedVariables false


theorem good_any (n0 n1 k0 k1 s0 s1 p0 p1 q0 q1 : Int) (w : World) :
    Calls Try.prog 16 #[.agg #[.int .i64 n0, .int .i64 n1], .agg #[.int .i64 k0, .int .i64 k1], .agg #[.int .i64 s0, .int .i64 s1], .agg #[.int .i64 p0, .int .i64 p1, .int .i64 q0, .int .i64 q1]] w fun e w' => e = .returned (.bool (gdW n0 k0 s0 p0 q0 && gdW n1 k1 s1 p1 q1)) ∧ Below w.heap.size w w' := by
  by_cases h0_0 : 1 ≤ n0
  case neg => exact good_a0 n0 n1 k0 k1 s0 s1 p0 p1 q0 q1 w  (by omega)
  by_cases h0_1 : n0 ≤ 64
  case neg => exact good_a1 n0 n1 k0 k1 s0 s1 p0 p1 q0 q1 w h0_0 (by omega)
  by_cases h0_2 : 1 ≤ k0
  case neg => exact good_a2 n0 n1 k0 k1 s0 s1 p0 p1 q0 q1 w h0_0 h0_1 (by omega)
  by_cases h0_3 : k0 ≤ 8
  case neg => exact good_a3 n0 n1 k0 k1 s0 s1 p0 p1 q0 q1 w h0_0 h0_1 h0_2 (by omega)
  by_cases h0_4 : 1 ≤ s0
  case neg => exact good_a4 n0 n1 k0 k1 s0 s1 p0 p1 q0 q1 w h0_0 h0_1 h0_2 h0_3 (by omega)
  by_cases h0_5 : s0 ≤ 8
  case neg => exact good_a5 n0 n1 k0 k1 s0 s1 p0 p1 q0 q1 w h0_0 h0_1 h0_2 h0_3 h0_4 (by omega)
  by_cases h0_6 : 0 ≤ p0
  case neg => exact good_a6 n0 n1 k0 k1 s0 s1 p0 p1 q0 q1 w h0_0 h0_1 h0_2 h0_3 h0_4 h0_5 (by omega)
  by_cases h0_7 : p0 < k0
  case neg => exact good_a7 n0 n1 k0 k1 s0 s1 p0 p1 q0 q1 w h0_0 h0_1 h0_2 h0_3 h0_4 h0_5 h0_6 (by omega)
  by_cases h0_8 : 0 ≤ q0
  case neg => exact good_a8 n0 n1 k0 k1 s0 s1 p0 p1 q0 q1 w h0_0 h0_1 h0_2 h0_3 h0_4 h0_5 h0_6 h0_7 (by omega)
  by_cases h0_9 : q0 < k0
  case neg => exact good_a9 n0 n1 k0 k1 s0 s1 p0 p1 q0 q1 w h0_0 h0_1 h0_2 h0_3 h0_4 h0_5 h0_6 h0_7 h0_8 (by omega)
  by_cases h0_10 : k0 ≤ n0 + p0 + q0
  case neg => exact good_a10 n0 n1 k0 k1 s0 s1 p0 p1 q0 q1 w h0_0 h0_1 h0_2 h0_3 h0_4 h0_5 h0_6 h0_7 h0_8 h0_9 (by omega)
  by_cases h1_0 : 1 ≤ n1
  case neg => exact good_b0 n0 n1 k0 k1 s0 s1 p0 p1 q0 q1 w h0_0 h0_1 h0_2 h0_3 h0_4 h0_5 h0_6 h0_7 h0_8 h0_9 h0_10 (by omega)
  by_cases h1_1 : n1 ≤ 64
  case neg => exact good_b1 n0 n1 k0 k1 s0 s1 p0 p1 q0 q1 w h0_0 h0_1 h0_2 h0_3 h0_4 h0_5 h0_6 h0_7 h0_8 h0_9 h0_10 h1_0 (by omega)
  by_cases h1_2 : 1 ≤ k1
  case neg => exact good_b2 n0 n1 k0 k1 s0 s1 p0 p1 q0 q1 w h0_0 h0_1 h0_2 h0_3 h0_4 h0_5 h0_6 h0_7 h0_8 h0_9 h0_10 h1_0 h1_1 (by omega)
  by_cases h1_3 : k1 ≤ 8
  case neg => exact good_b3 n0 n1 k0 k1 s0 s1 p0 p1 q0 q1 w h0_0 h0_1 h0_2 h0_3 h0_4 h0_5 h0_6 h0_7 h0_8 h0_9 h0_10 h1_0 h1_1 h1_2 (by omega)
  by_cases h1_4 : 1 ≤ s1
  case neg => exact good_b4 n0 n1 k0 k1 s0 s1 p0 p1 q0 q1 w h0_0 h0_1 h0_2 h0_3 h0_4 h0_5 h0_6 h0_7 h0_8 h0_9 h0_10 h1_0 h1_1 h1_2 h1_3 (by omega)
  by_cases h1_5 : s1 ≤ 8
  case neg => exact good_b5 n0 n1 k0 k1 s0 s1 p0 p1 q0 q1 w h0_0 h0_1 h0_2 h0_3 h0_4 h0_5 h0_6 h0_7 h0_8 h0_9 h0_10 h1_0 h1_1 h1_2 h1_3 h1_4 (by omega)
  by_cases h1_6 : 0 ≤ p1
  case neg => exact good_b6 n0 n1 k0 k1 s0 s1 p0 p1 q0 q1 w h0_0 h0_1 h0_2 h0_3 h0_4 h0_5 h0_6 h0_7 h0_8 h0_9 h0_10 h1_0 h1_1 h1_2 h1_3 h1_4 h1_5 (by omega)
  by_cases h1_7 : p1 < k1
  case neg => exact good_b7 n0 n1 k0 k1 s0 s1 p0 p1 q0 q1 w h0_0 h0_1 h0_2 h0_3 h0_4 h0_5 h0_6 h0_7 h0_8 h0_9 h0_10 h1_0 h1_1 h1_2 h1_3 h1_4 h1_5 h1_6 (by omega)
  by_cases h1_8 : 0 ≤ q1
  case neg => exact good_b8 n0 n1 k0 k1 s0 s1 p0 p1 q0 q1 w h0_0 h0_1 h0_2 h0_3 h0_4 h0_5 h0_6 h0_7 h0_8 h0_9 h0_10 h1_0 h1_1 h1_2 h1_3 h1_4 h1_5 h1_6 h1_7 (by omega)
  by_cases h1_9 : q1 < k1
  case neg => exact good_b9 n0 n1 k0 k1 s0 s1 p0 p1 q0 q1 w h0_0 h0_1 h0_2 h0_3 h0_4 h0_5 h0_6 h0_7 h0_8 h0_9 h0_10 h1_0 h1_1 h1_2 h1_3 h1_4 h1_5 h1_6 h1_7 h1_8 (by omega)
  by_cases h1_10 : k1 ≤ n1 + p1 + q1
  case neg => exact good_b10 n0 n1 k0 k1 s0 s1 p0 p1 q0 q1 w h0_0 h0_1 h0_2 h0_3 h0_4 h0_5 h0_6 h0_7 h0_8 h0_9 h0_10 h1_0 h1_1 h1_2 h1_3 h1_4 h1_5 h1_6 h1_7 h1_8 h1_9 (by omega)
  exact good_y n0 n1 k0 k1 s0 s1 p0 p1 q0 q1 w h0_0 h0_1 h0_2 h0_3 h0_4 h0_5 h0_6 h0_7 h0_8 h0_9 h0_10 h1_0 h1_1 h1_2 h1_3 h1_4 h1_5 h1_6 h1_7 h1_8 h1_9 h1_10
end Go.Proofs.Ytgemajmimjkgcaa
