/- LoadNone, the walk, all ways together. -/
import Derived.Test.YtohndfcbebeemaaDoorNone5
import Derived.Test.YtohndfcbebeemaaDoorNone6
import Derived.Test.YtohndfcbebeemaaDoorNone7
import Derived.Test.YtohndfcbebeemaaDoorNone8
import Derived.Test.YtohndfcbebeemaaDoorNone9
namespace Go.Proofs.YtohndfcbebeemaaDoor
open Go Go.RowKit
set_option linter.unusedVariables false
theorem none_any (m0 m1 m2 m3 m4 m5 m6 m7 m8 m9 m10 m11 m12 m13 m14 m15 m16 : Value) (x : Value) (a : Nat) (ha : a < 4294967296) (w : World) (ht : T3 w) :
    Calls Tryd.prog 5 #[.agg #[m0, m1, m2, m3, m4, m5, m6, m7, m8, m9, m10, m11, m12, m13, m14, m15, m16], x, .int .u32 (a : Nat)] w fun e w' => e = .returned (.bool true) ∧ Below w.heap.size w w' := by
  rcases lies_cases a with ⟨e, h1, h2⟩ | ⟨e, h1, h2⟩ | ⟨e, h1⟩ | ⟨e, h1, h2⟩ | ⟨e, h1⟩
  · exact none_0 m0 m1 m2 m3 m4 m5 m6 m7 m8 m9 m10 m11 m12 m13 m14 m15 m16 x a ha e (decide_eq_true (by omega)) (decide_eq_true (by omega)) (decide_eq_false (by omega)) (decide_eq_true (by omega)) w ht
  · exact none_1 m0 m1 m2 m3 m4 m5 m6 m7 m8 m9 m10 m11 m12 m13 m14 m15 m16 x a ha e (decide_eq_true (by omega)) (decide_eq_false (by omega)) (decide_eq_true (by omega)) (decide_eq_true (by omega)) w ht
  · exact none_2 m0 m1 m2 m3 m4 m5 m6 m7 m8 m9 m10 m11 m12 m13 m14 m15 m16 x a ha e (decide_eq_false (by omega)) (decide_eq_true (by omega)) (decide_eq_false (by omega)) (decide_eq_true (by omega)) w ht
  · exact none_3 m0 m1 m2 m3 m4 m5 m6 m7 m8 m9 m10 m11 m12 m13 m14 m15 m16 x a ha e (decide_eq_true (by omega)) (decide_eq_false (by omega)) (decide_eq_false (by omega)) (decide_eq_true (by omega)) w ht
  · exact none_4 m0 m1 m2 m3 m4 m5 m6 m7 m8 m9 m10 m11 m12 m13 m14 m15 m16 x a ha e (decide_eq_true (by omega)) (decide_eq_false (by omega)) (decide_eq_true (by omega)) (decide_eq_false (by omega)) w ht
end Go.Proofs.YtohndfcbebeemaaDoor
