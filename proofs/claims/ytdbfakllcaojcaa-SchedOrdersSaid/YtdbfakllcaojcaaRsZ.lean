/- Arrays of noughts compared. -/
import Derived.Test.YtdbfakllcaojcaaRsH
import Derived.Test.YtdbfakllcaojcaaNdEq
namespace Go.Proofs.Ytdbfakllcaojcaa
open Go Go.RowKit
set_option linter.unusedVariables false

theorem eqz2 (x y : Int) : ∀ W, (Op.equalIn 10000 54 (.agg #[.int .i64 x, .int .i64 y]) (.agg #[.int .i64 0, .int .i64 0])).run Try.prog W = .ok (x == 0 && y == 0) W := fun W => eqB2 Try.underlying54 Try.underlying3 infoI cellsI 9998 _ _ _ _ W
theorem eqz4 (a b c d : Int) : ∀ W, (Op.equalIn 10000 55 (.agg #[.int .i64 a, .int .i64 b, .int .i64 c, .int .i64 d]) (.agg #[.int .i64 0, .int .i64 0, .int .i64 0, .int .i64 0])).run Try.prog W = .ok (a == 0 && (b == 0 && (c == 0 && d == 0))) W := fun W => eqB4 Try.underlying55 Try.underlying3 infoI cellsI 9998 _ _ _ _ _ _ _ _ W
theorem eqz3 (a b c : Int) : ∀ W, (Op.equalIn 10000 22 (.agg #[.int .i64 a, .int .i64 b, .int .i64 c]) (.agg #[.int .i64 0, .int .i64 0, .int .i64 0])).run Try.prog W = .ok (a == 0 && (b == 0 && c == 0)) W := fun W => eqB3 Try.underlying22 Try.underlying3 infoI cellsI 9998 _ _ _ _ _ _ W
end Go.Proofs.Ytdbfakllcaojcaa
