/- Arrays of noughts compared. -/
import Derived.Test.YthapoiplejbckaaGreatRsH
import Derived.Test.YthapoiplejbckaaGreatNdEq
namespace Go.Proofs.YthapoiplejbckaaGreat
open Go Go.RowKit
set_option linter.unusedVariables false

theorem eqz2 (x y : Int) : ∀ W, (Op.equalIn 10000 44 (.agg #[.int .i64 x, .int .i64 y]) (.agg #[.int .i64 0, .int .i64 0])).run Tryz.prog W = .ok (x == 0 && y == 0) W := fun W => eqB2 Tryz.underlying44 Tryz.underlying3 infoI cellsI 9998 _ _ _ _ W
theorem eqz4 (a b c d : Int) : ∀ W, (Op.equalIn 10000 45 (.agg #[.int .i64 a, .int .i64 b, .int .i64 c, .int .i64 d]) (.agg #[.int .i64 0, .int .i64 0, .int .i64 0, .int .i64 0])).run Tryz.prog W = .ok (a == 0 && (b == 0 && (c == 0 && d == 0))) W := fun W => eqB4 Tryz.underlying45 Tryz.underlying3 infoI cellsI 9998 _ _ _ _ _ _ _ _ W
theorem eqz3 (a b c : Int) : ∀ W, (Op.equalIn 10000 22 (.agg #[.int .i64 a, .int .i64 b, .int .i64 c]) (.agg #[.int .i64 0, .int .i64 0, .int .i64 0])).run Tryz.prog W = .ok (a == 0 && (b == 0 && c == 0)) W := fun W => eqB3 Tryz.underlying22 Tryz.underlying3 infoI cellsI 9998 _ _ _ _ _ _ W
end Go.Proofs.YthapoiplejbckaaGreat
