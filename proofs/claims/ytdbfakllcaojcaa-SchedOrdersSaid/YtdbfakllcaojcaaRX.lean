/- The document's idle. -/
import Derived.Test.YtdbfakllcaojcaaRsIa
import Derived.Test.YtdbfakllcaojcaaRsIb
import Derived.Test.YtdbfakllcaojcaaRsIc
import Derived.Test.YtdbfakllcaojcaaRsId
import Derived.Test.YtdbfakllcaojcaaRsOa
import Derived.Test.YtdbfakllcaojcaaRsOb
import Derived.Test.YtdbfakllcaojcaaRsOc
import Derived.Test.YtdbfakllcaojcaaRsOd
import Derived.Test.YtdbfakllcaojcaaRsOe
namespace Go.Proofs.Ytdbfakllcaojcaa
open Go Go.RowKit
set_option linter.unusedVariables false
set_option linter.unusedSimpArgs false
set_option maxRecDepth 100000

theorem ridle (n : Nd) (h1 : 1 ≤ n.op) (h2 : n.op ≤ 14) (w : World) : Calls Try.prog 32 #[.agg n.cells.toArray] w fun e w' => e = .returned (.bool (idleN n)) ∧ Below w.heap.size w w' := by
  have h : n.op = 1 ∨ n.op = 2 ∨ n.op = 3 ∨ n.op = 4 ∨ n.op = 5 ∨ n.op = 6 ∨ n.op = 7 ∨ n.op = 8 ∨ n.op = 9 ∨ n.op = 10 ∨ n.op = 11 ∨ n.op = 12 ∨ n.op = 13 ∨ n.op = 14 := by omega
  rcases h with h | h | h | h | h | h | h | h | h | h | h | h | h | h
  · exact ridle_1 n h w
  · exact ridle_2 n h w
  · exact ridle_3 n h w
  · exact ridle_4 n h w
  · exact ridle_5 n h w
  · exact ridle_6 n h w
  · exact ridle_7 n h w
  · exact ridle_8 n h w
  · exact ridle_9 n h w
  · exact ridle_10 n h w
  · exact ridle_11 n h w
  · exact ridle_12 n h w
  · exact ridle_13 n h w
  · exact ridle_14 n h w
end Go.Proofs.Ytdbfakllcaojcaa

namespace Go.Proofs.Ytdbfakllcaojcaa
open Go Go.RowKit
set_option linter.unusedVariables false

theorem rout (n : Nd) (a b : Sh) (h1 : 1 ≤ n.op) (h2 : n.op ≤ 14) (ha : a.good = true) (hb : b.good = true) (w : World) : Calls Try.prog 33 #[.agg n.cells.toArray, .agg #[.int .i64 a.x, .int .i64 a.y, .int .i64 a.z], .agg #[.int .i64 b.x, .int .i64 b.y, .int .i64 b.z]] w (RoPost n a b w) := by
  have h : n.op = 1 ∨ n.op = 2 ∨ n.op = 3 ∨ n.op = 4 ∨ n.op = 5 ∨ n.op = 6 ∨ n.op = 7 ∨ n.op = 8 ∨ n.op = 9 ∨ n.op = 10 ∨ n.op = 11 ∨ n.op = 12 ∨ n.op = 13 ∨ n.op = 14 := by omega
  rcases h with h | h | h | h | h | h | h | h | h | h | h | h | h | h
  · exact rout_op1 n a b h ha hb w
  · exact rout_op2 n a b h ha hb w
  · exact rout_op3 n a b h ha hb w
  · exact rout_op4 n a b h ha hb w
  · exact rout_op5 n a b h ha hb w
  · exact rout_op6 n a b h ha hb w
  · exact rout_op7 n a b h ha hb w
  · exact rout_op8 n a b h ha hb w
  · exact rout_op9 n a b h ha hb w
  · exact rout_op10 n a b h ha hb w
  · exact rout_op11 n a b h ha hb w
  · exact rout_op12 n a b h ha hb w
  · exact rout_op13 n a b h ha hb w
  · exact rout_op14 n a b h ha hb w
end Go.Proofs.Ytdbfakllcaojcaa
