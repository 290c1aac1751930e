/- Contracts of pintleref03: what the table's lines are. -/
import Derived.Test.YtipecnofjdhobaaDoorImmBc
import Derived.Test.YtipecnofjdhobaaDoorInstQ
import Derived.WalkSpells
import Derived.WalkSmall
import Derived.BigQuiet
import Derived.Laws.StructEq
import Derived.Deep.QuietTactic
import Derived.Deep.RegionHeld3
namespace Go.Proofs.YtipecnofjdhobaaDoor
open Go Go.RowKit Pl
set_option linter.unusedVariables false

def sortV (o : Int) : Array Value := #[.int .u32 (lowI o), .int .u32 (threeI o), .int .u32 (sevenI o), .int .i64 (formI o), .bool (rD o), .bool (rA o), .bool (rB o)]
def zeroV : Array Value := #[.int .u32 0, .int .u32 0, .int .u32 0, .int .i64 0, .bool false, .bool false, .bool false]
def OfP (o : Int) (w : World) (e : Ending) (w' : World) : Prop := e = .returned (.tuple #[.agg (sortV o), .bool true]) ∧ Below w.heap.size w w'
def OfN (w : World) (e : Ending) (w' : World) : Prop := e = .returned (.tuple #[.agg zeroV, .bool false]) ∧ Below w.heap.size w w'
theorem bt {w a b : World} (h : Below w.heap.size w a) (k : Below a.heap.size a b) : Below w.heap.size w b := h.trans (k.mono h.size)

end Go.Proofs.YtipecnofjdhobaaDoor
