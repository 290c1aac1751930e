/- Contract of inst.Decode. -/
import Derived.Test.YtipecnofjdhobaaDoorInstD
namespace Go.Proofs.YtipecnofjdhobaaDoor
open Go Go.RowKit Pl
set_option linter.unusedVariables false

def decI (w : Int) : Q5 := if opI w = 0 then ⟨0, 0, 0, 0, 0⟩ else recI (opI w) w
def okI (w : Int) : Bool := decide (opI w ≠ 0)
def agg5 (x : Q5) : Value := .agg #[.int .i64 x.o, .int .i64 x.d, .int .i64 x.a, .int .i64 x.b, .int .i32 x.i]
def DecP (w : Int) (W : World) (e : Ending) (W' : World) : Prop := e = .returned (.tuple #[agg5 (decI w), .bool (okI w)]) ∧ Below W.heap.size W W'
theorem dec_mk {w o d a b i : Int} {W W' : World} (h : decI w = ⟨o, d, a, b, i⟩) (g : okI w = true) (hb : Below W.heap.size W W') : DecP w W (.returned (.tuple #[.agg #[.int .i64 o, .int .i64 d, .int .i64 a, .int .i64 b, .int .i32 i], .bool true])) W' := by
  refine ⟨?_, hb⟩; rw [h, g]; rfl
theorem dec_none {w : Int} {W W' : World} (h : opI w = 0) (hb : Below W.heap.size W W') : DecP w W (.returned (.tuple #[.agg #[.int .i64 0, .int .i64 0, .int .i64 0, .int .i64 0, .int .i32 0], .bool false])) W' := by
  refine ⟨?_, hb⟩
  have h1 : decI w = ⟨0, 0, 0, 0, 0⟩ := by unfold decI; rw [if_pos h]
  have h2 : okI w = false := by unfold okI; simp [h]
  rw [h1, h2]; rfl
end Go.Proofs.YtipecnofjdhobaaDoor
