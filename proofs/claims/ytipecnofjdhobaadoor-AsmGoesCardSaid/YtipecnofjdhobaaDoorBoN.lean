/- Rows of booleans. -/
import Derived.Test.YtipecnofjdhobaaDoorGrI
import Derived.Test.YtipecnofjdhobaaDoorRowW
import Derived.Laws.OwnMore
import Derived.Deep.OwnRows
namespace Go.Proofs.YtipecnofjdhobaaDoor
open Go Go.RowKit
set_option linter.unusedVariables false

def boolsN (L : List Bool) : List Value := L.map fun b => .bool b
theorem boolsN_at {L : List Bool} {i : Nat} (h : i < L.length) : (boolsN L)[i]? = some (.bool (L.getD i false)) := by simp [boolsN, List.getD, h]
theorem boolsN_set {w : World} {B i : Nat} {L : List Bool} {b : Bool} (h : RowAt w B (boolsN L)) (hi : i < L.length) : RowAt (w.setCell ⟨B, i, none⟩ (.bool b)) B (boolsN (L.set i b)) :=
  h.set i _ (by simpa [boolsN] using hi) (by simp [boolsN, List.map_set])
theorem info_boolN : (Tryd.prog.info? 4).map (fun i => (i.zero, i.size, i.bytes)) = some (some (.bool false), 1, 1) := by kernel_rfl
theorem made_boolsN (n : Nat) : madeCells #[Value.bool false] n = (boolsN (List.replicate n false)).toArray := by
  apply Array.ext'
  apply List.ext_getElem
  · simp [madeCells, boolsN]
  · intro i h1 h2
    simp [madeCells, boolsN, Nat.mod_one]
theorem made_rowN (w : World) (n : Nat) : RowAt (w.alloc (.cells (madeCells #[Value.bool false] n) 4)) w.heap.size (boolsN (List.replicate n false)) := by
  rw [made_boolsN]; exact RowAt.new w _ _
end Go.Proofs.YtipecnofjdhobaaDoor
