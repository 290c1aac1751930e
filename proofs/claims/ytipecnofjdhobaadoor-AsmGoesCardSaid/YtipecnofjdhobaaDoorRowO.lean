/- Rows of blocks that a change leaves alone. -/
import Derived.Test.YtipecnofjdhobaaDoorRfO
import Derived.Test.YtipecnofjdhobaaDoorRowW
namespace Go.Proofs.YtipecnofjdhobaaDoor
open Go Go.RowKit
set_option linter.unusedVariables false

theorem heap_at_outN {S : Nat → Prop} {W W' : World} (h : Out S W W') {k : Nat} {o : Obj} (hk : W.heap[k]? = some o) (hs : ¬ S k) : W'.heap[k]? = some o :=
  (h.block k (Array.getElem?_eq_some_iff.1 hk).1 hs).trans hk
theorem RowAt.outN {S : Nat → Prop} {W W' : World} {b : Nat} {l : List Value} (h : RowAt W b l) (k : Out S W W') (hs : ¬ S b) : RowAt W' b l :=
  ⟨Nat.lt_of_lt_of_le h.lt k.size, fun j => (World.frozen?_of_block (k.block b h.lt hs)).trans (h.fr j), fun j u hu => (World.cell?_of_block (k.block b h.lt hs)).trans (h.cell j u hu)⟩
end Go.Proofs.YtipecnofjdhobaaDoor
