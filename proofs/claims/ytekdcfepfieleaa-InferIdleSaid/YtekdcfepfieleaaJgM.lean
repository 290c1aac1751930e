/- Package infer: what makes answers. -/
import Derived.Test.YtekdcfepfieleaaJgN
namespace Go.Proofs.Ytekdcfepfieleaa
open Go Go.RowKit
/-- what is wrong with the shape that comes out -/
def mkF (j : Jg) (o : Sh) : Int := if o.fit ≠ 0 then o.fit else if j.n.op = 4 ∧ 4096 < sizeG j.a then 12 else 0
theorem JAt.over {w w' : World} {J : Nat} {j : Jg} (h : JAt w J j) (hb : Below w.heap.size w w') : JAt w' J j := RowAt.over h hb
theorem JAt.drew {w : World} {J : Nat} {j : Jg} (h : JAt w J j) : JAt w.drew J j := RowAt.drew h
theorem grown_drew {w w1 : World} {r : Option Nat} (h : w.grownBy w1 r) : w.grownBy w1.drew r := ⟨h.os, h.tape, h.output, h.size, h.block⟩
end Go.Proofs.Ytekdcfepfieleaa
