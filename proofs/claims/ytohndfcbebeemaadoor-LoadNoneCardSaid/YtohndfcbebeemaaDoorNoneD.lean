/- LoadNone, the walk. -/
import Derived.Test.YtohndfcbebeemaaDoorNoneC
namespace Go.Proofs.YtohndfcbebeemaaDoor
open Go Go.RowKit
set_option linter.unusedVariables false
theorem box17 (w : World) (cs : Array Value) (t : TypeId) (j : Nat) (v : Value) (h : cs[j]? = some v) : (w.alloc (.cells cs t)).cell? ⟨w.heap.size, j, none⟩ = some v := by
  rw [World.cell?_alloc_new]; exact h

theorem btD {w a b : World} (h : Below w.heap.size w a) (k : Below a.heap.size a b) : Below w.heap.size w b := h.trans (k.mono h.size)
structure Box (B : Nat) (cs : Array Value) (W : World) : Prop where
  lt : B < W.heap.size
  cell : ∀ j v, cs[j]? = some v → W.cell? ⟨B, j, none⟩ = some v
theorem Box.later {B : Nat} {cs : Array Value} {W W' : World} (h : Box B cs W) (hb : Below W.heap.size W W') : Box B cs W' :=
  ⟨Nat.lt_of_lt_of_le h.lt hb.size, fun j v hj => (hb.cell (p := ⟨B, j, none⟩) h.lt).trans (h.cell j v hj)⟩
theorem Has.of {B : Nat} {w W W' : World} {C M F R S : Nat} (h : Loaded w W C M F R) (hw : Below B w W') (hb : Below W.heap.size W W') (hB : B ≤ w.heap.size)
    (hs : ∀ j v, ([.int .u8 1, .int .u8 2, .int .u8 3, .int .u8 4] : List Value)[j]? = some v → W'.cell? ((⟨S, 0, none⟩ : Addr).add j) = some v) : Has B w W' C M F R S :=
  { c := keep hb h.c, m0 := keep hb h.m0, m2 := keep hb h.m2, m4 := keep hb h.m4, m5 := keep hb h.m5
    f := by obtain ⟨cs, h1, h2⟩ := h.f; exact ⟨cs, (hb.block _ (Array.getElem?_eq_some_iff.1 h1).1).trans h1, h2⟩
    r := by obtain ⟨cs, h1, h2⟩ := h.r; exact ⟨cs, (hb.block _ (Array.getElem?_eq_some_iff.1 h1).1).trans h1, h2⟩
    s := hs, lf := Nat.le_trans hB h.lf, lr := Nat.le_trans hB h.lr, below := hw }
end Go.Proofs.YtohndfcbebeemaaDoor
