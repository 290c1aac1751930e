/- Package infer: nodeShape keeps what Shapes asks of it; Shapes. -/
import Derived.Test.YtmifojpmomdmeaaNsX
import Derived.Test.YtmifojpmomdmeaaNS
namespace Go.Proofs.Ytmifojpmomdmeaa
open Go Go.RowKit
set_option linter.unusedVariables false
theorem ns_any : NSc := by
  intro n C cc ca sa sc l w hC hS hg hl
  by_cases h : 1 ≤ n.op ∧ n.op ≤ 14
  · exact ns_main n C cc ca sa sc l w h hC hS hg hl
  · have e : nodeE (C.map CnQ.cn) n l = (15, default) := by unfold nodeE; rw [if_pos (by omega)]
    rw [e]
    exact ns_op n _ _ w (by omega)
/-- what Shapes tells of a network -/
theorem shapes_all (g : GrQ) (w : World) (hC : CnsIn w g.ca g.C g.cc) (hN : NdsIn w g.na g.ns g.nc) (hn : g.ns.length ≤ 1000) :
    Calls Try.prog 18 #[g.val] w (ShPost g w) := shapes_any ns_any g w hC hN hn
end Go.Proofs.Ytmifojpmomdmeaa

namespace Go.Proofs.Ytmifojpmomdmeaa
open Go Go.RowKit
set_option linter.unusedVariables false

/-- W holds what w' holds from block B on -/
def Kp (B : Nat) (w' W : World) : Prop := w'.heap.size ≤ W.heap.size ∧ ∀ k, B ≤ k → k < w'.heap.size → W.heap[k]? = w'.heap[k]?
theorem Kp.refl (B : Nat) (w : World) : Kp B w w := ⟨Nat.le_refl _, fun _ _ _ => rfl⟩
theorem Kp.set {B : Nat} {w' W : World} (h : Kp B w' W) (b j : Nat) (v : Value) (hb : b < B) : Kp B w' (W.setCell ⟨b, j, none⟩ v) :=
  ⟨by simpa using h.1, fun k hk hl => (RowKit.Below.heap_setCell _ _ _ _ (by intro e; simp at e; omega)).trans (h.2 k hk hl)⟩
/-- W holds what w' holds from block B on, but for block g -/
def KpX (B g : Nat) (w' W : World) : Prop := w'.heap.size ≤ W.heap.size ∧ ∀ k, B ≤ k → k < w'.heap.size → k ≠ g → W.heap[k]? = w'.heap[k]?
theorem Kp.but {B : Nat} {w' W : World} (h : Kp B w' W) (g : Nat) : KpX B g w' W := ⟨h.1, fun k a b _ => h.2 k a b⟩
/-- what Few tells: a network of its own, of few nodes -/
def FwPost (w : World) (e : Ending) (w' : World) : Prop :=
  ∃ g : GrQ, e = .returned g.val ∧ Below w.heap.size w w' ∧ (∀ W, Kp w.heap.size w' W → CnsIn W g.ca g.C g.cc ∧ NdsIn W g.na g.ns g.nc) ∧ g.ns.length ≤ 12 ∧
    (0 < g.ns.length → ∃ nb, g.na = some ⟨nb, 0, none⟩ ∧ w.heap.size ≤ nb ∧ (∀ j, w'.frozen? ⟨nb, j, none⟩ = false) ∧ ∀ W, KpX w.heap.size nb w' W → CnsIn W g.ca g.C g.cc) ∧
    g.C.length ≤ 20 ∧ ∀ q ∈ g.C, q.bs.length ≤ 4000 ∧ q.ws.length ≤ 300
def FwC : Prop := ∀ (g : GrQ) (w : World), g.ok w → Calls Try.prog 8 #[g.val] w (FwPost w)
def ShC : Prop := ∀ (g : GrQ) (w : World), CnsIn w g.ca g.C g.cc → NdsIn w g.na g.ns g.nc → g.ns.length ≤ 1000 → Calls Try.prog 18 #[g.val] w (ShPost g w)
end Go.Proofs.Ytmifojpmomdmeaa
