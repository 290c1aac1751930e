/- slices.Clone of nodes. -/
import Derived.Test.YtdbfakllcaojcaaFG
import Derived.Deep.OwnRows
import Derived.WalkSpells
import Derived.Test.YtdbfakllcaojcaaFew
namespace Go.Proofs.Ytdbfakllcaojcaa
open Go Go.RowKit
set_option linter.unusedVariables false
set_option linter.unusedSimpArgs false
set_option maxRecDepth 100000

end Go.Proofs.Ytdbfakllcaojcaa

namespace Go.Proofs.Ytdbfakllcaojcaa
open Go Go.RowKit
set_option linter.unusedVariables false
set_option linter.unusedSimpArgs false
set_option maxRecDepth 100000

end Go.Proofs.Ytdbfakllcaojcaa

namespace Go.Proofs.Ytdbfakllcaojcaa
open Go Go.RowKit
set_option linter.unusedVariables false
set_option linter.unusedSimpArgs false
set_option maxRecDepth 100000

/-- numbers in a row of their own, or none -/
def OwnN (k : IntKind) (e : TypeId) (w : World) (B : Nat) (a : Option Addr) (l : List Int) (c : Nat) : Prop := (a = none ∧ l = [] ∧ c = 0) ∨ OwnI k e w B a l c
theorem OwnN.ints {k : IntKind} {e : TypeId} {w : World} {B : Nat} {a : Option Addr} {l : List Int} {c : Nat} (h : OwnN k e w B a l c) : IntsIn k w a l c := by
  rcases h with ⟨rfl, rfl, rfl⟩ | h
  · exact ⟨⟨by simp, by omega, by simp, Or.inl ⟨rfl, rfl, rfl⟩⟩, by simp⟩
  · exact h.ints
theorem OwnN.grown {k : IntKind} {e e' : TypeId} {w w' : World} {B g c' n s : Nat} {a : Option Addr} {l : List Int} {c : Nat} {xs : List Value} (h : OwnN k e w B a l c) (ho : w.ownsRow B e' s (.slice (some ⟨g, 0, none⟩) n c') n xs) (he : e' ≠ e) (hg : w.grownBy w' (some g)) : OwnN k e w' B a l c :=
  h.imp id fun h => h.grown ho he hg
theorem OwnN.over {k : IntKind} {e : TypeId} {w w' : World} {B : Nat} {a : Option Addr} {l : List Int} {c : Nat} (h : OwnN k e w B a l c) (hb : Below w.heap.size w w') : OwnN k e w' B a l c := h.imp id fun h => h.over hb
theorem OwnN.kp {k : IntKind} {e : TypeId} {w w' : World} {B B' : Nat} {a : Option Addr} {l : List Int} {c : Nat} (h : OwnN k e w B a l c) (hk : Kp B' w w') (hB : B' ≤ B) : OwnN k e w' B a l c := h.imp id fun h => h.kp hk hB
theorem OwnN.kpx {k : IntKind} {e e' : TypeId} {w w' : World} {B B' b' n' s' g' c' : Nat} {a : Option Addr} {l : List Int} {c : Nat} {xs' : List Value} (h : OwnN k e w B a l c) (h' : w.ownsRow b' e' s' (.slice (some ⟨g', 0, none⟩) n' c') n' xs') (he : e ≠ e') (hk : KpX B' g' w w') (hB : B' ≤ B) : OwnN k e w' B a l c :=
  h.imp id fun h => h.kpx h' he hk hB
/-- a constant whose numbers are its own -/
def OwnC (w : World) (B : Nat) (q : CnQ) : Prop := OwnN .i8 73 w B q.ba q.bs q.bc ∧ OwnN .i32 21 w B q.wa q.ws q.wc
theorem OwnC.ok {w : World} {B : Nat} {q : CnQ} (h : OwnC w B q) : q.ok w := ⟨h.1.ints, h.2.ints⟩
theorem OwnC.over {w w' : World} {B : Nat} {q : CnQ} (h : OwnC w B q) (hb : Below w.heap.size w w') : OwnC w' B q := ⟨h.1.over hb, h.2.over hb⟩
theorem OwnC.kp {w w' : World} {B B' : Nat} {q : CnQ} (h : OwnC w B q) (hk : Kp B' w w') (hB : B' ≤ B) : OwnC w' B q := ⟨h.1.kp hk hB, h.2.kp hk hB⟩
theorem OwnC.grown {w w' : World} {B g c' n s : Nat} {e' : TypeId} {xs : List Value} {q : CnQ} (h : OwnC w B q) (ho : w.ownsRow B e' s (.slice (some ⟨g, 0, none⟩) n c') n xs) (h1 : e' ≠ 73) (h2 : e' ≠ 21) (hg : w.grownBy w' (some g)) : OwnC w' B q := ⟨h.1.grown ho h1 hg, h.2.grown ho h2 hg⟩
theorem OwnC.kpx {w w' : World} {B B' b' n' s' g' c' : Nat} {e' : TypeId} {xs' : List Value} {q : CnQ} (h : OwnC w B q) (h' : w.ownsRow b' e' s' (.slice (some ⟨g', 0, none⟩) n' c') n' xs') (h1 : 73 ≠ e') (h2 : 21 ≠ e') (hk : KpX B' g' w w') (hB : B' ≤ B) : OwnC w' B q := ⟨h.1.kpx h' h1 hk hB, h.2.kpx h' h2 hk hB⟩
end Go.Proofs.Ytdbfakllcaojcaa
