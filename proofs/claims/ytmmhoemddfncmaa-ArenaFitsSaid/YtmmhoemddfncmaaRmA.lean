/- Go's pattern-defeating sort over rows of two numbers: the row, the comparison, the swap. -/
import Derived.Test.YtmmhoemddfncmaaProg
import Derived.Test.YtmmhoemddfncmaaArQ
import Derived.Sort.LotA
import Derived.Lib.Hide
import Derived.Laws.Rows
import Derived.Laws.OwnMore
import Derived.Great.Walk
import Derived.BigRegion
import Derived.Deep.RegionHeld3
import Derived.Below
import Derived.Maps.AppendAt
namespace Go.Proofs.Ytmmhoemddfncmaa
open Go Go.RowKit
set_option linter.unusedVariables false

def c2 (l : List Rm) : List Value := l.flatMap fun p => [.int .i64 p.1, .int .i64 p.2]
theorem c2_len (l : List Rm) : (c2 l).length = l.length * 2 := by
  induction l with
  | nil => rfl
  | cons p l ih => show (([.int .i64 p.1, .int .i64 p.2] : List Value) ++ c2 l).length = _; simp [ih]; omega
theorem c2_at0 : ∀ (l : List Rm) (k : Nat) (p : Rm), l[k]? = some p → (c2 l)[k * 2]? = some (.int .i64 p.1) ∧ (c2 l)[k * 2 + 1]? = some (.int .i64 p.2)
  | [], k, p, h => by simp at h
  | q :: l, 0, p, h => by
    obtain rfl : q = p := by simpa using h
    exact ⟨rfl, rfl⟩
  | q :: l, k + 1, p, h => by
    have := c2_at0 l k p (by simpa using h)
    show (([.int .i64 q.1, .int .i64 q.2] : List Value) ++ c2 l)[(k + 1) * 2]? = _ ∧ (([.int .i64 q.1, .int .i64 q.2] : List Value) ++ c2 l)[(k + 1) * 2 + 1]? = _
    rw [List.getElem?_append_right (by simp; omega), List.getElem?_append_right (by simp; omega)]
    simp only [List.length_cons, List.length_nil]
    rw [show (k + 1) * 2 - (0 + 1 + 1) = k * 2 by omega, show (k + 1) * 2 + 1 - (0 + 1 + 1) = k * 2 + 1 by omega]
    exact this
theorem c2_set : ∀ (l : List Rm) (k : Nat) (p : Rm), ((c2 l).set (k * 2) (.int .i64 p.1)).set (k * 2 + 1) (.int .i64 p.2) = c2 (l.set k p)
  | [], k, p => by simp [c2]
  | q :: l, 0, p => rfl
  | q :: l, k + 1, p => by
    have := c2_set l k p
    show ((([.int .i64 q.1, .int .i64 q.2] : List Value) ++ c2 l).set ((k + 1) * 2) _).set ((k + 1) * 2 + 1) _ = ([.int .i64 q.1, .int .i64 q.2] : List Value) ++ c2 (l.set k p)
    rw [List.set_append_right _ _ (by simp; omega), List.set_append_right _ _ (by simp; omega), ← this]
    simp only [List.length_cons, List.length_nil]
    rw [show (k + 1) * 2 - (0 + 1 + 1) = k * 2 by omega, show (k + 1) * 2 + 1 - (0 + 1 + 1) = k * 2 + 1 by omega]
/-- the row that is sorted -/
def SW (w : World) (base G c n : Nat) (d : Array Rm) : Prop := d.size = n ∧ w.ownsRow base 43 2 (.slice (some ⟨G, 0, none⟩) n c) n (c2 d.toList)
theorem getBang {d : Array Rm} {k : Nat} (h : k < d.size) : d.toList[k]? = some d[k]! := by
  rw [getElem!_pos d k h]
  simp [h]
theorem SW.at {w : World} {base G c n : Nat} {d : Array Rm} (h : SW w base G c n d) {k : Nat} (hk : k < n) :
    w.cell? ⟨G, k * 2, none⟩ = some (.int .i64 d[k]!.1) ∧ w.cell? ⟨G, k * 2 + 1, none⟩ = some (.int .i64 d[k]!.2) ∧ w.frozen? ⟨G, k * 2, none⟩ = false ∧ w.frozen? ⟨G, k * 2 + 1, none⟩ = false ∧ G < w.heap.size := by
  obtain ⟨hl, own⟩ := h
  obtain ⟨e0, e1⟩ := c2_at0 d.toList k d[k]! (getBang (by omega))
  exact ⟨(own.cellAt (k * 2) (by omega)).trans e0, (own.cellAt (k * 2 + 1) (by omega)).trans e1, own.frozenAt _, own.frozenAt _, (own.lt G rfl).2⟩
theorem SW.put {w : World} {base G c n : Nat} {d : Array Rm} (h : SW w base G c n d) (k : Nat) (p : Rm) :
    SW ((w.setCell ⟨G, k * 2, none⟩ (.int .i64 p.1)).setCell ⟨G, k * 2 + 1, none⟩ (.int .i64 p.2)) base G c n (d.setIfInBounds k p) ∧ w.grownBy ((w.setCell ⟨G, k * 2, none⟩ (.int .i64 p.1)).setCell ⟨G, k * 2 + 1, none⟩ (.int .i64 p.2)) (some G) := by
  obtain ⟨hl, own⟩ := h
  obtain ⟨o1, g1⟩ := own.stored (k * 2) (.int .i64 p.1)
  obtain ⟨o2, g2⟩ := o1.stored (k * 2 + 1) (.int .i64 p.2)
  rw [c2_set] at o2
  exact ⟨⟨by simp [hl], by rw [Array.toList_setIfInBounds]; exact o2⟩, g1.trans g2⟩
/-- two elements change their places -/
theorem SW.swap {w : World} {base G c n : Nat} {d : Array Rm} (h : SW w base G c n d) (i j : Nat) :
    SW ((((w.setCell ⟨G, i * 2, none⟩ (.int .i64 d[j]!.1)).setCell ⟨G, i * 2 + 1, none⟩ (.int .i64 d[j]!.2)).setCell ⟨G, j * 2, none⟩ (.int .i64 d[i]!.1)).setCell ⟨G, j * 2 + 1, none⟩ (.int .i64 d[i]!.2)) base G c n (Sort.swp d i j) ∧
    w.grownBy ((((w.setCell ⟨G, i * 2, none⟩ (.int .i64 d[j]!.1)).setCell ⟨G, i * 2 + 1, none⟩ (.int .i64 d[j]!.2)).setCell ⟨G, j * 2, none⟩ (.int .i64 d[i]!.1)).setCell ⟨G, j * 2 + 1, none⟩ (.int .i64 d[i]!.2)) (some G) := by
  obtain ⟨s1, g1⟩ := h.put i d[j]!
  obtain ⟨s2, g2⟩ := s1.put j d[i]!
  exact ⟨s2, g1.trans g2⟩
theorem SW.drewN {w : World} {base G c n : Nat} {d : Array Rm} (h : SW w base G c n d) (q : Nat) : SW (w.drewN q) base G c n d := h
theorem SW.later {w w' : World} {base G c n : Nat} {d : Array Rm} (h : SW w base G c n d) (hb : Below w.heap.size w w') : SW w' base G c n d := by
  refine ⟨h.1, ?_⟩
  obtain ⟨h1, ⟨hv, hn⟩ | ⟨g, cap, cur, hv, hg, hh, rest⟩⟩ := h.2
  · exact ⟨h1, .inl ⟨hv, hn⟩⟩
  · have hlt : g < w.heap.size := by
      rcases Nat.lt_or_ge g w.heap.size with h' | h'
      · exact h'
      · rw [Array.getElem?_eq_none h'] at hh; cases hh
    exact ⟨h1, .inr ⟨g, cap, cur, hv, hg, (hb.block g hlt).trans hh, rest⟩⟩
theorem grown_belowR {w w1 w2 : World} {g : Option Nat} (h : w.grownBy w1 g) (hb : Below w1.heap.size w1 w2) : w.grownBy w2 g :=
  h.trans ⟨hb.os, hb.tape, hb.output, hb.size, fun j hj _ => hb.block j hj⟩
/-- the row within a walk that began at w -/
def InW2 (w : World) (base G c n : Nat) (d : Array Rm) (w' : World) : Prop := SW w' base G c n d ∧ w.grownBy w' (some G)
theorem InW2.drewN {w : World} {base G c n : Nat} {d : Array Rm} {w' : World} (h : InW2 w base G c n d w') (q : Nat) : InW2 w base G c n d (w'.drewN q) := ⟨h.1, h.2.trans ⟨rfl, rfl, rfl, Nat.le_refl _, fun _ _ _ => rfl⟩⟩
theorem InW2.drew {w : World} {base G c n : Nat} {d : Array Rm} {w' : World} (h : InW2 w base G c n d w') : InW2 w base G c n d w'.drew := h.drewN 1
theorem InW2.later {w : World} {base G c n : Nat} {d : Array Rm} {w' w2 : World} (h : InW2 w base G c n d w') (hb : Below w'.heap.size w' w2) : InW2 w base G c n d w2 := ⟨h.1.later hb, grown_belowR h.2 hb⟩
theorem InW2.start {w : World} {base G c n : Nat} {d : Array Rm} (h : SW w base G c n d) : InW2 w base G c n d w := ⟨h, World.grownBy.refl _ _⟩
theorem InW2.trans {w : World} {base G c n : Nat} {d : Array Rm} {w1 w2 : World} (h : w.grownBy w1 (some G)) (k : InW2 w1 base G c n d w2) : InW2 w base G c n d w2 := ⟨k.1, h.trans k.2⟩
theorem g_drew (W : World) (G : Nat) : W.grownBy W.drew (some G) := ⟨rfl, rfl, rfl, Nat.le_refl _, fun _ _ _ => rfl⟩
/-- the comparison of two rooms -/
def fR (x y : Rm) : Int := if x.1 < y.1 then -1 else if y.1 < x.1 then 1 else 0
def ltR (x y : Rm) : Bool := decide (x.1 < y.1)
theorem fR_lt (x y : Rm) : decide (fR x y < 0) = ltR x y := by
  unfold fR ltR
  by_cases h : x.1 < y.1
  · simp [h]
  · rw [if_neg h]
    split <;> simp [h]
theorem swoR : Sort.SWO ltR := ⟨fun x => by simp [ltR], fun x y z h1 h2 => by simp [ltR] at *; omega, fun x y z h1 h2 => by simp [ltR] at *; omega⟩
end Go.Proofs.Ytmmhoemddfncmaa
