/- Contract of the document's Out of windows, counted. -/
import Derived.Test.YtekdcfepfieleaaWinG0
import Derived.OwnWalk
import Derived.Deep.OwnRows
import Derived.Deep.LoopGhost
namespace Go.Proofs.Ytekdcfepfieleaa
open Go Go.RowKit
set_option linter.unusedVariables false

theorem od_lt {n k s p q : Int} (hs : 1 ≤ s) (x : Int) : x * s + k ≤ n + p + q ↔ x < odW n k s p q := by
  unfold odW
  have h := Int.le_ediv_iff_mul_le (a := x) (b := n + p + q - k) (c := s) (by omega)
  constructor
  · intro g
    have := h.2 (by omega)
    omega
  · intro g
    have := h.1 (by omega)
    omega
theorem od_bd {n k s p q : Int} (h : gdW n k s p q = true) : 1 ≤ odW n k s p q ∧ odW n k s p q ≤ 1001 := by
  have g := gdW_o h
  unfold odW
  have := div_bd (x := n + p + q - k) (s := s) (by omega) (by omega) (by omega)
  omega
theorem mul_bdW {x s : Int} (h0 : 0 ≤ x) (h1 : x ≤ 1001) (g0 : 1 ≤ s) (g1 : s ≤ 8) : 0 ≤ x * s ∧ x * s ≤ 8008 := by
  refine ⟨Int.mul_nonneg h0 (by omega), ?_⟩
  have := Int.mul_le_mul h1 g1 (by omega) (by omega)
  omega
/-- the four arrays and the result's block -/
structure InW (B : Nat) (n0 n1 k0 k1 s0 s1 p0 p1 q0 q1 : Int) (w : World) : Prop where
  n0 : w.cell? ⟨B, 0, none⟩ = some (.int .i64 n0)
  n1 : w.cell? ⟨B, 1, none⟩ = some (.int .i64 n1)
  k0 : w.cell? ⟨B + 1, 0, none⟩ = some (.int .i64 k0)
  k1 : w.cell? ⟨B + 1, 1, none⟩ = some (.int .i64 k1)
  s0 : w.cell? ⟨B + 1 + 1, 0, none⟩ = some (.int .i64 s0)
  s1 : w.cell? ⟨B + 1 + 1, 1, none⟩ = some (.int .i64 s1)
  p0 : w.cell? ⟨B + 1 + 1 + 1, 0, none⟩ = some (.int .i64 p0)
  p1 : w.cell? ⟨B + 1 + 1 + 1, 1, none⟩ = some (.int .i64 p1)
  q0 : w.cell? ⟨B + 1 + 1 + 1, 2, none⟩ = some (.int .i64 q0)
  q1 : w.cell? ⟨B + 1 + 1 + 1, 3, none⟩ = some (.int .i64 q1)
  r : w.heap[B + 1 + 1 + 1 + 1]? = some (.cells #[.int .i64 0, .int .i64 0] 35 (0, 0))
  lt : B + 1 + 1 + 1 + 1 + 1 < w.heap.size
theorem InW.grown {B : Nat} {n0 n1 k0 k1 s0 s1 p0 p1 q0 q1 : Int} {w w' : World} (h : InW B n0 n1 k0 k1 s0 s1 p0 p1 q0 q1 w) (hg : w.grownBy w' (some (B + 1 + 1 + 1 + 1 + 1))) : InW B n0 n1 k0 k1 s0 s1 p0 p1 q0 q1 w' :=
  ⟨hg.cell h.n0 (by first | (simp; done) | (simp; omega)), hg.cell h.n1 (by first | (simp; done) | (simp; omega)), hg.cell h.k0 (by first | (simp; done) | (simp; omega)), hg.cell h.k1 (by first | (simp; done) | (simp; omega)), hg.cell h.s0 (by first | (simp; done) | (simp; omega)), hg.cell h.s1 (by first | (simp; done) | (simp; omega)), hg.cell h.p0 (by first | (simp; done) | (simp; omega)), hg.cell h.p1 (by first | (simp; done) | (simp; omega)), hg.cell h.q0 (by first | (simp; done) | (simp; omega)), hg.cell h.q1 (by first | (simp; done) | (simp; omega)),
    (hg.block _ (by have := h.lt; omega) (by first | (simp; done) | (simp; omega))).trans h.r, Nat.lt_of_lt_of_le h.lt hg.size⟩
def iW (x : Int) : Value := .int .i64 x
theorem own_laterW {w w1 : World} {base n size : Nat} {e : TypeId} {v : Value} {xs : List Value} (h : w.ownsRow base e size v n xs) (hb : Below w.heap.size w w1) : w1.ownsRow base e size v n xs :=
  h.kept (show w.grownBy w1 none from ⟨hb.os, hb.tape, hb.output, hb.size, fun i hi _ => hb.block i hi⟩) (by cases v.ownBlock <;> simp)
theorem grown_drewN (w : World) (n : Nat) (r : Option Nat) : w.grownBy (w.drewN n) r := ⟨rfl, rfl, rfl, Nat.le_refl _, fun _ _ _ => rfl⟩

theorem inW_new (n0 n1 k0 k1 s0 s1 p0 p1 q0 q1 : Int) (w : World) : InW w.heap.size n0 n1 k0 k1 s0 s1 p0 p1 q0 q1 ((((((w.alloc (.cells #[.int .i64 n0, .int .i64 n1] 35)).alloc (.cells #[.int .i64 k0, .int .i64 k1] 35)).alloc (.cells #[.int .i64 s0, .int .i64 s1] 35)).alloc (.cells #[.int .i64 p0, .int .i64 p1, .int .i64 q0, .int .i64 q1] 36)).alloc (.cells #[.int .i64 0, .int .i64 0] 35)).alloc (.cells #[.int .i64 0, .int .i64 0] 35)) := by
  have e4 : ((((w.alloc (.cells #[.int .i64 n0, .int .i64 n1] 35)).alloc (.cells #[.int .i64 k0, .int .i64 k1] 35)).alloc (.cells #[.int .i64 s0, .int .i64 s1] 35)).alloc (.cells #[.int .i64 p0, .int .i64 p1, .int .i64 q0, .int .i64 q1] 36)).heap.size = w.heap.size + 1 + 1 + 1 + 1 := by simp
  refine ⟨?_, ?_, ?_, ?_, ?_, ?_, ?_, ?_, ?_, ?_, ?_, by simp⟩
  case refine_11 =>
    rw [heap_alloc_old _ _ (by simp), ← e4, heap_alloc_new]
  all_goals go_simp
end Go.Proofs.Ytekdcfepfieleaa
