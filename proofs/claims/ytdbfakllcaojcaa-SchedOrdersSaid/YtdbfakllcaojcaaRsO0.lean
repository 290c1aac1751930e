/- The document's out: what lies where. -/
import Derived.Test.YtdbfakllcaojcaaRF
import Derived.Test.YtdbfakllcaojcaaWR
import Derived.Test.YtdbfakllcaojcaaNdEq
import Derived.Test.YtdbfakllcaojcaaNY
namespace Go.Proofs.Ytdbfakllcaojcaa
open Go Go.RowKit
set_option linter.unusedVariables false
set_option maxRecDepth 100000

def shC (s : Sh) : List Value := [.int .i64 s.x, .int .i64 s.y, .int .i64 s.z]
structure OAt (W : World) (B : Nat) (n : Nd) (a b z : Sh) (u v : Int) : Prop where
  n : RowAt W B n.cells
  a : RowAt W (B + 1) (shC a)
  b : RowAt W (B + 1 + 1) (shC b)
  z : RowAt W (B + 1 + 1 + 1) (shC z)
  q : RowAt W (B + 1 + 1 + 1 + 1) [.int .i64 u, .int .i64 v]
theorem OAt.over {W W' : World} {B : Nat} {n : Nd} {a b z : Sh} {u v : Int} (h : OAt W B n a b z u v) (hb : Below W.heap.size W W') : OAt W' B n a b z u v :=
  ⟨h.n.over hb, h.a.over hb, h.b.over hb, h.z.over hb, h.q.over hb⟩
theorem OAt.new (w : World) (n : Nd) (a b : Sh) : OAt (((((w.alloc (.cells n.cells.toArray 57)).alloc (.cells #[.int .i64 a.x, .int .i64 a.y, .int .i64 a.z] 22)).alloc (.cells #[.int .i64 b.x, .int .i64 b.y, .int .i64 b.z] 22)).alloc (.cells #[.int .i64 0, .int .i64 0, .int .i64 0] 22)).alloc (.cells #[.int .i64 0, .int .i64 0] 54)) w.heap.size n a b ⟨0, 0, 0⟩ 0 0 := by
  have al := fun (W : World) (o : Obj) => Below.alloc (Below.refl W.heap.size W) (Nat.le_refl _) o
  have h0 := RowAt.new w n.cells 57
  have h1 := RowAt.new (w.alloc (.cells n.cells.toArray 57)) (shC a) 22
  rw [size_alloc1] at h1
  have h2 := RowAt.new ((w.alloc (.cells n.cells.toArray 57)).alloc (.cells (shC a).toArray 22)) (shC b) 22
  rw [size_alloc1, size_alloc1] at h2
  have h3 := RowAt.new (((w.alloc (.cells n.cells.toArray 57)).alloc (.cells (shC a).toArray 22)).alloc (.cells (shC b).toArray 22)) (shC ⟨0, 0, 0⟩) 22
  rw [size_alloc1, size_alloc1, size_alloc1] at h3
  have h4 := RowAt.new ((((w.alloc (.cells n.cells.toArray 57)).alloc (.cells (shC a).toArray 22)).alloc (.cells (shC b).toArray 22)).alloc (.cells (shC ⟨0, 0, 0⟩).toArray 22)) [.int .i64 0, .int .i64 0] 54
  rw [size_alloc1, size_alloc1, size_alloc1, size_alloc1] at h4
  exact ⟨(((h0.over (al _ _)).over (al _ _)).over (al _ _)).over (al _ _), ((h1.over (al _ _)).over (al _ _)).over (al _ _), (h2.over (al _ _)).over (al _ _), h3.over (al _ _), h4⟩
/-- what is told of out -/
def RoPost (n : Nd) (a b : Sh) (w : World) (e : Ending) (w' : World) : Prop :=
  ∃ x y z : Int, e = .returned (.tuple #[.agg #[.int .i64 x, .int .i64 y, .int .i64 z], .int .i64 (outN n a b).1]) ∧ Below w.heap.size w w' ∧ ((outN n a b).1 = 0 → (outN n a b).2 = ⟨x, y, z⟩)
def ROc (k : Int) : Prop := ∀ (n : Nd) (a b : Sh), n.op = k → a.good = true → b.good = true → ∀ w : World, Calls Try.prog 33 #[.agg n.cells.toArray, .agg #[.int .i64 a.x, .int .i64 a.y, .int .i64 a.z], .agg #[.int .i64 b.x, .int .i64 b.y, .int .i64 b.z]] w (RoPost n a b w)
theorem OAt.all {W : World} {B : Nat} {n : Nd} {a b z : Sh} {u v : Int} (h : OAt W B n a b z u v) : W.cell? ⟨B, 3, none⟩ = some (.int .i64 n.k0) ∧ W.cell? ⟨B, 4, none⟩ = some (.int .i64 n.k1) ∧ W.cell? ⟨B, 5, none⟩ = some (.int .i64 n.s0) ∧ W.cell? ⟨B, 6, none⟩ = some (.int .i64 n.s1) ∧ W.cell? ⟨B, 7, none⟩ = some (.int .i64 n.p0) ∧ W.cell? ⟨B, 8, none⟩ = some (.int .i64 n.p1) ∧ W.cell? ⟨B, 9, none⟩ = some (.int .i64 n.p2) ∧ W.cell? ⟨B, 10, none⟩ = some (.int .i64 n.p3) ∧ W.cell? ⟨B, 22, none⟩ = some (.int .i64 n.chans) ∧ W.cell? ⟨B, 23, none⟩ = some (.int .i64 n.h0) ∧ W.cell? ⟨B, 24, none⟩ = some (.int .i64 n.h1) ∧ W.cell? ⟨B, 25, none⟩ = some (.int .i64 n.h2) ∧ W.cell? ⟨B + 1, 0, none⟩ = some (.int .i64 a.x) ∧ W.cell? ⟨B + 1, 1, none⟩ = some (.int .i64 a.y) ∧ W.cell? ⟨B + 1, 2, none⟩ = some (.int .i64 a.z) ∧ W.cell? ⟨B + 1 + 1, 0, none⟩ = some (.int .i64 b.x) ∧ W.cell? ⟨B + 1 + 1, 1, none⟩ = some (.int .i64 b.y) ∧ W.cell? ⟨B + 1 + 1, 2, none⟩ = some (.int .i64 b.z) ∧ W.cell? ⟨B + 1 + 1 + 1 + 1, 0, none⟩ = some (.int .i64 u) ∧ W.frozen? ⟨B + 1 + 1 + 1 + 1, 0, none⟩ = false ∧ W.cell? ⟨B + 1 + 1 + 1 + 1, 1, none⟩ = some (.int .i64 v) ∧ W.frozen? ⟨B + 1 + 1 + 1 + 1, 1, none⟩ = false ∧ W.cell? ⟨B + 1 + 1 + 1, 0, none⟩ = some (.int .i64 z.x) ∧ W.frozen? ⟨B + 1 + 1 + 1, 0, none⟩ = false ∧ W.cell? ⟨B + 1 + 1 + 1, 1, none⟩ = some (.int .i64 z.y) ∧ W.frozen? ⟨B + 1 + 1 + 1, 1, none⟩ = false ∧ W.cell? ⟨B + 1 + 1 + 1, 2, none⟩ = some (.int .i64 z.z) ∧ W.frozen? ⟨B + 1 + 1 + 1, 2, none⟩ = false ∧ B < W.heap.size ∧ B + 1 < W.heap.size ∧ B + 1 + 1 < W.heap.size ∧ B + 1 + 1 + 1 < W.heap.size ∧ B + 1 + 1 + 1 + 1 < W.heap.size :=
  ⟨h.n.cell 3 _ rfl, h.n.cell 4 _ rfl, h.n.cell 5 _ rfl, h.n.cell 6 _ rfl, h.n.cell 7 _ rfl, h.n.cell 8 _ rfl, h.n.cell 9 _ rfl, h.n.cell 10 _ rfl, h.n.cell 22 _ rfl, h.n.cell 23 _ rfl, h.n.cell 24 _ rfl, h.n.cell 25 _ rfl, h.a.cell 0 _ rfl, h.a.cell 1 _ rfl, h.a.cell 2 _ rfl, h.b.cell 0 _ rfl, h.b.cell 1 _ rfl, h.b.cell 2 _ rfl, h.q.cell 0 _ rfl, h.q.fr 0, h.q.cell 1 _ rfl, h.q.fr 1, h.z.cell 0 _ rfl, h.z.fr 0, h.z.cell 1 _ rfl, h.z.fr 1, h.z.cell 2 _ rfl, h.z.fr 2, h.n.lt, h.a.lt, h.b.lt, h.z.lt, h.q.lt⟩
theorem OAt.put {W : World} {B : Nat} {n : Nd} {a b z : Sh} {u v : Int} (h : OAt W B n a b z u v) (x y t : Int) :
    RowAt (((W.setCell ⟨B + 1 + 1 + 1, 0, none⟩ (.int .i64 x)).setCell ⟨B + 1 + 1 + 1, 1, none⟩ (.int .i64 y)).setCell ⟨B + 1 + 1 + 1, 2, none⟩ (.int .i64 t)) (B + 1 + 1 + 1) [.int .i64 x, .int .i64 y, .int .i64 t] :=
  ((h.z.set (l' := [.int .i64 x, .int .i64 z.y, .int .i64 z.z]) 0 _ (by show 0 < 3; omega) rfl).set (l' := [.int .i64 x, .int .i64 y, .int .i64 z.z]) 1 _ (by show 1 < 3; omega) rfl).set 2 _ (by show 2 < 3; omega) rfl
theorem OAt.setq {W : World} {B : Nat} {n : Nd} {a b z : Sh} {u v : Int} (h : OAt W B n a b z u v) (x y : Int) :
    OAt ((W.setCell ⟨B + 1 + 1 + 1 + 1, 0, none⟩ (.int .i64 x)).setCell ⟨B + 1 + 1 + 1 + 1, 1, none⟩ (.int .i64 y)) B n a b z x y :=
  ⟨(h.n.aside _ 0 _ (by omega)).aside _ 1 _ (by omega), (h.a.aside _ 0 _ (by omega)).aside _ 1 _ (by omega), (h.b.aside _ 0 _ (by omega)).aside _ 1 _ (by omega), (h.z.aside _ 0 _ (by omega)).aside _ 1 _ (by omega),
   (h.q.set (l' := [.int .i64 x, .int .i64 v]) 0 _ (by show 0 < 2; omega) rfl).set 1 _ (by show 1 < 2; omega) rfl⟩
theorem below_put {w W : World} {x y t : Int} (h : Below w.heap.size w W) : Below w.heap.size w (((W.setCell ⟨w.heap.size + 1 + 1 + 1, 0, none⟩ (.int .i64 x)).setCell ⟨w.heap.size + 1 + 1 + 1, 1, none⟩ (.int .i64 y)).setCell ⟨w.heap.size + 1 + 1 + 1, 2, none⟩ (.int .i64 t)) :=
  Below.setCell (Below.setCell (Below.setCell h (by show w.heap.size ≤ w.heap.size + 1 + 1 + 1; omega) _) (by show w.heap.size ≤ w.heap.size + 1 + 1 + 1; omega) _) (by show w.heap.size ≤ w.heap.size + 1 + 1 + 1; omega) _
theorem below_setq {w W : World} {x y : Int} (h : Below w.heap.size w W) : Below w.heap.size w ((W.setCell ⟨w.heap.size + 1 + 1 + 1 + 1, 0, none⟩ (.int .i64 x)).setCell ⟨w.heap.size + 1 + 1 + 1 + 1, 1, none⟩ (.int .i64 y)) :=
  Below.setCell (Below.setCell h (by show w.heap.size ≤ w.heap.size + 1 + 1 + 1 + 1; omega) _) (by show w.heap.size ≤ w.heap.size + 1 + 1 + 1 + 1; omega) _
theorem good_bd {s : Sh} (h : s.good = true) : (1 ≤ s.x ∧ s.x ≤ 64) ∧ (1 ≤ s.y ∧ s.y ≤ 64) ∧ (1 ≤ s.z ∧ s.z ≤ 64) := by
  unfold Sh.good at h
  simp at h
  omega
end Go.Proofs.Ytdbfakllcaojcaa
