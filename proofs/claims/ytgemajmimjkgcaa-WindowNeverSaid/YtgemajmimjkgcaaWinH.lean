/- Windows: equal arrays, a window in a block of its own, the law's own 'lives'. -/
import Derived.Test.YtgemajmimjkgcaaWinL
import Derived.Test.YtgemajmimjkgcaaOpen
import Derived.Deep.RegionHeld3
namespace Go.Proofs.Ytgemajmimjkgcaa
open Go Go.RowKit Go.ChangeShapes Go.WideShapes Go.ChangeAt
set_option linter.unusedVariables false

theorem eqA2 {P : Program} {t e : TypeId} {i : TypeInfo} (hu : P.underlying t = some (.array 2 e)) (he : P.underlying e = some (.int .i64)) (hi : P.info? e = some i) (hC : P.cellsOf e = 1) (x y a b : Int) (w : World) :
    (Op.equalIn 10000 t (.agg #[.int .i64 x, .int .i64 y]) (.agg #[.int .i64 a, .int .i64 b])).run P w = .ok (x == a && y == b) w := by
  rw [run_equalIn_array w 9999 _ _ hu hi, hC, show List.range 2 = [0, 1] from rfl]
  have pe : ∀ u v : Int, (Op.equalIn 9999 e (.int .i64 u) (.int .i64 v)).run P w = .ok (u == v) w := fun u v => run_equalIn_int w 9998 e .i64 .i64 u v he
  have p0 := fun (x y : Int) => part0 he #[.int .i64 x, .int .i64 y] (0 * 1) (.int .i64 x) rfl w
  have p1 := fun (x y : Int) => part0 he #[.int .i64 x, .int .i64 y] (1 * 1) (.int .i64 y) rfl w
  simp only [Op.eqItems, Sem.run_bind, p0, p1, pe, Result.andThen_ok, Sem.run_ite, Sem.run_pure]
  cases h1 : (x == a) <;> cases h2 : (y == b) <;> simp
theorem eqA4 {P : Program} {t e : TypeId} {i : TypeInfo} (hu : P.underlying t = some (.array 4 e)) (he : P.underlying e = some (.int .i64)) (hi : P.info? e = some i) (hC : P.cellsOf e = 1) (x y z u a b c d : Int) (w : World) :
    (Op.equalIn 10000 t (.agg #[.int .i64 x, .int .i64 y, .int .i64 z, .int .i64 u]) (.agg #[.int .i64 a, .int .i64 b, .int .i64 c, .int .i64 d])).run P w = .ok (x == a && (y == b && (z == c && u == d))) w := by
  rw [run_equalIn_array w 9999 _ _ hu hi, hC, show List.range 4 = [0, 1, 2, 3] from rfl]
  have pe : ∀ u v : Int, (Op.equalIn 9999 e (.int .i64 u) (.int .i64 v)).run P w = .ok (u == v) w := fun u v => run_equalIn_int w 9998 e .i64 .i64 u v he
  have p0 := fun (x y z u : Int) => part0 he #[.int .i64 x, .int .i64 y, .int .i64 z, .int .i64 u] (0 * 1) (.int .i64 x) rfl w
  have p1 := fun (x y z u : Int) => part0 he #[.int .i64 x, .int .i64 y, .int .i64 z, .int .i64 u] (1 * 1) (.int .i64 y) rfl w
  have p2 := fun (x y z u : Int) => part0 he #[.int .i64 x, .int .i64 y, .int .i64 z, .int .i64 u] (2 * 1) (.int .i64 z) rfl w
  have p3 := fun (x y z u : Int) => part0 he #[.int .i64 x, .int .i64 y, .int .i64 z, .int .i64 u] (3 * 1) (.int .i64 u) rfl w
  simp only [Op.eqItems, Sem.run_bind, p0, p1, p2, p3, pe, Result.andThen_ok, Sem.run_ite, Sem.run_pure]
  cases h1 : (x == a) <;> cases h2 : (y == b) <;> cases h3 : (z == c) <;> cases h4 : (u == d) <;> simp
theorem cellsW : Try.prog.cellsOf 3 = 1 := by kernel_rfl
theorem infoW : Try.prog.info? 3 = some (Try.prog.info? 3).get! := by kernel_rfl
theorem btW {w a b : World} (h : Below w.heap.size w a) (k : Below a.heap.size a b) : Below w.heap.size w b := h.trans (k.mono h.size)
theorem cells_lit {w w1 : World} {cs : Array Value} {t : TypeId} (hb : Below (w.alloc (.cells cs t)).heap.size (w.alloc (.cells cs t)) w1) : ∀ j v, cs[j]? = some v → w1.cell? ⟨w.heap.size, j, none⟩ = some v := fun j v hv =>
  (hb.cell (p := ⟨w.heap.size, j, none⟩) (by simp)).trans (by rw [World.cell?_alloc_new]; exact hv)
set_option maxHeartbeats 1000000 in
theorem law22_lives (w : World) : Calls Try.prog 17 #[] w fun e w' => e = .returned (.bool true) ∧ Below w.heap.size w w' := by
  have eq2 := fun (x y a b : Int) (w : World) => eqA2 Try.underlying22 Try.underlying3 infoW cellsW x y a b w
  have eq4 := fun (x y z u a b c d : Int) (w : World) => eqA4 Try.underlying23 Try.underlying3 infoW cellsW x y z u a b c d w
  go_enter Try.func17, Try.ntmps17
  go_wp2_with fail
  refine (out_live _).mono ?_
  rintro e w1 ⟨rfl, b1⟩
  have B1 := Lib.hid b1
  clear b1
  go_wp2_with fail
  refine (inside_live _).mono ?_
  rintro e w2 ⟨rfl, b2⟩
  have hz : w1.heap.size < w2.heap.size := by have := b2.size; simp at this; omega
  have c0 := cells_lit b2 0 (.int .i64 5) rfl
  have c1 := cells_lit b2 1 (.int .i64 5) rfl
  have B2 := Lib.hid (btW B1.out (Below.trans (show Below w1.heap.size w1 (w1.alloc (.cells #[.int .i64 5, .int .i64 5] 22)) by go_grown) (b2.mono (by simp))))
  clear b2
  go_wp2_with fail
  go_ret
  exact ⟨rfl, btW B2.out (by go_grown)⟩

/-- a window in a block of its own -/
def BoxW (B : Nat) (n0 n1 k0 k1 s0 s1 p0 p1 q0 q1 : Int) (w : World) : Prop := w.cell? ⟨B, 0, none⟩ = some (.int .i64 n0) ∧ w.cell? ⟨B, 1, none⟩ = some (.int .i64 n1) ∧ w.cell? ⟨B, 2, none⟩ = some (.int .i64 k0) ∧ w.cell? ⟨B, 3, none⟩ = some (.int .i64 k1) ∧ w.cell? ⟨B, 4, none⟩ = some (.int .i64 s0) ∧ w.cell? ⟨B, 5, none⟩ = some (.int .i64 s1) ∧ w.cell? ⟨B, 6, none⟩ = some (.int .i64 p0) ∧ w.cell? ⟨B, 7, none⟩ = some (.int .i64 p1) ∧ w.cell? ⟨B, 8, none⟩ = some (.int .i64 q0) ∧ w.cell? ⟨B, 9, none⟩ = some (.int .i64 q1) ∧ B < w.heap.size
theorem BoxW.later {B : Nat} {n0 n1 k0 k1 s0 s1 p0 p1 q0 q1 : Int} {w w' : World} (h : BoxW B n0 n1 k0 k1 s0 s1 p0 p1 q0 q1 w) (hb : Below w.heap.size w w') : BoxW B n0 n1 k0 k1 s0 s1 p0 p1 q0 q1 w' := by
  obtain ⟨h0, h1, h2, h3, h4, h5, h6, h7, h8, h9, hl⟩ := h
  exact ⟨(hb.cell hl).trans h0, (hb.cell hl).trans h1, (hb.cell hl).trans h2, (hb.cell hl).trans h3, (hb.cell hl).trans h4, (hb.cell hl).trans h5, (hb.cell hl).trans h6, (hb.cell hl).trans h7, (hb.cell hl).trans h8, (hb.cell hl).trans h9, Nat.lt_of_lt_of_le hl hb.size⟩
theorem boxW_new (w : World) (n0 n1 k0 k1 s0 s1 p0 p1 q0 q1 : Int) (t : TypeId) : BoxW w.heap.size n0 n1 k0 k1 s0 s1 p0 p1 q0 q1 (w.alloc (.cells #[.int .i64 n0, .int .i64 n1, .int .i64 k0, .int .i64 k1, .int .i64 s0, .int .i64 s1, .int .i64 p0, .int .i64 p1, .int .i64 q0, .int .i64 q1] t)) := by
  refine ⟨?_, ?_, ?_, ?_, ?_, ?_, ?_, ?_, ?_, ?_, by simp⟩ <;> (rw [World.cell?_alloc_new]; rfl)
end Go.Proofs.Ytgemajmimjkgcaa
