/- Contracts for windows: Out at any arrays, and the law's own 'lives'. -/
import Derived.Test.YtgemajmimjkgcaaWinG
import Derived.Test.YtgemajmimjkgcaaWinO
import Derived.BigRegion
namespace Go.Proofs.Ytgemajmimjkgcaa
open Go Go.RowKit
set_option linter.unusedVariables false

theorem out_any (n0 n1 k0 k1 s0 s1 p0 p1 q0 q1 : Int) (w : World) :
    Calls Try.prog 22 #[.agg #[.int .i64 n0, .int .i64 n1], .agg #[.int .i64 k0, .int .i64 k1], .agg #[.int .i64 s0, .int .i64 s1], .agg #[.int .i64 p0, .int .i64 p1, .int .i64 q0, .int .i64 q1]] w (OutP (gdW n0 k0 s0 p0 q0 && gdW n1 k1 s1 p1 q1) (odW n0 k0 s0 p0 q0) (odW n1 k1 s1 p1 q1) w) := by
  cases h0n : inB n0 1 64
  · exact out_a0 n0 n1 k0 k1 s0 s1 p0 p1 q0 q1 w  h0n
  cases h0k : inB k0 1 8
  · exact out_a1 n0 n1 k0 k1 s0 s1 p0 p1 q0 q1 w h0n h0k
  cases h0s : inB s0 1 8
  · exact out_a2 n0 n1 k0 k1 s0 s1 p0 p1 q0 q1 w h0n h0k h0s
  cases h0p : padB p0 k0
  · exact out_a3 n0 n1 k0 k1 s0 s1 p0 p1 q0 q1 w h0n h0k h0s h0p
  cases h0q : padB q0 k0
  · exact out_a4 n0 n1 k0 k1 s0 s1 p0 p1 q0 q1 w h0n h0k h0s h0p h0q
  by_cases h0r : 0 ≤ n0 + p0 + q0 - k0
  case neg => exact out_a5 n0 n1 k0 k1 s0 s1 p0 p1 q0 q1 w h0n h0k h0s h0p h0q (by omega)
  cases h1n : inB n1 1 64
  · exact out_b0 n0 n1 k0 k1 s0 s1 p0 p1 q0 q1 w h0n h0k h0s h0p h0q h0r h1n
  cases h1k : inB k1 1 8
  · exact out_b1 n0 n1 k0 k1 s0 s1 p0 p1 q0 q1 w h0n h0k h0s h0p h0q h0r h1n h1k
  cases h1s : inB s1 1 8
  · exact out_b2 n0 n1 k0 k1 s0 s1 p0 p1 q0 q1 w h0n h0k h0s h0p h0q h0r h1n h1k h1s
  cases h1p : padB p1 k1
  · exact out_b3 n0 n1 k0 k1 s0 s1 p0 p1 q0 q1 w h0n h0k h0s h0p h0q h0r h1n h1k h1s h1p
  cases h1q : padB q1 k1
  · exact out_b4 n0 n1 k0 k1 s0 s1 p0 p1 q0 q1 w h0n h0k h0s h0p h0q h0r h1n h1k h1s h1p h1q
  by_cases h1r : 0 ≤ n1 + p1 + q1 - k1
  case neg => exact out_b5 n0 n1 k0 k1 s0 s1 p0 p1 q0 q1 w h0n h0k h0s h0p h0q h0r h1n h1k h1s h1p h1q (by omega)
  exact out_y n0 n1 k0 k1 s0 s1 p0 p1 q0 q1 w h0n h0k h0s h0p h0q h0r h1n h1k h1s h1p h1q h1r
set_option maxHeartbeats 400000 in
theorem whole_live (w : World) : Calls Try.prog 49 #[.int .i64 5, .int .i64 3, .int .i64 1, .int .i64 1, .int .i64 5] w fun e w' => e = .returned (.tuple #[.int .i64 1, .int .i64 4]) ∧ ∃ n, w' = w.drewN n := by
  go_enter Try.func49, Try.ntmps49
  go_wp2
  go_quiet (fail)
  go_wp2
  go_ret2
  exact ⟨rfl, _, rfl⟩
theorem out_live (w : World) : Calls Try.prog 22 #[.agg #[.int .i64 5, .int .i64 5], .agg #[.int .i64 3, .int .i64 3], .agg #[.int .i64 1, .int .i64 1], .agg #[.int .i64 1, .int .i64 1, .int .i64 1, .int .i64 1]] w fun e w' => e = .returned (.tuple #[.agg #[.int .i64 5, .int .i64 5], .bool true]) ∧ Below w.heap.size w w' := by
  have h := out_any 5 5 3 3 1 1 1 1 1 1 w
  unfold OutP at h
  rw [show (gdW 5 3 1 1 1 && gdW 5 3 1 1 1) = true by decide, show odW 5 3 1 1 1 = 5 by decide] at h
  exact h
set_option maxRecDepth 100000 in
set_option maxHeartbeats 2000000 in
theorem inside_live (w : World) : Calls Try.prog 21 #[.agg #[.int .i64 5, .int .i64 5], .agg #[.int .i64 3, .int .i64 3], .agg #[.int .i64 1, .int .i64 1], .agg #[.int .i64 1, .int .i64 1, .int .i64 1, .int .i64 1]] w fun e w' => e = .returned (.tuple #[.agg #[.int .i64 1, .int .i64 4, .int .i64 1, .int .i64 4], .bool true]) ∧ Below w.heap.size w w' := by
  go_enter Try.func21, Try.ntmps21
  go_wp2_with fail
  refine (out_live _).mono ?_
  rintro e w1 ⟨rfl, b1⟩
  have c00 : w1.cell? ⟨w.heap.size, 0, none⟩ = some (.int .i64 5) := (b1.cell (p := ⟨w.heap.size, 0, none⟩) (by first | (simp; done) | (simp; omega))).trans (by go_simp)
  have c01 : w1.cell? ⟨w.heap.size, 1, none⟩ = some (.int .i64 5) := (b1.cell (p := ⟨w.heap.size, 1, none⟩) (by first | (simp; done) | (simp; omega))).trans (by go_simp)
  have c10 : w1.cell? ⟨w.heap.size + 1, 0, none⟩ = some (.int .i64 3) := (b1.cell (p := ⟨w.heap.size + 1, 0, none⟩) (by first | (simp; done) | (simp; omega))).trans (by go_simp)
  have c11 : w1.cell? ⟨w.heap.size + 1, 1, none⟩ = some (.int .i64 3) := (b1.cell (p := ⟨w.heap.size + 1, 1, none⟩) (by first | (simp; done) | (simp; omega))).trans (by go_simp)
  have c20 : w1.cell? ⟨w.heap.size + 1 + 1, 0, none⟩ = some (.int .i64 1) := (b1.cell (p := ⟨w.heap.size + 1 + 1, 0, none⟩) (by first | (simp; done) | (simp; omega))).trans (by go_simp)
  have c21 : w1.cell? ⟨w.heap.size + 1 + 1, 1, none⟩ = some (.int .i64 1) := (b1.cell (p := ⟨w.heap.size + 1 + 1, 1, none⟩) (by first | (simp; done) | (simp; omega))).trans (by go_simp)
  have c30 : w1.cell? ⟨w.heap.size + 1 + 1 + 1, 0, none⟩ = some (.int .i64 1) := (b1.cell (p := ⟨w.heap.size + 1 + 1 + 1, 0, none⟩) (by first | (simp; done) | (simp; omega))).trans (by go_simp)
  have c31 : w1.cell? ⟨w.heap.size + 1 + 1 + 1, 1, none⟩ = some (.int .i64 1) := (b1.cell (p := ⟨w.heap.size + 1 + 1 + 1, 1, none⟩) (by first | (simp; done) | (simp; omega))).trans (by go_simp)
  have c32 : w1.cell? ⟨w.heap.size + 1 + 1 + 1, 2, none⟩ = some (.int .i64 1) := (b1.cell (p := ⟨w.heap.size + 1 + 1 + 1, 2, none⟩) (by first | (simp; done) | (simp; omega))).trans (by go_simp)
  have c33 : w1.cell? ⟨w.heap.size + 1 + 1 + 1, 3, none⟩ = some (.int .i64 1) := (b1.cell (p := ⟨w.heap.size + 1 + 1 + 1, 3, none⟩) (by first | (simp; done) | (simp; omega))).trans (by go_simp)
  have c40 : w1.cell? ⟨w.heap.size + 1 + 1 + 1 + 1, 0, none⟩ = some (.int .i64 0) := (b1.cell (p := ⟨w.heap.size + 1 + 1 + 1 + 1, 0, none⟩) (by first | (simp; done) | (simp; omega))).trans (by go_simp)
  have z0 : w1.frozen? ⟨w.heap.size + 1 + 1 + 1 + 1, 0, none⟩ = false := (b1.frozen (p := ⟨w.heap.size + 1 + 1 + 1 + 1, 0, none⟩) (by first | (simp; done) | (simp; omega))).trans (by go_simp)
  have c41 : w1.cell? ⟨w.heap.size + 1 + 1 + 1 + 1, 1, none⟩ = some (.int .i64 0) := (b1.cell (p := ⟨w.heap.size + 1 + 1 + 1 + 1, 1, none⟩) (by first | (simp; done) | (simp; omega))).trans (by go_simp)
  have z1 : w1.frozen? ⟨w.heap.size + 1 + 1 + 1 + 1, 1, none⟩ = false := (b1.frozen (p := ⟨w.heap.size + 1 + 1 + 1 + 1, 1, none⟩) (by first | (simp; done) | (simp; omega))).trans (by go_simp)
  have c42 : w1.cell? ⟨w.heap.size + 1 + 1 + 1 + 1, 2, none⟩ = some (.int .i64 0) := (b1.cell (p := ⟨w.heap.size + 1 + 1 + 1 + 1, 2, none⟩) (by first | (simp; done) | (simp; omega))).trans (by go_simp)
  have z2 : w1.frozen? ⟨w.heap.size + 1 + 1 + 1 + 1, 2, none⟩ = false := (b1.frozen (p := ⟨w.heap.size + 1 + 1 + 1 + 1, 2, none⟩) (by first | (simp; done) | (simp; omega))).trans (by go_simp)
  have c43 : w1.cell? ⟨w.heap.size + 1 + 1 + 1 + 1, 3, none⟩ = some (.int .i64 0) := (b1.cell (p := ⟨w.heap.size + 1 + 1 + 1 + 1, 3, none⟩) (by first | (simp; done) | (simp; omega))).trans (by go_simp)
  have z3 : w1.frozen? ⟨w.heap.size + 1 + 1 + 1 + 1, 3, none⟩ = false := (b1.frozen (p := ⟨w.heap.size + 1 + 1 + 1 + 1, 3, none⟩) (by first | (simp; done) | (simp; omega))).trans (by go_simp)
  have hz : w.heap.size + 1 + 1 + 1 + 1 < w1.heap.size := by have := b1.size; simp at this; omega
  have hz3 : w.heap.size + 1 + 1 + 1 < w1.heap.size := by omega
  have hz2 : w.heap.size + 1 + 1 < w1.heap.size := by omega
  have hz1 : w.heap.size + 1 < w1.heap.size := by omega
  have hz0 : w.heap.size < w1.heap.size := by omega
  have HB := Lib.hid (Below.trans (show Below w.heap.size w (((((w.alloc (.cells #[.int .i64 5, .int .i64 5] 22)).alloc (.cells #[.int .i64 3, .int .i64 3] 22)).alloc (.cells #[.int .i64 1, .int .i64 1] 22)).alloc (.cells #[.int .i64 1, .int .i64 1, .int .i64 1, .int .i64 1] 23)).alloc (.cells #[.int .i64 0, .int .i64 0, .int .i64 0, .int .i64 0] 23)) by go_grown) (b1.mono (by simp; omega)))
  clear b1
  go_wp2_with fail
  refine wp_loop_rounds 3 ?_
  rw [rounds_succ]
  go_wp2_with fail
  go_quiet ((go_at_call 49; exact Calls.quiet_of (whole_live _)))
  go_wp2_with fail
  rw [rounds_succ]
  go_wp2_with fail
  go_quiet ((go_at_call 49; exact Calls.quiet_of (whole_live _)))
  go_wp2_with fail
  generalize hW : World.setCell _ _ _ = W
  have hb : Below w1.heap.size w1 W := by
    rw [← hW]
    repeat' (first | (with_reducible refine below_drewN ?_ _) | (with_reducible refine Below.setCell ?_ ?_ _) | (with_reducible refine Below.alloc ?_ ?_ _) | (with_reducible exact Below.refl _ _) | go_size | (show w1.heap.size ≤ w1.heap.size + 1; omega))
  have i0 : W.cell? ⟨w1.heap.size + 1, 0, none⟩ = some (.int .i64 1) := by rw [← hW]; clear hW hb; go_simp
  have i1 : W.cell? ⟨w1.heap.size + 1, 1, none⟩ = some (.int .i64 4) := by rw [← hW]; clear hW hb; go_simp
  have i2 : W.cell? ⟨w1.heap.size + 1, 2, none⟩ = some (.int .i64 1) := by rw [← hW]; clear hW hb; go_simp
  have i3 : W.cell? ⟨w1.heap.size + 1, 3, none⟩ = some (.int .i64 4) := by rw [← hW]; clear hW hb; go_simp
  have r0 := (hb.cell (p := ⟨w.heap.size + 1 + 1 + 1 + 1, 0, none⟩) hz).trans c40
  have r1 := (hb.cell (p := ⟨w.heap.size + 1 + 1 + 1 + 1, 1, none⟩) hz).trans c41
  have r2 := (hb.cell (p := ⟨w.heap.size + 1 + 1 + 1 + 1, 2, none⟩) hz).trans c42
  have r3 := (hb.cell (p := ⟨w.heap.size + 1 + 1 + 1 + 1, 3, none⟩) hz).trans c43
  have y0 := (hb.frozen (p := ⟨w.heap.size + 1 + 1 + 1 + 1, 0, none⟩) hz).trans z0
  have y1 := (hb.frozen (p := ⟨w.heap.size + 1 + 1 + 1 + 1, 1, none⟩) hz).trans z1
  have y2 := (hb.frozen (p := ⟨w.heap.size + 1 + 1 + 1 + 1, 2, none⟩) hz).trans z2
  have y3 := (hb.frozen (p := ⟨w.heap.size + 1 + 1 + 1 + 1, 3, none⟩) hz).trans z3
  have HC := Lib.hid (HB.out.trans (hb.mono HB.out.size))
  clear hW hb c00 c01 c10 c11 c20 c21 c30 c31 c32 c33 c40 c41 c42 c43 z0 z1 z2 z3 hz hz0 hz1 hz2 hz3
  rw [rounds_succ]
  go_wp2_with fail
  exact bodyPost_ret (v := .tuple #[.agg #[.int .i64 1, .int .i64 4, .int .i64 1, .int .i64 4], .bool true]) (by simp [results, Try.results21, go_sem, r0, r1, r2, r3]) rfl ⟨rfl, (((HC.out.setCell (by show w.heap.size ≤ w.heap.size + 1 + 1 + 1 + 1; omega) _).setCell (by show w.heap.size ≤ w.heap.size + 1 + 1 + 1 + 1; omega) _).setCell (by show w.heap.size ≤ w.heap.size + 1 + 1 + 1 + 1; omega) _).setCell (by show w.heap.size ≤ w.heap.size + 1 + 1 + 1 + 1; omega) _⟩

end Go.Proofs.Ytgemajmimjkgcaa
