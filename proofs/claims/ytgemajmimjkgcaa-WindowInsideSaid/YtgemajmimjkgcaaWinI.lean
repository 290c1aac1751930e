/- Contract of window.Inside: for which outputs all of the kernel lies over the input. -/
import Derived.Test.YtgemajmimjkgcaaWinL
import Derived.Test.YtgemajmimjkgcaaTapsP
namespace Go.Proofs.Ytgemajmimjkgcaa
open Go Go.RowKit Pl
set_option linter.unusedVariables false

theorem ret_2i {a b c d : Int} (h : a = c) (g : b = d) : Ending.returned (.tuple #[.int .i64 a, .int .i64 b]) = .returned (.tuple #[.int .i64 c, .int .i64 d]) := by rw [h, g]
set_option maxHeartbeats 1000000 in
theorem whole_any (n k s p o : Int) (w : World) (hn : 1 ≤ n ∧ n ≤ 64) (hk : 1 ≤ k ∧ k ≤ 8) (hs : 1 ≤ s ∧ s ≤ 8) (hp : 0 ≤ p ∧ p ≤ 7) (ho : 1 ≤ o ∧ o ≤ 1001) :
    Calls Try.prog 49 #[.int .i64 n, .int .i64 k, .int .i64 s, .int .i64 p, .int .i64 o] w fun e w' => e = .returned (.tuple #[.int .i64 (fromW n k s p), .int .i64 (toW n k s p o)]) ∧ ∃ j, w' = w.drewN j := by
  by_cases h : n + p - k < 0
  · have E1 := Lib.hid (show fromW n k s p = 0 by unfold fromW; rw [if_pos h])
    have E2 := Lib.hid (show toW n k s p o = 0 by unfold toW; rw [if_pos h])
    go_enter Try.func49, Try.ntmps49
    go_wp2
    go_ret2
    exact ⟨ret_2i E1.out.symm E2.out.symm, 0, rfl⟩
  · have d1 := div_bd (x := p + s - 1) (s := s) (by omega) (by omega) hs.1
    have d2 := div_bd (x := n + p - k) (s := s) (by omega) (by omega) hs.1
    have E1 := Lib.hid (show fromW n k s p = (p + s - 1) / s by unfold fromW; rw [if_neg h])
    by_cases g : o ≤ (n + p - k) / s + 1
    · have E2 := Lib.hid (show toW n k s p o = o by unfold toW; rw [if_neg h, if_pos g])
      have hs0 : (s == 0) = false := by simp; omega
      have u1 := IntWalk.i64_in (p + s) (by omega)
      have u2 := IntWalk.i64_in (p + s - 1) (by omega)
      have u3 := IntWalk.i64_in ((n + p - k) / s + 1) (by omega)
      go_enter Try.func49, Try.ntmps49
      go_wp2
      go_quiet (fail)
      go_wp2
      go_ret2
      exact ⟨ret_2i E1.out.symm E2.out.symm, _, rfl⟩
    · have E2 := Lib.hid (show toW n k s p o = (n + p - k) / s + 1 by unfold toW; rw [if_neg h, if_neg g])
      have hs0 : (s == 0) = false := by simp; omega
      have u1 := IntWalk.i64_in (p + s) (by omega)
      have u2 := IntWalk.i64_in (p + s - 1) (by omega)
      have u3 := IntWalk.i64_in ((n + p - k) / s + 1) (by omega)
      go_enter Try.func49, Try.ntmps49
      go_wp2
      go_quiet (fail)
      go_wp2
      go_ret2
      exact ⟨ret_2i E1.out.symm E2.out.symm, _, rfl⟩
theorem toW_bd {n k s p o : Int} (hn : 1 ≤ n ∧ n ≤ 64) (hs : 1 ≤ s ∧ s ≤ 8) (hp : 0 ≤ p ∧ p ≤ 7) (hk : 1 ≤ k) (ho : 1 ≤ o ∧ o ≤ 1001) : (0 ≤ fromW n k s p ∧ fromW n k s p ≤ 1000) ∧ (0 ≤ toW n k s p o ∧ toW n k s p o ≤ o) := by
  have d1 := div_bd (x := p + s - 1) (s := s) (by omega) (by omega) hs.1
  unfold fromW toW
  by_cases h : n + p - k < 0
  · rw [if_pos h, if_pos h]; omega
  · have d2 := div_bd (x := n + p - k) (s := s) (by omega) (by omega) hs.1
    rw [if_neg h, if_neg h]
    split <;> omega

set_option maxRecDepth 100000 in
set_option maxHeartbeats 4000000 in
theorem ins_bad (n0 n1 k0 k1 s0 s1 p0 p1 q0 q1 : Int) (w : World) (hg : (gdW n0 k0 s0 p0 q0 && gdW n1 k1 s1 p1 q1) = false) :
    Calls Try.prog 21 #[.agg #[.int .i64 n0, .int .i64 n1], .agg #[.int .i64 k0, .int .i64 k1], .agg #[.int .i64 s0, .int .i64 s1], .agg #[.int .i64 p0, .int .i64 p1, .int .i64 q0, .int .i64 q1]] w fun e w' => e = .returned (.tuple #[.agg #[.int .i64 0, .int .i64 0, .int .i64 0, .int .i64 0], .bool false]) ∧ Below w.heap.size w w' := by
  have OA := Lib.hid (out_any n0 n1 k0 k1 s0 s1 p0 p1 q0 q1)
  have HG := Lib.hid hg
  clear hg
  go_enter Try.func21, Try.ntmps21
  go_wp2_with fail
  refine (OA.out _).mono ?_
  unfold OutP
  rw [HG.out]
  simp only [Bool.false_eq_true, if_false]
  rintro e w1 ⟨rfl, b1⟩
  have c40 : w1.cell? ⟨w.heap.size + 1 + 1 + 1 + 1, 0, none⟩ = some (.int .i64 0) := (b1.cell (p := ⟨w.heap.size + 1 + 1 + 1 + 1, 0, none⟩) (by first | (simp; done) | (simp; omega))).trans (by go_simp)
  have z0 : w1.frozen? ⟨w.heap.size + 1 + 1 + 1 + 1, 0, none⟩ = false := (b1.frozen (p := ⟨w.heap.size + 1 + 1 + 1 + 1, 0, none⟩) (by first | (simp; done) | (simp; omega))).trans (by go_simp)
  have c41 : w1.cell? ⟨w.heap.size + 1 + 1 + 1 + 1, 1, none⟩ = some (.int .i64 0) := (b1.cell (p := ⟨w.heap.size + 1 + 1 + 1 + 1, 1, none⟩) (by first | (simp; done) | (simp; omega))).trans (by go_simp)
  have z1 : w1.frozen? ⟨w.heap.size + 1 + 1 + 1 + 1, 1, none⟩ = false := (b1.frozen (p := ⟨w.heap.size + 1 + 1 + 1 + 1, 1, none⟩) (by first | (simp; done) | (simp; omega))).trans (by go_simp)
  have c42 : w1.cell? ⟨w.heap.size + 1 + 1 + 1 + 1, 2, none⟩ = some (.int .i64 0) := (b1.cell (p := ⟨w.heap.size + 1 + 1 + 1 + 1, 2, none⟩) (by first | (simp; done) | (simp; omega))).trans (by go_simp)
  have z2 : w1.frozen? ⟨w.heap.size + 1 + 1 + 1 + 1, 2, none⟩ = false := (b1.frozen (p := ⟨w.heap.size + 1 + 1 + 1 + 1, 2, none⟩) (by first | (simp; done) | (simp; omega))).trans (by go_simp)
  have c43 : w1.cell? ⟨w.heap.size + 1 + 1 + 1 + 1, 3, none⟩ = some (.int .i64 0) := (b1.cell (p := ⟨w.heap.size + 1 + 1 + 1 + 1, 3, none⟩) (by first | (simp; done) | (simp; omega))).trans (by go_simp)
  have z3 : w1.frozen? ⟨w.heap.size + 1 + 1 + 1 + 1, 3, none⟩ = false := (b1.frozen (p := ⟨w.heap.size + 1 + 1 + 1 + 1, 3, none⟩) (by first | (simp; done) | (simp; omega))).trans (by go_simp)
  have hz4 : w.heap.size + 1 + 1 + 1 + 1 < w1.heap.size := by have := b1.size; simp at this; omega
  have hz3 : w.heap.size + 1 + 1 + 1 < w1.heap.size := by omega
  have hz2 : w.heap.size + 1 + 1 < w1.heap.size := by omega
  have hz1 : w.heap.size + 1 < w1.heap.size := by omega
  have hz0 : w.heap.size < w1.heap.size := by omega
  have HB := Lib.hid (Below.trans (show Below w.heap.size w (((((w.alloc (.cells #[.int .i64 n0, .int .i64 n1] 22)).alloc (.cells #[.int .i64 k0, .int .i64 k1] 22)).alloc (.cells #[.int .i64 s0, .int .i64 s1] 22)).alloc (.cells #[.int .i64 p0, .int .i64 p1, .int .i64 q0, .int .i64 q1] 23)).alloc (.cells #[.int .i64 0, .int .i64 0, .int .i64 0, .int .i64 0] 23)) by go_grown) (b1.mono (by simp; omega)))
  clear b1
  have hle : w.heap.size ≤ w1.heap.size := by omega
  go_wp2_with fail
  exact bodyPost_ret (v := .tuple #[.agg #[.int .i64 0, .int .i64 0, .int .i64 0, .int .i64 0], .bool false]) (by simp [results, Try.results21, go_sem, c40, c41, c42, c43, hz4]) rfl ⟨rfl, by
    have HX := HB.out
    repeat' (first | (with_reducible refine Below.setCell ?_ ?_ _) | (with_reducible refine Below.alloc ?_ ?_ _) | (with_reducible exact HX) | go_size | (show w.heap.size ≤ w.heap.size + 1 + 1 + 1 + 1; omega) | assumption)⟩
set_option maxRecDepth 100000 in
set_option maxHeartbeats 4000000 in
theorem ins_z0 (n0 n1 k0 k1 s0 s1 p0 p1 q0 q1 : Int) (w : World) (g0 : gdW n0 k0 s0 p0 q0 = true) (g1 : gdW n1 k1 s1 p1 q1 = true) (hz : toW n0 k0 s0 p0 (odW n0 k0 s0 p0 q0) ≤ fromW n0 k0 s0 p0) :
    Calls Try.prog 21 #[.agg #[.int .i64 n0, .int .i64 n1], .agg #[.int .i64 k0, .int .i64 k1], .agg #[.int .i64 s0, .int .i64 s1], .agg #[.int .i64 p0, .int .i64 p1, .int .i64 q0, .int .i64 q1]] w fun e w' => e = .returned (.tuple #[.agg #[.int .i64 0, .int .i64 0, .int .i64 0, .int .i64 0], .bool true]) ∧ Below w.heap.size w w' := by
  have OA := Lib.hid (out_any n0 n1 k0 k1 s0 s1 p0 p1 q0 q1)
  have HG := Lib.hid (show (gdW n0 k0 s0 p0 q0 && gdW n1 k1 s1 p1 q1) = true by rw [g0, g1]; rfl)
  have x0 := od_bd g0
  have f0 := gdW_o g0
  have WH0 := Lib.hid (whole_any n0 k0 s0 p0 (odW n0 k0 s0 p0 q0) · (by omega) (by omega) (by omega) (by omega) x0)
  have tb0 := toW_bd (n := n0) (k := k0) (s := s0) (p := p0) (o := odW n0 k0 s0 p0 q0) (by omega) (by omega) (by omega) (by omega) x0
  generalize odW n0 k0 s0 p0 q0 = D0 at *
  generalize fromW n0 k0 s0 p0 = F0 at *
  generalize toW n0 k0 s0 p0 D0 = T0 at *
  have x1 := od_bd g1
  have f1 := gdW_o g1
  have WH1 := Lib.hid (whole_any n1 k1 s1 p1 (odW n1 k1 s1 p1 q1) · (by omega) (by omega) (by omega) (by omega) x1)
  have tb1 := toW_bd (n := n1) (k := k1) (s := s1) (p := p1) (o := odW n1 k1 s1 p1 q1) (by omega) (by omega) (by omega) (by omega) x1
  generalize odW n1 k1 s1 p1 q1 = D1 at *
  generalize fromW n1 k1 s1 p1 = F1 at *
  generalize toW n1 k1 s1 p1 D1 = T1 at *
  have t0 : decide (T0 ≤ F0) = true := by simp; omega
  clear g0 g1 f0 f1
  go_enter Try.func21, Try.ntmps21
  go_wp2_with fail
  refine (OA.out _).mono ?_
  unfold OutP
  rw [HG.out]
  simp only [if_true]
  rintro e w1 ⟨rfl, b1⟩
  have c00 : w1.cell? ⟨w.heap.size, 0, none⟩ = some (.int .i64 n0) := (b1.cell (p := ⟨w.heap.size, 0, none⟩) (by first | (simp; done) | (simp; omega))).trans (by go_simp)
  have c01 : w1.cell? ⟨w.heap.size, 1, none⟩ = some (.int .i64 n1) := (b1.cell (p := ⟨w.heap.size, 1, none⟩) (by first | (simp; done) | (simp; omega))).trans (by go_simp)
  have c10 : w1.cell? ⟨w.heap.size + 1, 0, none⟩ = some (.int .i64 k0) := (b1.cell (p := ⟨w.heap.size + 1, 0, none⟩) (by first | (simp; done) | (simp; omega))).trans (by go_simp)
  have c11 : w1.cell? ⟨w.heap.size + 1, 1, none⟩ = some (.int .i64 k1) := (b1.cell (p := ⟨w.heap.size + 1, 1, none⟩) (by first | (simp; done) | (simp; omega))).trans (by go_simp)
  have c20 : w1.cell? ⟨w.heap.size + 1 + 1, 0, none⟩ = some (.int .i64 s0) := (b1.cell (p := ⟨w.heap.size + 1 + 1, 0, none⟩) (by first | (simp; done) | (simp; omega))).trans (by go_simp)
  have c21 : w1.cell? ⟨w.heap.size + 1 + 1, 1, none⟩ = some (.int .i64 s1) := (b1.cell (p := ⟨w.heap.size + 1 + 1, 1, none⟩) (by first | (simp; done) | (simp; omega))).trans (by go_simp)
  have c30 : w1.cell? ⟨w.heap.size + 1 + 1 + 1, 0, none⟩ = some (.int .i64 p0) := (b1.cell (p := ⟨w.heap.size + 1 + 1 + 1, 0, none⟩) (by first | (simp; done) | (simp; omega))).trans (by go_simp)
  have c31 : w1.cell? ⟨w.heap.size + 1 + 1 + 1, 1, none⟩ = some (.int .i64 p1) := (b1.cell (p := ⟨w.heap.size + 1 + 1 + 1, 1, none⟩) (by first | (simp; done) | (simp; omega))).trans (by go_simp)
  have c32 : w1.cell? ⟨w.heap.size + 1 + 1 + 1, 2, none⟩ = some (.int .i64 q0) := (b1.cell (p := ⟨w.heap.size + 1 + 1 + 1, 2, none⟩) (by first | (simp; done) | (simp; omega))).trans (by go_simp)
  have c33 : w1.cell? ⟨w.heap.size + 1 + 1 + 1, 3, none⟩ = some (.int .i64 q1) := (b1.cell (p := ⟨w.heap.size + 1 + 1 + 1, 3, none⟩) (by first | (simp; done) | (simp; omega))).trans (by go_simp)
  have c40 : w1.cell? ⟨w.heap.size + 1 + 1 + 1 + 1, 0, none⟩ = some (.int .i64 0) := (b1.cell (p := ⟨w.heap.size + 1 + 1 + 1 + 1, 0, none⟩) (by first | (simp; done) | (simp; omega))).trans (by go_simp)
  have z0 : w1.frozen? ⟨w.heap.size + 1 + 1 + 1 + 1, 0, none⟩ = false := (b1.frozen (p := ⟨w.heap.size + 1 + 1 + 1 + 1, 0, none⟩) (by first | (simp; done) | (simp; omega))).trans (by go_simp)
  have c41 : w1.cell? ⟨w.heap.size + 1 + 1 + 1 + 1, 1, none⟩ = some (.int .i64 0) := (b1.cell (p := ⟨w.heap.size + 1 + 1 + 1 + 1, 1, none⟩) (by first | (simp; done) | (simp; omega))).trans (by go_simp)
  have z1 : w1.frozen? ⟨w.heap.size + 1 + 1 + 1 + 1, 1, none⟩ = false := (b1.frozen (p := ⟨w.heap.size + 1 + 1 + 1 + 1, 1, none⟩) (by first | (simp; done) | (simp; omega))).trans (by go_simp)
  have c42 : w1.cell? ⟨w.heap.size + 1 + 1 + 1 + 1, 2, none⟩ = some (.int .i64 0) := (b1.cell (p := ⟨w.heap.size + 1 + 1 + 1 + 1, 2, none⟩) (by first | (simp; done) | (simp; omega))).trans (by go_simp)
  have z2 : w1.frozen? ⟨w.heap.size + 1 + 1 + 1 + 1, 2, none⟩ = false := (b1.frozen (p := ⟨w.heap.size + 1 + 1 + 1 + 1, 2, none⟩) (by first | (simp; done) | (simp; omega))).trans (by go_simp)
  have c43 : w1.cell? ⟨w.heap.size + 1 + 1 + 1 + 1, 3, none⟩ = some (.int .i64 0) := (b1.cell (p := ⟨w.heap.size + 1 + 1 + 1 + 1, 3, none⟩) (by first | (simp; done) | (simp; omega))).trans (by go_simp)
  have z3 : w1.frozen? ⟨w.heap.size + 1 + 1 + 1 + 1, 3, none⟩ = false := (b1.frozen (p := ⟨w.heap.size + 1 + 1 + 1 + 1, 3, none⟩) (by first | (simp; done) | (simp; omega))).trans (by go_simp)
  have hz4 : w.heap.size + 1 + 1 + 1 + 1 < w1.heap.size := by have := b1.size; simp at this; omega
  have hz3 : w.heap.size + 1 + 1 + 1 < w1.heap.size := by omega
  have hz2 : w.heap.size + 1 + 1 < w1.heap.size := by omega
  have hz1 : w.heap.size + 1 < w1.heap.size := by omega
  have hz0 : w.heap.size < w1.heap.size := by omega
  have HB := Lib.hid (Below.trans (show Below w.heap.size w (((((w.alloc (.cells #[.int .i64 n0, .int .i64 n1] 22)).alloc (.cells #[.int .i64 k0, .int .i64 k1] 22)).alloc (.cells #[.int .i64 s0, .int .i64 s1] 22)).alloc (.cells #[.int .i64 p0, .int .i64 p1, .int .i64 q0, .int .i64 q1] 23)).alloc (.cells #[.int .i64 0, .int .i64 0, .int .i64 0, .int .i64 0] 23)) by go_grown) (b1.mono (by simp; omega)))
  clear b1
  go_wp2_with fail
  refine wp_loop_rounds 3 ?_
  rw [rounds_succ]
  go_wp2_with fail
  go_quiet ((go_at_call 49; exact Calls.quiet_of (WH0.out _)))
  generalize hW : World.drewN _ nq = W
  have hb : Below w1.heap.size w1 W := by
    rw [← hW]
    repeat' (first | (with_reducible refine below_drewN ?_ _) | (with_reducible refine Below.setCell ?_ ?_ _) | (with_reducible refine Below.alloc ?_ ?_ _) | (with_reducible exact Below.refl _ _) | go_size | (show w1.heap.size ≤ w1.heap.size + 1; omega))
  have r0 := (hb.cell (p := ⟨w.heap.size + 1 + 1 + 1 + 1, 0, none⟩) hz4).trans c40
  have r1 := (hb.cell (p := ⟨w.heap.size + 1 + 1 + 1 + 1, 1, none⟩) hz4).trans c41
  have r2 := (hb.cell (p := ⟨w.heap.size + 1 + 1 + 1 + 1, 2, none⟩) hz4).trans c42
  have r3 := (hb.cell (p := ⟨w.heap.size + 1 + 1 + 1 + 1, 3, none⟩) hz4).trans c43
  have y0 := (hb.frozen (p := ⟨w.heap.size + 1 + 1 + 1 + 1, 0, none⟩) hz4).trans z0
  have y1 := (hb.frozen (p := ⟨w.heap.size + 1 + 1 + 1 + 1, 1, none⟩) hz4).trans z1
  have y2 := (hb.frozen (p := ⟨w.heap.size + 1 + 1 + 1 + 1, 2, none⟩) hz4).trans z2
  have y3 := (hb.frozen (p := ⟨w.heap.size + 1 + 1 + 1 + 1, 3, none⟩) hz4).trans z3
  have HC := Lib.hid (HB.out.trans (hb.mono HB.out.size))
  clear hW hb c00 c01 c10 c11 c20 c21 c30 c31 c32 c33 c40 c41 c42 c43 z0 z1 z2 z3 hz0 hz1 hz2 hz3 hz4
  go_wp2_with fail
  exact bodyPost_ret (v := .tuple #[.agg #[.int .i64 0, .int .i64 0, .int .i64 0, .int .i64 0], .bool true]) (by simp [results, Try.results21, go_sem, r0, r1, r2, r3]) rfl ⟨rfl, (((HC.out.setCell (by show w.heap.size ≤ w.heap.size + 1 + 1 + 1 + 1; omega) _).setCell (by show w.heap.size ≤ w.heap.size + 1 + 1 + 1 + 1; omega) _).setCell (by show w.heap.size ≤ w.heap.size + 1 + 1 + 1 + 1; omega) _).setCell (by show w.heap.size ≤ w.heap.size + 1 + 1 + 1 + 1; omega) _⟩
set_option maxRecDepth 100000 in
set_option maxHeartbeats 4000000 in
theorem ins_z1 (n0 n1 k0 k1 s0 s1 p0 p1 q0 q1 : Int) (w : World) (g0 : gdW n0 k0 s0 p0 q0 = true) (g1 : gdW n1 k1 s1 p1 q1 = true) (hy : fromW n0 k0 s0 p0 < toW n0 k0 s0 p0 (odW n0 k0 s0 p0 q0)) (hz : toW n1 k1 s1 p1 (odW n1 k1 s1 p1 q1) ≤ fromW n1 k1 s1 p1) :
    Calls Try.prog 21 #[.agg #[.int .i64 n0, .int .i64 n1], .agg #[.int .i64 k0, .int .i64 k1], .agg #[.int .i64 s0, .int .i64 s1], .agg #[.int .i64 p0, .int .i64 p1, .int .i64 q0, .int .i64 q1]] w fun e w' => e = .returned (.tuple #[.agg #[.int .i64 0, .int .i64 0, .int .i64 0, .int .i64 0], .bool true]) ∧ Below w.heap.size w w' := by
  have OA := Lib.hid (out_any n0 n1 k0 k1 s0 s1 p0 p1 q0 q1)
  have HG := Lib.hid (show (gdW n0 k0 s0 p0 q0 && gdW n1 k1 s1 p1 q1) = true by rw [g0, g1]; rfl)
  have x0 := od_bd g0
  have f0 := gdW_o g0
  have WH0 := Lib.hid (whole_any n0 k0 s0 p0 (odW n0 k0 s0 p0 q0) · (by omega) (by omega) (by omega) (by omega) x0)
  have tb0 := toW_bd (n := n0) (k := k0) (s := s0) (p := p0) (o := odW n0 k0 s0 p0 q0) (by omega) (by omega) (by omega) (by omega) x0
  generalize odW n0 k0 s0 p0 q0 = D0 at *
  generalize fromW n0 k0 s0 p0 = F0 at *
  generalize toW n0 k0 s0 p0 D0 = T0 at *
  have x1 := od_bd g1
  have f1 := gdW_o g1
  have WH1 := Lib.hid (whole_any n1 k1 s1 p1 (odW n1 k1 s1 p1 q1) · (by omega) (by omega) (by omega) (by omega) x1)
  have tb1 := toW_bd (n := n1) (k := k1) (s := s1) (p := p1) (o := odW n1 k1 s1 p1 q1) (by omega) (by omega) (by omega) (by omega) x1
  generalize odW n1 k1 s1 p1 q1 = D1 at *
  generalize fromW n1 k1 s1 p1 = F1 at *
  generalize toW n1 k1 s1 p1 D1 = T1 at *
  have t0 : decide (T0 ≤ F0) = false := by simp; omega
  have t1 : decide (T1 ≤ F1) = true := by simp; omega
  clear g0 g1 f0 f1
  go_enter Try.func21, Try.ntmps21
  go_wp2_with fail
  refine (OA.out _).mono ?_
  unfold OutP
  rw [HG.out]
  simp only [if_true]
  rintro e w1 ⟨rfl, b1⟩
  have c00 : w1.cell? ⟨w.heap.size, 0, none⟩ = some (.int .i64 n0) := (b1.cell (p := ⟨w.heap.size, 0, none⟩) (by first | (simp; done) | (simp; omega))).trans (by go_simp)
  have c01 : w1.cell? ⟨w.heap.size, 1, none⟩ = some (.int .i64 n1) := (b1.cell (p := ⟨w.heap.size, 1, none⟩) (by first | (simp; done) | (simp; omega))).trans (by go_simp)
  have c10 : w1.cell? ⟨w.heap.size + 1, 0, none⟩ = some (.int .i64 k0) := (b1.cell (p := ⟨w.heap.size + 1, 0, none⟩) (by first | (simp; done) | (simp; omega))).trans (by go_simp)
  have c11 : w1.cell? ⟨w.heap.size + 1, 1, none⟩ = some (.int .i64 k1) := (b1.cell (p := ⟨w.heap.size + 1, 1, none⟩) (by first | (simp; done) | (simp; omega))).trans (by go_simp)
  have c20 : w1.cell? ⟨w.heap.size + 1 + 1, 0, none⟩ = some (.int .i64 s0) := (b1.cell (p := ⟨w.heap.size + 1 + 1, 0, none⟩) (by first | (simp; done) | (simp; omega))).trans (by go_simp)
  have c21 : w1.cell? ⟨w.heap.size + 1 + 1, 1, none⟩ = some (.int .i64 s1) := (b1.cell (p := ⟨w.heap.size + 1 + 1, 1, none⟩) (by first | (simp; done) | (simp; omega))).trans (by go_simp)
  have c30 : w1.cell? ⟨w.heap.size + 1 + 1 + 1, 0, none⟩ = some (.int .i64 p0) := (b1.cell (p := ⟨w.heap.size + 1 + 1 + 1, 0, none⟩) (by first | (simp; done) | (simp; omega))).trans (by go_simp)
  have c31 : w1.cell? ⟨w.heap.size + 1 + 1 + 1, 1, none⟩ = some (.int .i64 p1) := (b1.cell (p := ⟨w.heap.size + 1 + 1 + 1, 1, none⟩) (by first | (simp; done) | (simp; omega))).trans (by go_simp)
  have c32 : w1.cell? ⟨w.heap.size + 1 + 1 + 1, 2, none⟩ = some (.int .i64 q0) := (b1.cell (p := ⟨w.heap.size + 1 + 1 + 1, 2, none⟩) (by first | (simp; done) | (simp; omega))).trans (by go_simp)
  have c33 : w1.cell? ⟨w.heap.size + 1 + 1 + 1, 3, none⟩ = some (.int .i64 q1) := (b1.cell (p := ⟨w.heap.size + 1 + 1 + 1, 3, none⟩) (by first | (simp; done) | (simp; omega))).trans (by go_simp)
  have c40 : w1.cell? ⟨w.heap.size + 1 + 1 + 1 + 1, 0, none⟩ = some (.int .i64 0) := (b1.cell (p := ⟨w.heap.size + 1 + 1 + 1 + 1, 0, none⟩) (by first | (simp; done) | (simp; omega))).trans (by go_simp)
  have z0 : w1.frozen? ⟨w.heap.size + 1 + 1 + 1 + 1, 0, none⟩ = false := (b1.frozen (p := ⟨w.heap.size + 1 + 1 + 1 + 1, 0, none⟩) (by first | (simp; done) | (simp; omega))).trans (by go_simp)
  have c41 : w1.cell? ⟨w.heap.size + 1 + 1 + 1 + 1, 1, none⟩ = some (.int .i64 0) := (b1.cell (p := ⟨w.heap.size + 1 + 1 + 1 + 1, 1, none⟩) (by first | (simp; done) | (simp; omega))).trans (by go_simp)
  have z1 : w1.frozen? ⟨w.heap.size + 1 + 1 + 1 + 1, 1, none⟩ = false := (b1.frozen (p := ⟨w.heap.size + 1 + 1 + 1 + 1, 1, none⟩) (by first | (simp; done) | (simp; omega))).trans (by go_simp)
  have c42 : w1.cell? ⟨w.heap.size + 1 + 1 + 1 + 1, 2, none⟩ = some (.int .i64 0) := (b1.cell (p := ⟨w.heap.size + 1 + 1 + 1 + 1, 2, none⟩) (by first | (simp; done) | (simp; omega))).trans (by go_simp)
  have z2 : w1.frozen? ⟨w.heap.size + 1 + 1 + 1 + 1, 2, none⟩ = false := (b1.frozen (p := ⟨w.heap.size + 1 + 1 + 1 + 1, 2, none⟩) (by first | (simp; done) | (simp; omega))).trans (by go_simp)
  have c43 : w1.cell? ⟨w.heap.size + 1 + 1 + 1 + 1, 3, none⟩ = some (.int .i64 0) := (b1.cell (p := ⟨w.heap.size + 1 + 1 + 1 + 1, 3, none⟩) (by first | (simp; done) | (simp; omega))).trans (by go_simp)
  have z3 : w1.frozen? ⟨w.heap.size + 1 + 1 + 1 + 1, 3, none⟩ = false := (b1.frozen (p := ⟨w.heap.size + 1 + 1 + 1 + 1, 3, none⟩) (by first | (simp; done) | (simp; omega))).trans (by go_simp)
  have hz4 : w.heap.size + 1 + 1 + 1 + 1 < w1.heap.size := by have := b1.size; simp at this; omega
  have hz3 : w.heap.size + 1 + 1 + 1 < w1.heap.size := by omega
  have hz2 : w.heap.size + 1 + 1 < w1.heap.size := by omega
  have hz1 : w.heap.size + 1 < w1.heap.size := by omega
  have hz0 : w.heap.size < w1.heap.size := by omega
  have HB := Lib.hid (Below.trans (show Below w.heap.size w (((((w.alloc (.cells #[.int .i64 n0, .int .i64 n1] 22)).alloc (.cells #[.int .i64 k0, .int .i64 k1] 22)).alloc (.cells #[.int .i64 s0, .int .i64 s1] 22)).alloc (.cells #[.int .i64 p0, .int .i64 p1, .int .i64 q0, .int .i64 q1] 23)).alloc (.cells #[.int .i64 0, .int .i64 0, .int .i64 0, .int .i64 0] 23)) by go_grown) (b1.mono (by simp; omega)))
  clear b1
  go_wp2_with fail
  refine wp_loop_rounds 3 ?_
  rw [rounds_succ]
  go_wp2_with fail
  go_quiet ((go_at_call 49; exact Calls.quiet_of (WH0.out _)))
  go_wp2_with fail
  rw [rounds_succ]
  go_wp2_with fail
  go_quiet ((go_at_call 49; exact Calls.quiet_of (WH1.out _)))
  generalize hW : World.drewN _ nq = W
  have hb : Below w1.heap.size w1 W := by
    rw [← hW]
    repeat' (first | (with_reducible refine below_drewN ?_ _) | (with_reducible refine Below.setCell ?_ ?_ _) | (with_reducible refine Below.alloc ?_ ?_ _) | (with_reducible exact Below.refl _ _) | go_size | (show w1.heap.size ≤ w1.heap.size + 1; omega))
  have r0 := (hb.cell (p := ⟨w.heap.size + 1 + 1 + 1 + 1, 0, none⟩) hz4).trans c40
  have r1 := (hb.cell (p := ⟨w.heap.size + 1 + 1 + 1 + 1, 1, none⟩) hz4).trans c41
  have r2 := (hb.cell (p := ⟨w.heap.size + 1 + 1 + 1 + 1, 2, none⟩) hz4).trans c42
  have r3 := (hb.cell (p := ⟨w.heap.size + 1 + 1 + 1 + 1, 3, none⟩) hz4).trans c43
  have y0 := (hb.frozen (p := ⟨w.heap.size + 1 + 1 + 1 + 1, 0, none⟩) hz4).trans z0
  have y1 := (hb.frozen (p := ⟨w.heap.size + 1 + 1 + 1 + 1, 1, none⟩) hz4).trans z1
  have y2 := (hb.frozen (p := ⟨w.heap.size + 1 + 1 + 1 + 1, 2, none⟩) hz4).trans z2
  have y3 := (hb.frozen (p := ⟨w.heap.size + 1 + 1 + 1 + 1, 3, none⟩) hz4).trans z3
  have HC := Lib.hid (HB.out.trans (hb.mono HB.out.size))
  clear hW hb c00 c01 c10 c11 c20 c21 c30 c31 c32 c33 c40 c41 c42 c43 z0 z1 z2 z3 hz0 hz1 hz2 hz3 hz4
  go_wp2_with fail
  exact bodyPost_ret (v := .tuple #[.agg #[.int .i64 0, .int .i64 0, .int .i64 0, .int .i64 0], .bool true]) (by simp [results, Try.results21, go_sem, r0, r1, r2, r3]) rfl ⟨rfl, (((HC.out.setCell (by show w.heap.size ≤ w.heap.size + 1 + 1 + 1 + 1; omega) _).setCell (by show w.heap.size ≤ w.heap.size + 1 + 1 + 1 + 1; omega) _).setCell (by show w.heap.size ≤ w.heap.size + 1 + 1 + 1 + 1; omega) _).setCell (by show w.heap.size ≤ w.heap.size + 1 + 1 + 1 + 1; omega) _⟩
set_option maxRecDepth 100000 in
set_option maxHeartbeats 4000000 in
theorem ins_ok (n0 n1 k0 k1 s0 s1 p0 p1 q0 q1 : Int) (w : World) (g0 : gdW n0 k0 s0 p0 q0 = true) (g1 : gdW n1 k1 s1 p1 q1 = true) (hy : fromW n0 k0 s0 p0 < toW n0 k0 s0 p0 (odW n0 k0 s0 p0 q0)) (hz : fromW n1 k1 s1 p1 < toW n1 k1 s1 p1 (odW n1 k1 s1 p1 q1)) :
    Calls Try.prog 21 #[.agg #[.int .i64 n0, .int .i64 n1], .agg #[.int .i64 k0, .int .i64 k1], .agg #[.int .i64 s0, .int .i64 s1], .agg #[.int .i64 p0, .int .i64 p1, .int .i64 q0, .int .i64 q1]] w fun e w' => e = .returned (.tuple #[.agg #[.int .i64 (fromW n0 k0 s0 p0), .int .i64 (toW n0 k0 s0 p0 (odW n0 k0 s0 p0 q0)), .int .i64 (fromW n1 k1 s1 p1), .int .i64 (toW n1 k1 s1 p1 (odW n1 k1 s1 p1 q1))], .bool true]) ∧ Below w.heap.size w w' := by
  have OA := Lib.hid (out_any n0 n1 k0 k1 s0 s1 p0 p1 q0 q1)
  have HG := Lib.hid (show (gdW n0 k0 s0 p0 q0 && gdW n1 k1 s1 p1 q1) = true by rw [g0, g1]; rfl)
  have x0 := od_bd g0
  have f0 := gdW_o g0
  have WH0 := Lib.hid (whole_any n0 k0 s0 p0 (odW n0 k0 s0 p0 q0) · (by omega) (by omega) (by omega) (by omega) x0)
  have tb0 := toW_bd (n := n0) (k := k0) (s := s0) (p := p0) (o := odW n0 k0 s0 p0 q0) (by omega) (by omega) (by omega) (by omega) x0
  generalize odW n0 k0 s0 p0 q0 = D0 at *
  generalize fromW n0 k0 s0 p0 = F0 at *
  generalize toW n0 k0 s0 p0 D0 = T0 at *
  have x1 := od_bd g1
  have f1 := gdW_o g1
  have WH1 := Lib.hid (whole_any n1 k1 s1 p1 (odW n1 k1 s1 p1 q1) · (by omega) (by omega) (by omega) (by omega) x1)
  have tb1 := toW_bd (n := n1) (k := k1) (s := s1) (p := p1) (o := odW n1 k1 s1 p1 q1) (by omega) (by omega) (by omega) (by omega) x1
  generalize odW n1 k1 s1 p1 q1 = D1 at *
  generalize fromW n1 k1 s1 p1 = F1 at *
  generalize toW n1 k1 s1 p1 D1 = T1 at *
  have t0 : decide (T0 ≤ F0) = false := by simp; omega
  have t1 : decide (T1 ≤ F1) = false := by simp; omega
  clear g0 g1 f0 f1
  go_enter Try.func21, Try.ntmps21
  go_wp2_with fail
  refine (OA.out _).mono ?_
  unfold OutP
  rw [HG.out]
  simp only [if_true]
  rintro e w1 ⟨rfl, b1⟩
  have c00 : w1.cell? ⟨w.heap.size, 0, none⟩ = some (.int .i64 n0) := (b1.cell (p := ⟨w.heap.size, 0, none⟩) (by first | (simp; done) | (simp; omega))).trans (by go_simp)
  have c01 : w1.cell? ⟨w.heap.size, 1, none⟩ = some (.int .i64 n1) := (b1.cell (p := ⟨w.heap.size, 1, none⟩) (by first | (simp; done) | (simp; omega))).trans (by go_simp)
  have c10 : w1.cell? ⟨w.heap.size + 1, 0, none⟩ = some (.int .i64 k0) := (b1.cell (p := ⟨w.heap.size + 1, 0, none⟩) (by first | (simp; done) | (simp; omega))).trans (by go_simp)
  have c11 : w1.cell? ⟨w.heap.size + 1, 1, none⟩ = some (.int .i64 k1) := (b1.cell (p := ⟨w.heap.size + 1, 1, none⟩) (by first | (simp; done) | (simp; omega))).trans (by go_simp)
  have c20 : w1.cell? ⟨w.heap.size + 1 + 1, 0, none⟩ = some (.int .i64 s0) := (b1.cell (p := ⟨w.heap.size + 1 + 1, 0, none⟩) (by first | (simp; done) | (simp; omega))).trans (by go_simp)
  have c21 : w1.cell? ⟨w.heap.size + 1 + 1, 1, none⟩ = some (.int .i64 s1) := (b1.cell (p := ⟨w.heap.size + 1 + 1, 1, none⟩) (by first | (simp; done) | (simp; omega))).trans (by go_simp)
  have c30 : w1.cell? ⟨w.heap.size + 1 + 1 + 1, 0, none⟩ = some (.int .i64 p0) := (b1.cell (p := ⟨w.heap.size + 1 + 1 + 1, 0, none⟩) (by first | (simp; done) | (simp; omega))).trans (by go_simp)
  have c31 : w1.cell? ⟨w.heap.size + 1 + 1 + 1, 1, none⟩ = some (.int .i64 p1) := (b1.cell (p := ⟨w.heap.size + 1 + 1 + 1, 1, none⟩) (by first | (simp; done) | (simp; omega))).trans (by go_simp)
  have c32 : w1.cell? ⟨w.heap.size + 1 + 1 + 1, 2, none⟩ = some (.int .i64 q0) := (b1.cell (p := ⟨w.heap.size + 1 + 1 + 1, 2, none⟩) (by first | (simp; done) | (simp; omega))).trans (by go_simp)
  have c33 : w1.cell? ⟨w.heap.size + 1 + 1 + 1, 3, none⟩ = some (.int .i64 q1) := (b1.cell (p := ⟨w.heap.size + 1 + 1 + 1, 3, none⟩) (by first | (simp; done) | (simp; omega))).trans (by go_simp)
  have c40 : w1.cell? ⟨w.heap.size + 1 + 1 + 1 + 1, 0, none⟩ = some (.int .i64 0) := (b1.cell (p := ⟨w.heap.size + 1 + 1 + 1 + 1, 0, none⟩) (by first | (simp; done) | (simp; omega))).trans (by go_simp)
  have z0 : w1.frozen? ⟨w.heap.size + 1 + 1 + 1 + 1, 0, none⟩ = false := (b1.frozen (p := ⟨w.heap.size + 1 + 1 + 1 + 1, 0, none⟩) (by first | (simp; done) | (simp; omega))).trans (by go_simp)
  have c41 : w1.cell? ⟨w.heap.size + 1 + 1 + 1 + 1, 1, none⟩ = some (.int .i64 0) := (b1.cell (p := ⟨w.heap.size + 1 + 1 + 1 + 1, 1, none⟩) (by first | (simp; done) | (simp; omega))).trans (by go_simp)
  have z1 : w1.frozen? ⟨w.heap.size + 1 + 1 + 1 + 1, 1, none⟩ = false := (b1.frozen (p := ⟨w.heap.size + 1 + 1 + 1 + 1, 1, none⟩) (by first | (simp; done) | (simp; omega))).trans (by go_simp)
  have c42 : w1.cell? ⟨w.heap.size + 1 + 1 + 1 + 1, 2, none⟩ = some (.int .i64 0) := (b1.cell (p := ⟨w.heap.size + 1 + 1 + 1 + 1, 2, none⟩) (by first | (simp; done) | (simp; omega))).trans (by go_simp)
  have z2 : w1.frozen? ⟨w.heap.size + 1 + 1 + 1 + 1, 2, none⟩ = false := (b1.frozen (p := ⟨w.heap.size + 1 + 1 + 1 + 1, 2, none⟩) (by first | (simp; done) | (simp; omega))).trans (by go_simp)
  have c43 : w1.cell? ⟨w.heap.size + 1 + 1 + 1 + 1, 3, none⟩ = some (.int .i64 0) := (b1.cell (p := ⟨w.heap.size + 1 + 1 + 1 + 1, 3, none⟩) (by first | (simp; done) | (simp; omega))).trans (by go_simp)
  have z3 : w1.frozen? ⟨w.heap.size + 1 + 1 + 1 + 1, 3, none⟩ = false := (b1.frozen (p := ⟨w.heap.size + 1 + 1 + 1 + 1, 3, none⟩) (by first | (simp; done) | (simp; omega))).trans (by go_simp)
  have hz4 : w.heap.size + 1 + 1 + 1 + 1 < w1.heap.size := by have := b1.size; simp at this; omega
  have hz3 : w.heap.size + 1 + 1 + 1 < w1.heap.size := by omega
  have hz2 : w.heap.size + 1 + 1 < w1.heap.size := by omega
  have hz1 : w.heap.size + 1 < w1.heap.size := by omega
  have hz0 : w.heap.size < w1.heap.size := by omega
  have HB := Lib.hid (Below.trans (show Below w.heap.size w (((((w.alloc (.cells #[.int .i64 n0, .int .i64 n1] 22)).alloc (.cells #[.int .i64 k0, .int .i64 k1] 22)).alloc (.cells #[.int .i64 s0, .int .i64 s1] 22)).alloc (.cells #[.int .i64 p0, .int .i64 p1, .int .i64 q0, .int .i64 q1] 23)).alloc (.cells #[.int .i64 0, .int .i64 0, .int .i64 0, .int .i64 0] 23)) by go_grown) (b1.mono (by simp; omega)))
  clear b1
  go_wp2_with fail
  refine wp_loop_rounds 3 ?_
  rw [rounds_succ]
  go_wp2_with fail
  go_quiet ((go_at_call 49; exact Calls.quiet_of (WH0.out _)))
  go_wp2_with fail
  rw [rounds_succ]
  go_wp2_with fail
  go_quiet ((go_at_call 49; exact Calls.quiet_of (WH1.out _)))
  go_wp2_with fail
  generalize hW : World.setCell _ _ _ = W
  have hb : Below w1.heap.size w1 W := by
    rw [← hW]
    repeat' (first | (with_reducible refine below_drewN ?_ _) | (with_reducible refine Below.setCell ?_ ?_ _) | (with_reducible refine Below.alloc ?_ ?_ _) | (with_reducible exact Below.refl _ _) | go_size | (show w1.heap.size ≤ w1.heap.size + 1; omega))
  have i0 : W.cell? ⟨w1.heap.size + 1, 0, none⟩ = some (.int .i64 F0) := by rw [← hW]; clear hW hb; go_simp
  have i1 : W.cell? ⟨w1.heap.size + 1, 1, none⟩ = some (.int .i64 T0) := by rw [← hW]; clear hW hb; go_simp
  have i2 : W.cell? ⟨w1.heap.size + 1, 2, none⟩ = some (.int .i64 F1) := by rw [← hW]; clear hW hb; go_simp
  have i3 : W.cell? ⟨w1.heap.size + 1, 3, none⟩ = some (.int .i64 T1) := by rw [← hW]; clear hW hb; go_simp
  have r0 := (hb.cell (p := ⟨w.heap.size + 1 + 1 + 1 + 1, 0, none⟩) hz4).trans c40
  have r1 := (hb.cell (p := ⟨w.heap.size + 1 + 1 + 1 + 1, 1, none⟩) hz4).trans c41
  have r2 := (hb.cell (p := ⟨w.heap.size + 1 + 1 + 1 + 1, 2, none⟩) hz4).trans c42
  have r3 := (hb.cell (p := ⟨w.heap.size + 1 + 1 + 1 + 1, 3, none⟩) hz4).trans c43
  have y0 := (hb.frozen (p := ⟨w.heap.size + 1 + 1 + 1 + 1, 0, none⟩) hz4).trans z0
  have y1 := (hb.frozen (p := ⟨w.heap.size + 1 + 1 + 1 + 1, 1, none⟩) hz4).trans z1
  have y2 := (hb.frozen (p := ⟨w.heap.size + 1 + 1 + 1 + 1, 2, none⟩) hz4).trans z2
  have y3 := (hb.frozen (p := ⟨w.heap.size + 1 + 1 + 1 + 1, 3, none⟩) hz4).trans z3
  have HC := Lib.hid (HB.out.trans (hb.mono HB.out.size))
  clear hW hb c00 c01 c10 c11 c20 c21 c30 c31 c32 c33 c40 c41 c42 c43 z0 z1 z2 z3 hz0 hz1 hz2 hz3 hz4
  rw [rounds_succ]
  go_wp2_with fail
  exact bodyPost_ret (v := .tuple #[.agg #[.int .i64 F0, .int .i64 T0, .int .i64 F1, .int .i64 T1], .bool true]) (by simp [results, Try.results21, go_sem, r0, r1, r2, r3]) rfl ⟨rfl, (((HC.out.setCell (by show w.heap.size ≤ w.heap.size + 1 + 1 + 1 + 1; omega) _).setCell (by show w.heap.size ≤ w.heap.size + 1 + 1 + 1 + 1; omega) _).setCell (by show w.heap.size ≤ w.heap.size + 1 + 1 + 1 + 1; omega) _).setCell (by show w.heap.size ≤ w.heap.size + 1 + 1 + 1 + 1; omega) _⟩
end Go.Proofs.Ytgemajmimjkgcaa
