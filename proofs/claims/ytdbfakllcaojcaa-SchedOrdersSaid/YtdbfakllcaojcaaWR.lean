/- Contracts of the document's Good and Out of windows. -/
import Derived.Test.YtdbfakllcaojcaaWinG1
import Derived.Test.YtdbfakllcaojcaaWinG2
import Derived.Test.YtdbfakllcaojcaaWinG3
import Derived.Test.YtdbfakllcaojcaaWinG4
import Derived.Test.YtdbfakllcaojcaaTW
namespace Go.Proofs.Ytdbfakllcaojcaa
open Go Go.RowKit
set_option linter.unusedVariables false


theorem wgood_any (n0 n1 k0 k1 s0 s1 p0 p1 q0 q1 : Int) (w : World) :
    Calls Try.prog 52 #[.agg #[.int .i64 n0, .int .i64 n1], .agg #[.int .i64 k0, .int .i64 k1], .agg #[.int .i64 s0, .int .i64 s1], .agg #[.int .i64 p0, .int .i64 p1, .int .i64 q0, .int .i64 q1]] w fun e w' => e = .returned (.bool (gdW n0 k0 s0 p0 q0 && gdW n1 k1 s1 p1 q1)) ∧ Below w.heap.size w w' := by
  by_cases h0_0 : 1 ≤ n0
  case neg => exact good_a0 n0 n1 k0 k1 s0 s1 p0 p1 q0 q1 w  (by omega)
  by_cases h0_1 : n0 ≤ 64
  case neg => exact good_a1 n0 n1 k0 k1 s0 s1 p0 p1 q0 q1 w h0_0 (by omega)
  by_cases h0_2 : 1 ≤ k0
  case neg => exact good_a2 n0 n1 k0 k1 s0 s1 p0 p1 q0 q1 w h0_0 h0_1 (by omega)
  by_cases h0_3 : k0 ≤ 8
  case neg => exact good_a3 n0 n1 k0 k1 s0 s1 p0 p1 q0 q1 w h0_0 h0_1 h0_2 (by omega)
  by_cases h0_4 : 1 ≤ s0
  case neg => exact good_a4 n0 n1 k0 k1 s0 s1 p0 p1 q0 q1 w h0_0 h0_1 h0_2 h0_3 (by omega)
  by_cases h0_5 : s0 ≤ 8
  case neg => exact good_a5 n0 n1 k0 k1 s0 s1 p0 p1 q0 q1 w h0_0 h0_1 h0_2 h0_3 h0_4 (by omega)
  by_cases h0_6 : 0 ≤ p0
  case neg => exact good_a6 n0 n1 k0 k1 s0 s1 p0 p1 q0 q1 w h0_0 h0_1 h0_2 h0_3 h0_4 h0_5 (by omega)
  by_cases h0_7 : p0 < k0
  case neg => exact good_a7 n0 n1 k0 k1 s0 s1 p0 p1 q0 q1 w h0_0 h0_1 h0_2 h0_3 h0_4 h0_5 h0_6 (by omega)
  by_cases h0_8 : 0 ≤ q0
  case neg => exact good_a8 n0 n1 k0 k1 s0 s1 p0 p1 q0 q1 w h0_0 h0_1 h0_2 h0_3 h0_4 h0_5 h0_6 h0_7 (by omega)
  by_cases h0_9 : q0 < k0
  case neg => exact good_a9 n0 n1 k0 k1 s0 s1 p0 p1 q0 q1 w h0_0 h0_1 h0_2 h0_3 h0_4 h0_5 h0_6 h0_7 h0_8 (by omega)
  by_cases h0_10 : k0 ≤ n0 + p0 + q0
  case neg => exact good_a10 n0 n1 k0 k1 s0 s1 p0 p1 q0 q1 w h0_0 h0_1 h0_2 h0_3 h0_4 h0_5 h0_6 h0_7 h0_8 h0_9 (by omega)
  by_cases h1_0 : 1 ≤ n1
  case neg => exact good_b0 n0 n1 k0 k1 s0 s1 p0 p1 q0 q1 w h0_0 h0_1 h0_2 h0_3 h0_4 h0_5 h0_6 h0_7 h0_8 h0_9 h0_10 (by omega)
  by_cases h1_1 : n1 ≤ 64
  case neg => exact good_b1 n0 n1 k0 k1 s0 s1 p0 p1 q0 q1 w h0_0 h0_1 h0_2 h0_3 h0_4 h0_5 h0_6 h0_7 h0_8 h0_9 h0_10 h1_0 (by omega)
  by_cases h1_2 : 1 ≤ k1
  case neg => exact good_b2 n0 n1 k0 k1 s0 s1 p0 p1 q0 q1 w h0_0 h0_1 h0_2 h0_3 h0_4 h0_5 h0_6 h0_7 h0_8 h0_9 h0_10 h1_0 h1_1 (by omega)
  by_cases h1_3 : k1 ≤ 8
  case neg => exact good_b3 n0 n1 k0 k1 s0 s1 p0 p1 q0 q1 w h0_0 h0_1 h0_2 h0_3 h0_4 h0_5 h0_6 h0_7 h0_8 h0_9 h0_10 h1_0 h1_1 h1_2 (by omega)
  by_cases h1_4 : 1 ≤ s1
  case neg => exact good_b4 n0 n1 k0 k1 s0 s1 p0 p1 q0 q1 w h0_0 h0_1 h0_2 h0_3 h0_4 h0_5 h0_6 h0_7 h0_8 h0_9 h0_10 h1_0 h1_1 h1_2 h1_3 (by omega)
  by_cases h1_5 : s1 ≤ 8
  case neg => exact good_b5 n0 n1 k0 k1 s0 s1 p0 p1 q0 q1 w h0_0 h0_1 h0_2 h0_3 h0_4 h0_5 h0_6 h0_7 h0_8 h0_9 h0_10 h1_0 h1_1 h1_2 h1_3 h1_4 (by omega)
  by_cases h1_6 : 0 ≤ p1
  case neg => exact good_b6 n0 n1 k0 k1 s0 s1 p0 p1 q0 q1 w h0_0 h0_1 h0_2 h0_3 h0_4 h0_5 h0_6 h0_7 h0_8 h0_9 h0_10 h1_0 h1_1 h1_2 h1_3 h1_4 h1_5 (by omega)
  by_cases h1_7 : p1 < k1
  case neg => exact good_b7 n0 n1 k0 k1 s0 s1 p0 p1 q0 q1 w h0_0 h0_1 h0_2 h0_3 h0_4 h0_5 h0_6 h0_7 h0_8 h0_9 h0_10 h1_0 h1_1 h1_2 h1_3 h1_4 h1_5 h1_6 (by omega)
  by_cases h1_8 : 0 ≤ q1
  case neg => exact good_b8 n0 n1 k0 k1 s0 s1 p0 p1 q0 q1 w h0_0 h0_1 h0_2 h0_3 h0_4 h0_5 h0_6 h0_7 h0_8 h0_9 h0_10 h1_0 h1_1 h1_2 h1_3 h1_4 h1_5 h1_6 h1_7 (by omega)
  by_cases h1_9 : q1 < k1
  case neg => exact good_b9 n0 n1 k0 k1 s0 s1 p0 p1 q0 q1 w h0_0 h0_1 h0_2 h0_3 h0_4 h0_5 h0_6 h0_7 h0_8 h0_9 h0_10 h1_0 h1_1 h1_2 h1_3 h1_4 h1_5 h1_6 h1_7 h1_8 (by omega)
  by_cases h1_10 : k1 ≤ n1 + p1 + q1
  case neg => exact good_b10 n0 n1 k0 k1 s0 s1 p0 p1 q0 q1 w h0_0 h0_1 h0_2 h0_3 h0_4 h0_5 h0_6 h0_7 h0_8 h0_9 h0_10 h1_0 h1_1 h1_2 h1_3 h1_4 h1_5 h1_6 h1_7 h1_8 h1_9 (by omega)
  exact good_y n0 n1 k0 k1 s0 s1 p0 p1 q0 q1 w h0_0 h0_1 h0_2 h0_3 h0_4 h0_5 h0_6 h0_7 h0_8 h0_9 h0_10 h1_0 h1_1 h1_2 h1_3 h1_4 h1_5 h1_6 h1_7 h1_8 h1_9 h1_10
end Go.Proofs.Ytdbfakllcaojcaa

namespace Go.Proofs.Ytdbfakllcaojcaa
open Go Go.RowKit
set_option linter.unusedVariables false

set_option maxRecDepth 100000 in
set_option maxHeartbeats 4000000 in
theorem rout_any (n0 n1 k0 k1 s0 s1 p0 p1 q0 q1 : Int) (w : World) (g0 : gdW n0 k0 s0 p0 q0 = true) (g1 : gdW n1 k1 s1 p1 q1 = true) :
    Calls Try.prog 53 #[.agg #[.int .i64 n0, .int .i64 n1], .agg #[.int .i64 k0, .int .i64 k1], .agg #[.int .i64 s0, .int .i64 s1], .agg #[.int .i64 p0, .int .i64 p1, .int .i64 q0, .int .i64 q1]] w fun e w' => e = .returned (.agg #[.int .i64 (odW n0 k0 s0 p0 q0), .int .i64 (odW n1 k1 s1 p1 q1)]) ∧ Below w.heap.size w w' := by
  have b0 := od_bd g0
  have f0 := gdW_o g0
  have OL0 := Lib.hid (fun x => od_lt (n := n0) (k := k0) (s := s0) (p := p0) (q := q0) f0.2.2.2.2.1 x)
  obtain ⟨D0, hD0⟩ : ∃ D : Nat, odW n0 k0 s0 p0 q0 = D := ⟨(odW n0 k0 s0 p0 q0).toNat, by omega⟩
  rw [hD0] at b0 ⊢
  have HD0 := Lib.hid hD0
  clear g0 hD0
  have b1 := od_bd g1
  have f1 := gdW_o g1
  have OL1 := Lib.hid (fun x => od_lt (n := n1) (k := k1) (s := s1) (p := p1) (q := q1) f1.2.2.2.2.1 x)
  obtain ⟨D1, hD1⟩ : ∃ D : Nat, odW n1 k1 s1 p1 q1 = D := ⟨(odW n1 k1 s1 p1 q1).toNat, by omega⟩
  rw [hD1] at b1 ⊢
  have HD1 := Lib.hid hD1
  clear g1 hD1
  have NW := Lib.hid (inW_new n0 n1 k0 k1 s0 s1 p0 p1 q0 q1 w)
  have BW := Lib.hid (show Below w.heap.size w ((((((w.alloc (.cells #[.int .i64 n0, .int .i64 n1] 54)).alloc (.cells #[.int .i64 k0, .int .i64 k1] 54)).alloc (.cells #[.int .i64 s0, .int .i64 s1] 54)).alloc (.cells #[.int .i64 p0, .int .i64 p1, .int .i64 q0, .int .i64 q1] 55)).alloc (.cells #[.int .i64 0, .int .i64 0] 54)).alloc (.cells #[.int .i64 0, .int .i64 0] 54)) by go_grown)
  have ow := World.ownsRow_lit (base := w.heap.size) (size := 1) (e := 54) (((((w.alloc (.cells #[.int .i64 n0, .int .i64 n1] 54)).alloc (.cells #[.int .i64 k0, .int .i64 k1] 54)).alloc (.cells #[.int .i64 s0, .int .i64 s1] 54)).alloc (.cells #[.int .i64 p0, .int .i64 p1, .int .i64 q0, .int .i64 q1] 55)).alloc (.cells #[.int .i64 0, .int .i64 0] 54)) #[iW 0, iW 0] 2 (by simp; omega) (by decide) rfl
  have e5 : (((((w.alloc (.cells #[.int .i64 n0, .int .i64 n1] 54)).alloc (.cells #[.int .i64 k0, .int .i64 k1] 54)).alloc (.cells #[.int .i64 s0, .int .i64 s1] 54)).alloc (.cells #[.int .i64 p0, .int .i64 p1, .int .i64 q0, .int .i64 q1] 55)).alloc (.cells #[.int .i64 0, .int .i64 0] 54)).heap.size = w.heap.size + 1 + 1 + 1 + 1 + 1 := by simp
  rw [e5] at ow
  have OW := Lib.hid (show ((((((w.alloc (.cells #[.int .i64 n0, .int .i64 n1] 54)).alloc (.cells #[.int .i64 k0, .int .i64 k1] 54)).alloc (.cells #[.int .i64 s0, .int .i64 s1] 54)).alloc (.cells #[.int .i64 p0, .int .i64 p1, .int .i64 q0, .int .i64 q1] 55)).alloc (.cells #[.int .i64 0, .int .i64 0] 54)).alloc (.cells #[.int .i64 0, .int .i64 0] 54)).ownsRow w.heap.size 54 1 (.slice (some ⟨w.heap.size + 1 + 1 + 1 + 1 + 1, 0, none⟩) 2 2) 2 [iW 0, iW 0] from ow)
  clear ow e5
  have u2 : IntKind.i64.wrap 2 = 2 := rfl
  have u3 : IntKind.i64.wrap 3 = 3 := rfl
  go_enter Try.func53, Try.ntmps53
  go_wp2_with fail
  refine wp_loop_rounds 3 ?_
  rw [rounds_succ]
  go_wp2_with fail
  go_loopg [] D0 (fun gk wr => ∃ x : Nat, x + gk = D0 ∧ wr.ownsRow w.heap.size 54 1 (.slice (some ⟨w.heap.size + 1 + 1 + 1 + 1 + 1, 0, none⟩) 2 2) 2 [iW (x : Int), iW 0] ∧ ((((((w.alloc (.cells #[.int .i64 n0, .int .i64 n1] 54)).alloc (.cells #[.int .i64 k0, .int .i64 k1] 54)).alloc (.cells #[.int .i64 s0, .int .i64 s1] 54)).alloc (.cells #[.int .i64 p0, .int .i64 p1, .int .i64 q0, .int .i64 q1] 55)).alloc (.cells #[.int .i64 0, .int .i64 0] 54)).alloc (.cells #[.int .i64 0, .int .i64 0] 54)).grownBy wr (some (w.heap.size + 1 + 1 + 1 + 1 + 1)))
  case atStart => exact ⟨0, by omega, OW.out, World.grownBy.refl _ _⟩
  case round =>
    obtain ⟨x, hx, own, hg⟩ := hrel
    obtain ⟨c_n0, c_n1, c_k0, c_k1, c_s0, c_s1, c_p0, c_p1, c_q0, c_q1, c_r, c_lt⟩ := NW.out.grown hg
    have y0 : wr.cell? ⟨w.heap.size + 1 + 1 + 1 + 1 + 1, 0, none⟩ = some (.int .i64 (x : Int)) := own.cellAt 0 (by simp)
    have fz : wr.frozen? ⟨w.heap.size + 1 + 1 + 1 + 1 + 1, 0, none⟩ = false := own.frozenAt 0
    have XB := mul_bdW (x := (x : Int)) (s := s0) (by omega) (by omega) (by omega) (by omega)
    have u4 := IntWalk.i64_in ((x : Int) * s0) (by omega)
    have u5 := IntWalk.i64_in ((x : Int) * s0 + k0) (by omega)
    have u6 := IntWalk.i64_in (n0 + p0) (by omega)
    have u7 := IntWalk.i64_in (n0 + p0 + q0) (by omega)
    by_cases hlt : x < D0
    · have t1 : decide ((x : Int) * s0 + k0 ≤ n0 + p0 + q0) = true := by have := (OL0.out (x : Int)).2 (by rw [HD0.out]; omega); simpa using this
      have OWX := Lib.hid own
      have HG := Lib.hid hg
      clear own hg c_r
      go_wp2_with fail
      go_quiet (fail)
      go_wp2_with fail
      have ST := (own_laterW OWX.out (below_drewN (Below.refl _ _) nq)).stored 0 (iW ((x : Int) + 1))
      go_roundg (gk - 1)
      case measure => omega
      case rel => exact ⟨x + 1, by omega, ST.1, HG.out.trans ((grown_drewN wr nq _).trans ST.2)⟩
    · have t1 : decide ((x : Int) * s0 + k0 ≤ n0 + p0 + q0) = false := by have := mt (OL0.out (x : Int)).1 (by rw [HD0.out]; omega); simpa using this
      obtain rfl : D0 = x := by omega
      have OWN0 := Lib.hid own
      have HG0 := Lib.hid hg
      clear own hg c_r
      go_wp2_with fail
      go_quiet (fail)
      have OWN1 := Lib.hid (own_laterW OWN0.out (below_drewN (Below.refl _ _) nq))
      have HG1 := Lib.hid (HG0.out.trans (grown_drewN wr nq _))
      generalize wr.drewN nq = W1 at *
      clear u4 u5 u6 u7 t1 XB y0 fz c_n0 c_n1 c_k0 c_k1 c_s0 c_s1 c_p0 c_p1 c_q0 c_q1 c_lt
      go_wp2_with fail
      rw [rounds_succ]
      go_wp2_with fail
      go_loopg [] D1 (fun gk wr => ∃ x : Nat, x + gk = D1 ∧ wr.ownsRow w.heap.size 54 1 (.slice (some ⟨w.heap.size + 1 + 1 + 1 + 1 + 1, 0, none⟩) 2 2) 2 [iW (D0 : Int), iW (x : Int)] ∧ ((((((w.alloc (.cells #[.int .i64 n0, .int .i64 n1] 54)).alloc (.cells #[.int .i64 k0, .int .i64 k1] 54)).alloc (.cells #[.int .i64 s0, .int .i64 s1] 54)).alloc (.cells #[.int .i64 p0, .int .i64 p1, .int .i64 q0, .int .i64 q1] 55)).alloc (.cells #[.int .i64 0, .int .i64 0] 54)).alloc (.cells #[.int .i64 0, .int .i64 0] 54)).grownBy wr (some (w.heap.size + 1 + 1 + 1 + 1 + 1)))
      case atStart => exact ⟨0, by omega, OWN1.out, HG1.out⟩
      case round =>
        obtain ⟨x, hx, own, hg⟩ := hrel
        obtain ⟨c_n0, c_n1, c_k0, c_k1, c_s0, c_s1, c_p0, c_p1, c_q0, c_q1, c_r, c_lt⟩ := NW.out.grown hg
        have y1 : wr.cell? ⟨w.heap.size + 1 + 1 + 1 + 1 + 1, 1, none⟩ = some (.int .i64 (x : Int)) := own.cellAt 1 (by simp)
        have fz : wr.frozen? ⟨w.heap.size + 1 + 1 + 1 + 1 + 1, 1, none⟩ = false := own.frozenAt 1
        have XB := mul_bdW (x := (x : Int)) (s := s1) (by omega) (by omega) (by omega) (by omega)
        have u4 := IntWalk.i64_in ((x : Int) * s1) (by omega)
        have u5 := IntWalk.i64_in ((x : Int) * s1 + k1) (by omega)
        have u6 := IntWalk.i64_in (n1 + p1) (by omega)
        have u7 := IntWalk.i64_in (n1 + p1 + q1) (by omega)
        by_cases hlt : x < D1
        · have t1 : decide ((x : Int) * s1 + k1 ≤ n1 + p1 + q1) = true := by have := (OL1.out (x : Int)).2 (by rw [HD1.out]; omega); simpa using this
          have OWX := Lib.hid own
          have HG := Lib.hid hg
          clear own hg c_r
          go_wp2_with fail
          go_quiet (fail)
          go_wp2_with fail
          have ST := (own_laterW OWX.out (below_drewN (Below.refl _ _) nq)).stored 1 (iW ((x : Int) + 1))
          go_roundg (gk - 1)
          case measure => omega
          case rel => exact ⟨x + 1, by omega, ST.1, HG.out.trans ((grown_drewN wr nq _).trans ST.2)⟩
        · have t1 : decide ((x : Int) * s1 + k1 ≤ n1 + p1 + q1) = false := by have := mt (OL1.out (x : Int)).1 (by rw [HD1.out]; omega); simpa using this
          obtain rfl : D1 = x := by omega
          have OWN2 := Lib.hid own
          have HG2 := Lib.hid hg
          clear own hg c_r
          go_wp2_with fail
          go_quiet (fail)
          have own3 := own_laterW OWN2.out (below_drewN (Below.refl _ _) nq)
          have hg3 := HG2.out.trans (grown_drewN wr nq _)
          generalize wr.drewN nq = W2 at *
          clear u4 u5 u6 u7 t1 XB y1 fz c_n0 c_n1 c_k0 c_k1 c_s0 c_s1 c_p0 c_p1 c_q0 c_q1 c_lt
          have y0 : W2.cell? ⟨w.heap.size + 1 + 1 + 1 + 1 + 1, 0, none⟩ = some (.int .i64 (D0 : Int)) := own3.cellAt 0 (by simp)
          have y1 : W2.cell? ⟨w.heap.size + 1 + 1 + 1 + 1 + 1, 1, none⟩ = some (.int .i64 (D1 : Int)) := own3.cellAt 1 (by simp)
          have hr := (NW.out.grown hg3).r
          have r0 : W2.cell? ⟨w.heap.size + 1 + 1 + 1 + 1, 0, none⟩ = some (.int .i64 0) := by rw [cell_of_row W2 _ 0 _ _ _ hr]; rfl
          have r1 : W2.cell? ⟨w.heap.size + 1 + 1 + 1 + 1, 1, none⟩ = some (.int .i64 0) := by rw [cell_of_row W2 _ 1 _ _ _ hr]; rfl
          have z0 : W2.frozen? ⟨w.heap.size + 1 + 1 + 1 + 1, 0, none⟩ = false := by simp [World.frozen?, hr]
          have z1 : W2.frozen? ⟨w.heap.size + 1 + 1 + 1 + 1, 1, none⟩ = false := by simp [World.frozen?, hr]
          have HB := Lib.hid (BW.out.grown hg3 BW.out.size (fun k hk => by cases hk; omega))
          clear own3 hg3 hr
          go_wp2_with fail
          rw [rounds_succ]
          go_wp2_with fail
          exact bodyPost_ret (v := .agg #[.int .i64 (D0 : Int), .int .i64 (D1 : Int)]) (by simp [results, Try.results53, go_sem, r0, r1]) rfl ⟨rfl, (HB.out.setCell (by show w.heap.size ≤ w.heap.size + 1 + 1 + 1 + 1; omega) _).setCell (by show w.heap.size ≤ w.heap.size + 1 + 1 + 1 + 1; omega) _⟩
end Go.Proofs.Ytdbfakllcaojcaa
