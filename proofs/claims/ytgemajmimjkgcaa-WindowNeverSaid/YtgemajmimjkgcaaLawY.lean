/- The statements WindowTaps and WindowNever of layer 22 (where kernels lie): they return true for all inputs. -/
import Derived.Test.YtgemajmimjkgcaaRows
import Derived.Test.YtgemajmimjkgcaaWinQ
import Derived.Test.YtgemajmimjkgcaaWinH
import Derived.Test.YtgemajmimjkgcaaTapsQ
namespace Go.Proofs.Ytgemajmimjkgcaa
open Pl Go Go.RowKit Go.ChangeShapes Go.WideShapes Go.ChangeAt
set_option linter.unusedVariables false

theorem never_od {n0 n1 k0 k1 s0 s1 p0 p1 q0 q1 y x : Int} (hg0 : gdW n0 k0 s0 p0 q0 = true) (hg1 : gdW n1 k1 s1 p1 q1 = true) (hy : 0 ≤ y ∧ y < odW n0 k0 s0 p0 q0) (hx : 0 ≤ x ∧ x < odW n1 k1 s1 p1 q1) : 1 ≤ cntB (tapB n0 n1 k1 s0 s1 p0 p1 y x) (k0 * k1).toNat := by
  have f0 := gdW_o hg0
  have f1 := gdW_o hg1
  have ay := (od_lt (n := n0) (k := k0) (p := p0) (q := q0) (s := s0) (by omega) y).2 hy.2
  have ax := (od_lt (n := n1) (k := k1) (p := p1) (q := q1) (s := s1) (by omega) x).2 hx.2
  have my := Int.mul_nonneg hy.1 (show 0 ≤ s0 by omega)
  have mx := Int.mul_nonneg hx.1 (show 0 ≤ s1 by omega)
  exact never (q0 := q0) (q1 := q1) (by omega) (by omega) (by omega) (by omega) (by omega) (by omega) (by omega) (by omega) my mx ay ax
set_option maxHeartbeats 4000000 in
theorem taps_yes (n0 n1 k0 k1 s0 s1 p0 p1 q0 q1 y x : Int) (w : World) (hg0 : gdW n0 k0 s0 p0 q0 = true) (hg1 : gdW n1 k1 s1 p1 q1 = true) (hy : 0 ≤ y ∧ y < odW n0 k0 s0 p0 q0) (hx : 0 ≤ x ∧ x < odW n1 k1 s1 p1 q1) (hc : 1 ≤ cntB (tapB n0 n1 k1 s0 s1 p0 p1 y x) (k0 * k1).toNat) :
    Calls Try.prog 3 #[.agg #[.int .i64 n0, .int .i64 n1, .int .i64 k0, .int .i64 k1, .int .i64 s0, .int .i64 s1, .int .i64 p0, .int .i64 p1, .int .i64 q0, .int .i64 q1], .int .i64 y, .int .i64 x] w fun e w' => e = .returned (.bool true) ∧ Below w.heap.size w w' := by
  have TG := Lib.hid (taps_good n0 n1 k0 k1 s0 s1 p0 p1 q0 q1 y x · hg0 hg1 hy hx)
  have GA := Lib.hid (good_any n0 n1 k0 k1 s0 s1 p0 p1 q0 q1)
  have RA := Lib.hid (rout_any n0 n1 k0 k1 s0 s1 p0 p1 q0 q1 · hg0 hg1)
  have HG := Lib.hid (show (gdW n0 k0 s0 p0 q0 && gdW n1 k1 s1 p1 q1) = true by rw [hg0, hg1]; rfl)
  have f0 := gdW_o hg0
  have f1 := gdW_o hg1
  have x0 := od_bd hg0
  have x1 := od_bd hg1
  have TA := Lib.hid (fun w => rtaps_full n0 n1 k0 k1 s0 s1 p0 p1 q0 q1 y x w (by omega) (by omega) (by omega) (by omega) (by omega) (by omega) (by omega) (by omega))
  have KB := kk_bd (k0 := k0) (k1 := k1) (by omega) (by omega)
  have TL := Lib.hid (tapL_at k1 (tapB n0 n1 k1 s0 s1 p0 p1 y x) (k0 * k1).toNat)
  have CL := cnt_le (tapB n0 n1 k1 s0 s1 p0 p1 y x) (k0 * k1).toNat
  obtain ⟨D0, hD0⟩ : ∃ D, odW n0 k0 s0 p0 q0 = D := ⟨_, rfl⟩
  obtain ⟨D1, hD1⟩ : ∃ D, odW n1 k1 s1 p1 q1 = D := ⟨_, rfl⟩
  rw [hD0] at RA x0 hy
  rw [hD1] at RA x1 hx
  obtain ⟨C, hC⟩ : ∃ C, cntB (tapB n0 n1 k1 s0 s1 p0 p1 y x) (k0 * k1).toNat = C := ⟨_, rfl⟩
  obtain ⟨XS, hXS⟩ : ∃ XS, tapL k1 (tapB n0 n1 k1 s0 s1 p0 p1 y x) (k0 * k1).toNat = XS := ⟨_, rfl⟩
  rw [hC] at TG TA TL hc CL
  rw [hXS] at TG TA TL
  have C64 : C ≤ 64 := by omega
  clear hg0 hg1 hD0 hD1 f0 f1 hC hXS CL
  go_enter Try.func3, Try.ntmps3
  go_wp2_with fail
  refine (TG.out _).mono ?_
  rintro e w1 ⟨⟨v, rfl, own⟩, b1⟩
  have PV := Lib.hid (pairs_own own hc)
  have hvl : ∃ g cap, v = .slice (some ⟨g, 0, none⟩) C cap := by obtain ⟨g, cap, hv, _⟩ := PV.out; exact ⟨g, cap, hv⟩
  obtain ⟨g, cap, rfl⟩ := hvl
  have BX := Lib.hid ((boxW_new w n0 n1 k0 k1 s0 s1 p0 p1 q0 q1 25).later b1)
  have B1 := Lib.hid (btW (show Below w.heap.size w (w.alloc (.cells #[.int .i64 n0, .int .i64 n1, .int .i64 k0, .int .i64 k1, .int .i64 s0, .int .i64 s1, .int .i64 p0, .int .i64 p1, .int .i64 q0, .int .i64 q1] 25)) by go_grown) b1)
  clear b1 own
  obtain ⟨h0, h1, h2, h3, h4, h5, h6, h7, h8, h9, hl⟩ := BX.out
  go_wp2_with fail
  refine (GA.out _).mono ?_
  rw [HG.out]
  rintro e w2 ⟨rfl, b2⟩
  have BX2 := Lib.hid (BX.out.later b2)
  have PV2 := Lib.hid (PV.out.later b2)
  have B2 := Lib.hid (btW B1.out b2)
  clear b2 h0 h1 h2 h3 h4 h5 h6 h7 h8 h9 hl
  obtain ⟨h0, h1, h2, h3, h4, h5, h6, h7, h8, h9, hl⟩ := BX2.out
  go_wp2_with fail
  refine (RA.out _).mono ?_
  rintro e w3 ⟨rfl, b3⟩
  have bb := b3.alloc b3.size (.cells #[.int .i64 D0, .int .i64 D1] 22)
  have BX3 := Lib.hid (BX2.out.later bb)
  have PV3 := Lib.hid (PV2.out.later bb)
  have B3 := Lib.hid (btW B2.out bb)
  have t0 : decide (y < 0) = false := by simp; omega
  have t1 : decide (D0 ≤ y) = false := by simp; omega
  have t2 : decide (x < 0) = false := by simp; omega
  have t3 : decide (D1 ≤ x) = false := by simp; omega
  clear b3 bb h0 h1 h2 h3 h4 h5 h6 h7 h8 h9 hl
  obtain ⟨h0, h1, h2, h3, h4, h5, h6, h7, h8, h9, hl⟩ := BX3.out
  go_wp2_with fail
  refine (TA.out _).mono ?_
  rintro e w4 ⟨⟨u, rfl, own⟩, b4⟩
  have PU := Lib.hid (pairs_own own hc)
  have PV4 := Lib.hid (PV3.out.later b4)
  have B4 := Lib.hid (btW B3.out b4)
  clear b4 own h0 h1 h2 h3 h4 h5 h6 h7 h8 h9 hl
  go_wp2_with fail
  refine (same_any _ _ C XS _ C64 TL.out PV4.out PU.out).mono ?_
  rintro e w5 ⟨rfl, b5⟩
  have B5 := Lib.hid (btW B4.out b5)
  clear b5
  go_wp2_with fail
  refine (law22_lives _).mono ?_
  rintro e w6 ⟨rfl, b6⟩
  have B6 := Lib.hid (btW B5.out b6)
  clear b6
  go_wp2_with fail
  go_ret
  exact ⟨rfl, B6.out⟩
set_option maxHeartbeats 2000000 in
theorem taps_no (n0 n1 k0 k1 s0 s1 p0 p1 q0 q1 y x : Int) (w : World) (hg : (gdW n0 k0 s0 p0 q0 && gdW n1 k1 s1 p1 q1) = false) :
    Calls Try.prog 3 #[.agg #[.int .i64 n0, .int .i64 n1, .int .i64 k0, .int .i64 k1, .int .i64 s0, .int .i64 s1, .int .i64 p0, .int .i64 p1, .int .i64 q0, .int .i64 q1], .int .i64 y, .int .i64 x] w fun e w' => e = .returned (.bool true) ∧ Below w.heap.size w w' := by
  have TG := Lib.hid (taps_bad n0 n1 k0 k1 s0 s1 p0 p1 q0 q1 y x · hg)
  have GA := Lib.hid (good_any n0 n1 k0 k1 s0 s1 p0 p1 q0 q1)
  have HG := Lib.hid hg
  clear hg
  go_enter Try.func3, Try.ntmps3
  go_wp2_with fail
  refine (TG.out _).mono ?_
  rintro e w1 ⟨rfl, b1⟩
  have BX := Lib.hid ((boxW_new w n0 n1 k0 k1 s0 s1 p0 p1 q0 q1 25).later b1)
  have B1 := Lib.hid (btW (show Below w.heap.size w (w.alloc (.cells #[.int .i64 n0, .int .i64 n1, .int .i64 k0, .int .i64 k1, .int .i64 s0, .int .i64 s1, .int .i64 p0, .int .i64 p1, .int .i64 q0, .int .i64 q1] 25)) by go_grown) b1)
  clear b1
  obtain ⟨h0, h1, h2, h3, h4, h5, h6, h7, h8, h9, hl⟩ := BX.out
  go_wp2_with fail
  refine (GA.out _).mono ?_
  rw [HG.out]
  rintro e w2 ⟨rfl, b2⟩
  have B2 := Lib.hid (btW B1.out b2)
  clear b2 h0 h1 h2 h3 h4 h5 h6 h7 h8 h9 hl
  go_wp2_with fail
  refine (law22_lives _).mono ?_
  rintro e w3 ⟨rfl, b3⟩
  have B3 := Lib.hid (btW B2.out b3)
  clear b3
  go_wp2_with fail
  go_ret
  exact ⟨rfl, B3.out⟩
set_option maxHeartbeats 4000000 in
theorem taps_far (n0 n1 k0 k1 s0 s1 p0 p1 q0 q1 y x : Int) (w : World) (hg0 : gdW n0 k0 s0 p0 q0 = true) (hg1 : gdW n1 k1 s1 p1 q1 = true) (hyx : ¬ ((0 ≤ y ∧ y < odW n0 k0 s0 p0 q0) ∧ (0 ≤ x ∧ x < odW n1 k1 s1 p1 q1))) :
    Calls Try.prog 3 #[.agg #[.int .i64 n0, .int .i64 n1, .int .i64 k0, .int .i64 k1, .int .i64 s0, .int .i64 s1, .int .i64 p0, .int .i64 p1, .int .i64 q0, .int .i64 q1], .int .i64 y, .int .i64 x] w fun e w' => e = .returned (.bool true) ∧ Below w.heap.size w w' := by
  have HB : (inB y 0 (odW n0 k0 s0 p0 q0 - 1) && inB x 0 (odW n1 k1 s1 p1 q1 - 1)) = false := by
    cases h1 : inB y 0 (odW n0 k0 s0 p0 q0 - 1)
    · rfl
    · cases h2 : inB x 0 (odW n1 k1 s1 p1 q1 - 1)
      · rfl
      · have a := of_decide_eq_true h1
        have b := of_decide_eq_true h2
        exact absurd (show _ ∧ _ from ⟨⟨a.1, by omega⟩, b.1, by omega⟩) hyx
  have TG := Lib.hid (taps_out n0 n1 k0 k1 s0 s1 p0 p1 q0 q1 y x · hg0 hg1 HB)
  have GA := Lib.hid (good_any n0 n1 k0 k1 s0 s1 p0 p1 q0 q1)
  have RA := Lib.hid (rout_any n0 n1 k0 k1 s0 s1 p0 p1 q0 q1 · hg0 hg1)
  have HG := Lib.hid (show (gdW n0 k0 s0 p0 q0 && gdW n1 k1 s1 p1 q1) = true by rw [hg0, hg1]; rfl)
  clear HB
  obtain ⟨D0, hD0⟩ : ∃ D, odW n0 k0 s0 p0 q0 = D := ⟨_, rfl⟩
  obtain ⟨D1, hD1⟩ : ∃ D, odW n1 k1 s1 p1 q1 = D := ⟨_, rfl⟩
  rw [hD0] at RA
  rw [hD1] at RA
  rw [hD0, hD1] at hyx
  have HYX := Lib.hid hyx
  clear hg0 hg1 hD0 hD1 hyx
  go_enter Try.func3, Try.ntmps3
  go_wp2_with fail
  refine (TG.out _).mono ?_
  rintro e w1 ⟨rfl, b1⟩
  have BX := Lib.hid ((boxW_new w n0 n1 k0 k1 s0 s1 p0 p1 q0 q1 25).later b1)
  have B1 := Lib.hid (btW (show Below w.heap.size w (w.alloc (.cells #[.int .i64 n0, .int .i64 n1, .int .i64 k0, .int .i64 k1, .int .i64 s0, .int .i64 s1, .int .i64 p0, .int .i64 p1, .int .i64 q0, .int .i64 q1] 25)) by go_grown) b1)
  clear b1
  obtain ⟨h0, h1, h2, h3, h4, h5, h6, h7, h8, h9, hl⟩ := BX.out
  go_wp2_with fail
  refine (GA.out _).mono ?_
  rw [HG.out]
  rintro e w2 ⟨rfl, b2⟩
  have BX2 := Lib.hid (BX.out.later b2)
  have B2 := Lib.hid (btW B1.out b2)
  clear b2 h0 h1 h2 h3 h4 h5 h6 h7 h8 h9 hl
  obtain ⟨h0, h1, h2, h3, h4, h5, h6, h7, h8, h9, hl⟩ := BX2.out
  go_wp2_with fail
  refine (RA.out _).mono ?_
  rintro e w3 ⟨rfl, b3⟩
  have B3 := Lib.hid (btW B2.out (b3.alloc b3.size (.cells #[.int .i64 D0, .int .i64 D1] 22)))
  clear b3 h0 h1 h2 h3 h4 h5 h6 h7 h8 h9 hl
  cases t0 : decide (y < 0)
  · cases t1 : decide (D0 ≤ y)
    · cases t2 : decide (x < 0)
      · have t3 : decide (D1 ≤ x) = true := by
          have := HYX.out
          simp at t0 t1 t2 ⊢
          omega
        (go_wp2_with fail; refine (law22_lives _).mono ?_; rintro e w4 ⟨rfl, b4⟩; have B4 := Lib.hid (btW B3.out b4); clear b4; go_wp2_with fail; go_ret; exact ⟨rfl, B4.out⟩)
      · (go_wp2_with fail; refine (law22_lives _).mono ?_; rintro e w4 ⟨rfl, b4⟩; have B4 := Lib.hid (btW B3.out b4); clear b4; go_wp2_with fail; go_ret; exact ⟨rfl, B4.out⟩)
    · (go_wp2_with fail; refine (law22_lives _).mono ?_; rintro e w4 ⟨rfl, b4⟩; have B4 := Lib.hid (btW B3.out b4); clear b4; go_wp2_with fail; go_ret; exact ⟨rfl, B4.out⟩)
  · (go_wp2_with fail; refine (law22_lives _).mono ?_; rintro e w4 ⟨rfl, b4⟩; have B4 := Lib.hid (btW B3.out b4); clear b4; go_wp2_with fail; go_ret; exact ⟨rfl, B4.out⟩)
theorem walk_WindowTaps (a0 a1 a2 a3 a4 a5 a6 a7 a8 a9 y x : Int) (w0 : (Lit.int .i64 a0).wf = true) (w1 : (Lit.int .i64 a1).wf = true) (w2 : (Lit.int .i64 a2).wf = true) (w3 : (Lit.int .i64 a3).wf = true) (w4 : (Lit.int .i64 a4).wf = true) (w5 : (Lit.int .i64 a5).wf = true) (w6 : (Lit.int .i64 a6).wf = true) (w7 : (Lit.int .i64 a7).wf = true) (w8 : (Lit.int .i64 a8).wf = true) (w9 : (Lit.int .i64 a9).wf = true) (wy : (Lit.int .i64 y).wf = true) (wx : (Lit.int .i64 x).wf = true) (w : World) :
    Calls Try.prog 3 #[.agg #[.int .i64 a0, .int .i64 a1, .int .i64 a2, .int .i64 a3, .int .i64 a4, .int .i64 a5, .int .i64 a6, .int .i64 a7, .int .i64 a8, .int .i64 a9], .int .i64 y, .int .i64 x] w fun e w' => e = .returned (.bool true) ∧ Below w.heap.size w w' := by
  cases h0 : gdW a0 a2 a4 a6 a8
  · exact taps_no a0 a1 a2 a3 a4 a5 a6 a7 a8 a9 y x w (by rw [h0]; rfl)
  cases h1 : gdW a1 a3 a5 a7 a9
  · exact taps_no a0 a1 a2 a3 a4 a5 a6 a7 a8 a9 y x w (by rw [h1, Bool.and_false])
  by_cases h : (0 ≤ y ∧ y < odW a0 a2 a4 a6 a8) ∧ (0 ≤ x ∧ x < odW a1 a3 a5 a7 a9)
  · exact taps_yes a0 a1 a2 a3 a4 a5 a6 a7 a8 a9 y x w h0 h1 h.1 h.2 (never_od h0 h1 h.1 h.2)
  · exact taps_far a0 a1 a2 a3 a4 a5 a6 a7 a8 a9 y x w h0 h1 h

set_option maxHeartbeats 2000000 in
theorem never_no (n0 n1 k0 k1 s0 s1 p0 p1 q0 q1 : Int) (w : World) (hg : (gdW n0 k0 s0 p0 q0 && gdW n1 k1 s1 p1 q1) = false) :
    Calls Try.prog 5 #[.agg #[.int .i64 n0, .int .i64 n1, .int .i64 k0, .int .i64 k1, .int .i64 s0, .int .i64 s1, .int .i64 p0, .int .i64 p1, .int .i64 q0, .int .i64 q1]] w fun e w' => e = .returned (.bool true) ∧ Below w.heap.size w w' := by
  have OA := Lib.hid (out_any n0 n1 k0 k1 s0 s1 p0 p1 q0 q1)
  have HG := Lib.hid hg
  clear hg
  go_enter Try.func5, Try.ntmps5
  go_wp2_with fail
  refine (OA.out _).mono ?_
  rintro e w1 ⟨rfl, b1⟩
  rw [HG.out]
  have B1 := Lib.hid (btW (show Below w.heap.size w (w.alloc (.cells #[.int .i64 n0, .int .i64 n1, .int .i64 k0, .int .i64 k1, .int .i64 s0, .int .i64 s1, .int .i64 p0, .int .i64 p1, .int .i64 q0, .int .i64 q1] 25)) by go_grown) (b1.alloc b1.size (.cells #[.int .i64 0, .int .i64 0] 22)))
  clear b1
  go_wp2_with fail
  go_loopw [5] (fun i wr => wr = w1.alloc (.cells #[.int .i64 0, .int .i64 0] 22)) (fun i _ => 0)
  case atStart => rfl
  case round =>
    subst hrel
    go_wp2_with fail
    refine (law22_lives _).mono ?_
    rintro e w3 ⟨rfl, b3⟩
    have B3 := Lib.hid (btW B1.out b3)
    clear b3
    go_wp2_with fail
    go_ret
    exact ⟨rfl, B3.out⟩
set_option maxRecDepth 100000 in
set_option maxHeartbeats 4000000 in
theorem never_yes (n0 n1 k0 k1 s0 s1 p0 p1 q0 q1 : Int) (w : World) (hg0 : gdW n0 k0 s0 p0 q0 = true) (hg1 : gdW n1 k1 s1 p1 q1 = true) :
    Calls Try.prog 5 #[.agg #[.int .i64 n0, .int .i64 n1, .int .i64 k0, .int .i64 k1, .int .i64 s0, .int .i64 s1, .int .i64 p0, .int .i64 p1, .int .i64 q0, .int .i64 q1]] w fun e w' => e = .returned (.bool true) ∧ Below w.heap.size w w' := by
  have OA := Lib.hid (out_any n0 n1 k0 k1 s0 s1 p0 p1 q0 q1)
  have HG := Lib.hid (show (gdW n0 k0 s0 p0 q0 && gdW n1 k1 s1 p1 q1) = true by rw [hg0, hg1]; rfl)
  have TG := Lib.hid (fun y x w hy hx => taps_good n0 n1 k0 k1 s0 s1 p0 p1 q0 q1 y x w hg0 hg1 hy hx)
  have NV := Lib.hid (fun y x => never_od (y := y) (x := x) hg0 hg1)
  have x0 := od_bd hg0
  have x1 := od_bd hg1
  obtain ⟨D0, hD0⟩ : ∃ D, odW n0 k0 s0 p0 q0 = D := ⟨_, rfl⟩
  obtain ⟨D1, hD1⟩ : ∃ D, odW n1 k1 s1 p1 q1 = D := ⟨_, rfl⟩
  rw [hD0] at OA x0 TG NV
  rw [hD1] at OA x1 TG NV
  have DB : 1 ≤ D0 * D1 ∧ D0 * D1 ≤ 1002001 := by
    have p := Int.mul_le_mul x0.1 x1.1 (by omega) (by omega)
    have q := Int.mul_le_mul x0.2 x1.2 (by omega) (by omega)
    omega
  have uD := IntWalk.i64_in (D0 * D1) (by omega)
  obtain ⟨M, hM⟩ : ∃ M : Nat, D0 * D1 = M := ⟨(D0 * D1).toNat, by omega⟩
  have hMb : 1 ≤ M ∧ M ≤ 1002001 := by omega
  have HM := Lib.hid hM
  have nD1 : (D1 == 0) = false := by simp; omega
  clear hg0 hg1 hD0 hD1 hM
  go_enter Try.func5, Try.ntmps5
  go_wp2_with fail
  refine (OA.out _).mono ?_
  rintro e w1 ⟨rfl, b1⟩
  rw [HG.out]
  simp only [if_true]
  have zl : w.heap.size < w1.heap.size := by have := b1.size; simp at this; omega
  have bx := (boxW_new w n0 n1 k0 k1 s0 s1 p0 p1 q0 q1 25).later (b1.alloc b1.size (.cells #[.int .i64 D0, .int .i64 D1] 22))
  have B1 := Lib.hid (btW (show Below w.heap.size w (w.alloc (.cells #[.int .i64 n0, .int .i64 n1, .int .i64 k0, .int .i64 k1, .int .i64 s0, .int .i64 s1, .int .i64 p0, .int .i64 p1, .int .i64 q0, .int .i64 q1] 25)) by go_grown) (b1.alloc b1.size (.cells #[.int .i64 D0, .int .i64 D1] 22)))
  have hS : (w1.alloc (.cells #[.int .i64 D0, .int .i64 D1] 22)).cell? ⟨w.heap.size, 0, none⟩ = some (.int .i64 n0) ∧ (w1.alloc (.cells #[.int .i64 D0, .int .i64 D1] 22)).cell? ⟨w.heap.size, 1, none⟩ = some (.int .i64 n1) ∧ (w1.alloc (.cells #[.int .i64 D0, .int .i64 D1] 22)).cell? ⟨w.heap.size, 2, none⟩ = some (.int .i64 k0) ∧ (w1.alloc (.cells #[.int .i64 D0, .int .i64 D1] 22)).cell? ⟨w.heap.size, 3, none⟩ = some (.int .i64 k1) ∧ (w1.alloc (.cells #[.int .i64 D0, .int .i64 D1] 22)).cell? ⟨w.heap.size, 4, none⟩ = some (.int .i64 s0) ∧ (w1.alloc (.cells #[.int .i64 D0, .int .i64 D1] 22)).cell? ⟨w.heap.size, 5, none⟩ = some (.int .i64 s1) ∧ (w1.alloc (.cells #[.int .i64 D0, .int .i64 D1] 22)).cell? ⟨w.heap.size, 6, none⟩ = some (.int .i64 p0) ∧ (w1.alloc (.cells #[.int .i64 D0, .int .i64 D1] 22)).cell? ⟨w.heap.size, 7, none⟩ = some (.int .i64 p1) ∧ (w1.alloc (.cells #[.int .i64 D0, .int .i64 D1] 22)).cell? ⟨w.heap.size, 8, none⟩ = some (.int .i64 q0) ∧ (w1.alloc (.cells #[.int .i64 D0, .int .i64 D1] 22)).cell? ⟨w.heap.size, 9, none⟩ = some (.int .i64 q1) ∧ (w1.alloc (.cells #[.int .i64 D0, .int .i64 D1] 22)).cell? ⟨w1.heap.size, 0, none⟩ = some (.int .i64 D0) ∧ (w1.alloc (.cells #[.int .i64 D0, .int .i64 D1] 22)).cell? ⟨w1.heap.size, 1, none⟩ = some (.int .i64 D1) ∧ w.heap.size < (w1.alloc (.cells #[.int .i64 D0, .int .i64 D1] 22)).heap.size ∧ w1.heap.size < (w1.alloc (.cells #[.int .i64 D0, .int .i64 D1] 22)).heap.size ∧ Below (w1.alloc (.cells #[.int .i64 D0, .int .i64 D1] 22)).heap.size (w1.alloc (.cells #[.int .i64 D0, .int .i64 D1] 22)) (w1.alloc (.cells #[.int .i64 D0, .int .i64 D1] 22)) := by
    obtain ⟨y0, y1, y2, y3, y4, y5, y6, y7, y8, y9, yl⟩ := bx
    exact ⟨y0, y1, y2, y3, y4, y5, y6, y7, y8, y9, World.cell?_alloc_new .., World.cell?_alloc_new .., yl, by simp, Below.refl _ _⟩
  clear b1 bx zl
  go_wp2_with fail
  generalize hWD : World.alloc w1 _ = WD at *
  clear hWD
  have HS := Lib.hid hS
  have MV := Lib.hid (show ∀ w' : World, Below WD.heap.size WD w' → (w'.cell? ⟨w.heap.size, 0, none⟩ = some (.int .i64 n0) ∧ w'.cell? ⟨w.heap.size, 1, none⟩ = some (.int .i64 n1) ∧ w'.cell? ⟨w.heap.size, 2, none⟩ = some (.int .i64 k0) ∧ w'.cell? ⟨w.heap.size, 3, none⟩ = some (.int .i64 k1) ∧ w'.cell? ⟨w.heap.size, 4, none⟩ = some (.int .i64 s0) ∧ w'.cell? ⟨w.heap.size, 5, none⟩ = some (.int .i64 s1) ∧ w'.cell? ⟨w.heap.size, 6, none⟩ = some (.int .i64 p0) ∧ w'.cell? ⟨w.heap.size, 7, none⟩ = some (.int .i64 p1) ∧ w'.cell? ⟨w.heap.size, 8, none⟩ = some (.int .i64 q0) ∧ w'.cell? ⟨w.heap.size, 9, none⟩ = some (.int .i64 q1) ∧ w'.cell? ⟨w1.heap.size, 0, none⟩ = some (.int .i64 D0) ∧ w'.cell? ⟨w1.heap.size, 1, none⟩ = some (.int .i64 D1) ∧ w.heap.size < w'.heap.size ∧ w1.heap.size < w'.heap.size ∧ Below WD.heap.size WD w') from fun w' hbl => by
    obtain ⟨v0, v1, v2, v3, v4, v5, v6, v7, v8, v9, v10, v11, v12, v13, v14⟩ := HS.out
    exact ⟨(hbl.cell (by show w.heap.size < _; omega)).trans v0, (hbl.cell (by show w.heap.size < _; omega)).trans v1, (hbl.cell (by show w.heap.size < _; omega)).trans v2, (hbl.cell (by show w.heap.size < _; omega)).trans v3, (hbl.cell (by show w.heap.size < _; omega)).trans v4, (hbl.cell (by show w.heap.size < _; omega)).trans v5, (hbl.cell (by show w.heap.size < _; omega)).trans v6, (hbl.cell (by show w.heap.size < _; omega)).trans v7, (hbl.cell (by show w.heap.size < _; omega)).trans v8, (hbl.cell (by show w.heap.size < _; omega)).trans v9, (hbl.cell (by show w1.heap.size < _; omega)).trans v10, (hbl.cell (by show w1.heap.size < _; omega)).trans v11, Nat.lt_of_lt_of_le v12 hbl.size, Nat.lt_of_lt_of_le v13 hbl.size, v14.trans (hbl.mono v14.size)⟩)
  clear hS
  go_loopw [5] (fun i wr => ∃ k : Nat, k ≤ M ∧ i = .int .i64 k ∧ Below WD.heap.size WD wr) (fun i _ => M - (intOf i).toNat)
  case atStart => exact ⟨0, by omega, rfl, Below.refl _ _⟩
  case round =>
    obtain ⟨k, hk, rfl, hb⟩ := hrel
    obtain ⟨c0, c1, c2, c3, c4, c5, c6, c7, c8, c9, c10, c11, z0, z1, hB⟩ := MV.out wr hb
    have hS := MV.out wr hb
    have HB := Lib.hid hb
    clear hb hB
    have END : ∀ wz : World, Below WD.heap.size WD wz → Below w.heap.size w wz := fun wz hz => B1.out.trans (hz.mono B1.out.size)
    by_cases hlt : k < M
    · have t0 : decide ((k : Int) < D0 * D1) = true := by rw [HM.out]; simp; omega
      by_cases h4 : k < 400
      · have t1 : decide ((k : Int) < 400) = true := by simp; omega
        have YB : (0 ≤ (k : Int) / D1 ∧ (k : Int) / D1 < D0) ∧ (0 ≤ (k : Int) % D1 ∧ (k : Int) % D1 < D1) := by
          refine ⟨⟨Int.ediv_nonneg (by omega) (by omega), ?_⟩, Int.emod_nonneg _ (by omega), Int.emod_lt_of_pos _ (by omega)⟩
          exact (Int.ediv_lt_iff_lt_mul (by omega)).2 (by rw [HM.out]; omega)
        have u1 := IntWalk.i64_in ((k : Int) / D1) (by omega)
        have u2 := IntWalk.i64_in ((k : Int) % D1) (by omega)
        have u3 := IntWalk.i64_in ((k : Int) + 1) (by omega)
        have TY := Lib.hid (TG.out ((k : Int) / D1) ((k : Int) % D1) · YB.1 YB.2)
        have NY := Lib.hid (NV.out ((k : Int) / D1) ((k : Int) % D1) YB.1 YB.2)
        have nZ : ¬ D1 = 0 := by omega
        have u4 : Int.tmod (k : Int) D1 = (k : Int) % D1 := Int.tmod_eq_emod_of_nonneg (by omega)
        have hc0 : (((cntB (tapB n0 n1 k1 s0 s1 p0 p1 ((k : Int) / D1) ((k : Int) % D1)) (k0 * k1).toNat : Nat) : Int) == 0) = false := by
          have := NY.out
          simp; omega
        have HC0 := Lib.hid hc0
        clear hc0
        go_wp2_with fail
        go_region_held3 (fun w' => w'.cell? ⟨w.heap.size, 0, none⟩ = some (.int .i64 n0) ∧ w'.cell? ⟨w.heap.size, 1, none⟩ = some (.int .i64 n1) ∧ w'.cell? ⟨w.heap.size, 2, none⟩ = some (.int .i64 k0) ∧ w'.cell? ⟨w.heap.size, 3, none⟩ = some (.int .i64 k1) ∧ w'.cell? ⟨w.heap.size, 4, none⟩ = some (.int .i64 s0) ∧ w'.cell? ⟨w.heap.size, 5, none⟩ = some (.int .i64 s1) ∧ w'.cell? ⟨w.heap.size, 6, none⟩ = some (.int .i64 p0) ∧ w'.cell? ⟨w.heap.size, 7, none⟩ = some (.int .i64 p1) ∧ w'.cell? ⟨w.heap.size, 8, none⟩ = some (.int .i64 q0) ∧ w'.cell? ⟨w.heap.size, 9, none⟩ = some (.int .i64 q1) ∧ w'.cell? ⟨w1.heap.size, 0, none⟩ = some (.int .i64 D0) ∧ w'.cell? ⟨w1.heap.size, 1, none⟩ = some (.int .i64 D1) ∧ w.heap.size < w'.heap.size ∧ w1.heap.size < w'.heap.size ∧ Below WD.heap.size WD w')
          (first | (with_reducible assumption) | (obtain ⟨v0, v1, v2, v3, v4, v5, v6, v7, v8, v9, v10, v11, v12, v13, v14⟩ := ‹_ ∧ _ ∧ _ ∧ _ ∧ _ ∧ _ ∧ _ ∧ _ ∧ _ ∧ _ ∧ _ ∧ _ ∧ _ ∧ _ ∧ Below WD.heap.size WD _›; exact ⟨(hbl.cell (by show w.heap.size < _; omega)).trans v0, (hbl.cell (by show w.heap.size < _; omega)).trans v1, (hbl.cell (by show w.heap.size < _; omega)).trans v2, (hbl.cell (by show w.heap.size < _; omega)).trans v3, (hbl.cell (by show w.heap.size < _; omega)).trans v4, (hbl.cell (by show w.heap.size < _; omega)).trans v5, (hbl.cell (by show w.heap.size < _; omega)).trans v6, (hbl.cell (by show w.heap.size < _; omega)).trans v7, (hbl.cell (by show w.heap.size < _; omega)).trans v8, (hbl.cell (by show w.heap.size < _; omega)).trans v9, (hbl.cell (by show w1.heap.size < _; omega)).trans v10, (hbl.cell (by show w1.heap.size < _; omega)).trans v11, Nat.lt_of_lt_of_le v12 hbl.size, Nat.lt_of_lt_of_le v13 hbl.size, v14.trans (hbl.mono v14.size)⟩) | (obtain ⟨v0, v1, v2, v3, v4, v5, v6, v7, v8, v9, v10, v11, v12, v13, v14⟩ := ‹_ ∧ _ ∧ _ ∧ _ ∧ _ ∧ _ ∧ _ ∧ _ ∧ _ ∧ _ ∧ _ ∧ _ ∧ _ ∧ _ ∧ Below WD.heap.size WD _›; exact ⟨v0, v1, v2, v3, v4, v5, v6, v7, v8, v9, v10, v11, v12, v13, v14.drew⟩) | (obtain ⟨v0, v1, v2, v3, v4, v5, v6, v7, v8, v9, v10, v11, v12, v13, v14⟩ := ‹_ ∧ _ ∧ _ ∧ _ ∧ _ ∧ _ ∧ _ ∧ _ ∧ _ ∧ _ ∧ _ ∧ _ ∧ _ ∧ _ ∧ Below WD.heap.size WD _›; exact ⟨v0, v1, v2, v3, v4, v5, v6, v7, v8, v9, v10, v11, v12, v13, v14⟩))
          (first | (go_at_call 15; refine (TY.out _).mono ?_; rintro e w9 ⟨⟨tv, rfl, town⟩, hbl⟩; obtain ⟨ta, tc, rfl⟩ := own_formT town; clear town))
        obtain ⟨v0, v1, v2, v3, v4, v5, v6, v7, v8, v9, v10, v11, v12, v13, v14⟩ := ‹_ ∧ _ ∧ _ ∧ _ ∧ _ ∧ _ ∧ _ ∧ _ ∧ _ ∧ _ ∧ _ ∧ _ ∧ _ ∧ _ ∧ Below WD.heap.size WD _›
        clear hS
        have hc0 := HC0.out
        go_wp2_with fail
        exact ⟨⟨k + 1, by omega, rfl, v14⟩, by simp [intOf]; omega⟩
      · have t1 : decide ((k : Int) < 400) = false := by simp; omega
        (go_wp2_with fail; refine (law22_lives _).mono ?_; rintro e w3 ⟨rfl, b3⟩; have B3 := Lib.hid (btW (END _ HB.out) b3); clear b3; go_wp2_with fail; go_ret; exact ⟨rfl, B3.out⟩)
    · obtain rfl : M = k := by omega
      have t0 : decide ((M : Int) < D0 * D1) = false := by rw [HM.out]; simp
      (go_wp2_with fail; refine (law22_lives _).mono ?_; rintro e w3 ⟨rfl, b3⟩; have B3 := Lib.hid (btW (END _ HB.out) b3); clear b3; go_wp2_with fail; go_ret; exact ⟨rfl, B3.out⟩)
theorem walk_WindowNever (a0 a1 a2 a3 a4 a5 a6 a7 a8 a9 : Int) (w0 : (Lit.int .i64 a0).wf = true) (w1 : (Lit.int .i64 a1).wf = true) (w2 : (Lit.int .i64 a2).wf = true) (w3 : (Lit.int .i64 a3).wf = true) (w4 : (Lit.int .i64 a4).wf = true) (w5 : (Lit.int .i64 a5).wf = true) (w6 : (Lit.int .i64 a6).wf = true) (w7 : (Lit.int .i64 a7).wf = true) (w8 : (Lit.int .i64 a8).wf = true) (w9 : (Lit.int .i64 a9).wf = true) (w : World) :
    Calls Try.prog 5 #[.agg #[.int .i64 a0, .int .i64 a1, .int .i64 a2, .int .i64 a3, .int .i64 a4, .int .i64 a5, .int .i64 a6, .int .i64 a7, .int .i64 a8, .int .i64 a9]] w fun e w' => e = .returned (.bool true) ∧ Below w.heap.size w w' := by
  cases h0 : gdW a0 a2 a4 a6 a8
  · exact never_no a0 a1 a2 a3 a4 a5 a6 a7 a8 a9 w (by rw [h0]; rfl)
  cases h1 : gdW a1 a3 a5 a7 a9
  · exact never_no a0 a1 a2 a3 a4 a5 a6 a7 a8 a9 w (by rw [h1, Bool.and_false])
  exact never_yes a0 a1 a2 a3 a4 a5 a6 a7 a8 a9 w h0 h1

theorem own : ownKnob Try.prog.godebug = none := by kernel_rfl
theorem laidOut : laidOutB Try.prog = true := by kernel_rfl
set_option maxRecDepth 100000 in
theorem lifted_WindowTaps (os : Os) (started : os.Started) (H : Type) (enc : TypeId × Value → H) :
    ReturnsInHanded {} Try.checked os 3 .any (Rows.windowTapsSpec.pre6 enc Try.prog Try.f3 Rows.windowTapsRow.domain false) (Rows.windowTapsSpec.post enc Try.prog Try.f3 false true false false) := by
  refine returnsInHanded_of_change (C := Try.checked) own started (by kernel_rfl) Try.func3
    (ChangeSpec.witness6 (enc := enc) (C := Try.checked) false ⟨#[], #[.agg #[.int .i64 0, .int .i64 0, .int .i64 0, .int .i64 0, .int .i64 0, .int .i64 0, .int .i64 0, .int .i64 0, .int .i64 0, .int .i64 0], .int .i64 0, .int .i64 0], []⟩ 8 (by kernel_rfl) (by kernel_rfl) (by kernel_rfl) (by kernel_rfl)) ?_
  intro W base args ds gs before hval0 hW hcnd _
  have hval : ∀ (j : Nat) t v, Try.f3.params[j]? = some t → args[j]? = some v → Value.okWide Try.prog W .any base t v := hval0
  have hW' := hW
  obtain ⟨p, q, hA0, hV, rfl, hfz, hnd⟩ := hW
  have hA : DataW.TrodAll enc Try.prog W 0 (fun _ => true) true Try.f3.params.toList args.toList ds p := hA0
  rw [Try.params3] at hA hval
  obtain ⟨v0, vs0, d0, ds0, p0, q0, hargs, rfl, rfl, h0, r0⟩ := trodAll_cons hA
  obtain ⟨v1, vs1, d1, ds1, p1, q1, rfl, rfl, rfl, h1, r1⟩ := trodAll_cons r0
  obtain ⟨v2, vs2, d2, ds2, p2, q2, rfl, rfl, rfl, h2, r2⟩ := trodAll_cons r1
  obtain ⟨rfl, rfl, rfl⟩ := trodAll_nil r2
  obtain rfl : args = #[v0, v1, v2] := by cases args; simp_all
  obtain ⟨rfl, rfl⟩ := trodVars_none hV
  have k0 := h0
  have lt0 : ∀ x ∈ p0, x.block < W.heap.size := by obtain ⟨m, hm⟩ := k0; exact DataW.trod_lt m _ _ _ hm
  obtain ⟨zs0, zl0, rfl, zw0⟩ := flat_ints [.i64, .i64, .i64, .i64, .i64, .i64, .i64, .i64, .i64, .i64] (ts := [3, 3, 3, 3, 3, 3, 3, 3, 3, 3]) (Or.inl ⟨_, Try.underlying25⟩) (by kernel_rfl) (by kernel_rfl) (by kernel_rfl) (hval 0 25 v0 rfl rfl)
  obtain ⟨a0_0, a0_1, a0_2, a0_3, a0_4, a0_5, a0_6, a0_7, a0_8, a0_9, rfl⟩ := len10 zl0
  obtain ⟨a1, rfl, rfl, rfl, w1⟩ := open_int Try.underlying3 (hval 1 3 v1 rfl rfl) h1
  obtain ⟨a2, rfl, rfl, rfl, w2⟩ := open_int Try.underlying3 (hval 2 3 v2 rfl rfl) h2
  clear hA0 hval0
  refine (walk_WindowTaps a0_0 a0_1 a0_2 a0_3 a0_4 a0_5 a0_6 a0_7 a0_8 a0_9 a1 a2 (zw0 0 .i64 _ rfl rfl) (zw0 1 .i64 _ rfl rfl) (zw0 2 .i64 _ rfl rfl) (zw0 3 .i64 _ rfl rfl) (zw0 4 .i64 _ rfl rfl) (zw0 5 .i64 _ rfl rfl) (zw0 6 .i64 _ rfl rfl) (zw0 7 .i64 _ rfl rfl) (zw0 8 .i64 _ rfl rfl) (zw0 9 .i64 _ rfl rfl) w1 w2 W).mono fun e W' ⟨he, bel⟩ => ?_
  subst he
  exact ⟨_, rfl, _, _, _, [], _, [], hW', trodAll_mk1 (shut_bool Try.underlying4 _), (trodAll_cons_mk (Below.trod laidOut (by kernel_rfl) (of_decide_eq_true (by kernel_rfl)) k0 bel lt0) (trodAll_cons_mk (shut_int Try.underlying3 w1) (trodAll_cons_mk (shut_int Try.underlying3 w2) trodAll_mk0))), rfl, bel.frame _, fun h => by cases h⟩

theorem holds_WindowTaps : Rows.WindowTapsSaid :=
  OpenClaim.holds_of_wide 3 Try.f3 rfl rfl rfl rfl rfl rfl rfl ⟨rfl, rfl, rfl, rfl, rfl⟩ rfl rfl rfl rfl rfl (by kernel_rfl) Try.func3 (by kernel_rfl)
    (of_decide_eq_true (by kernel_rfl)) (by unfold Func.isWrapper; first | (rw [if_pos (by decide +kernel)]; kernel_rfl) | (rw [if_neg (by decide +kernel)]; exact ⟨rfl, rfl⟩))
    (fun os started H enc _ => lifted_WindowTaps os started H enc)

set_option maxRecDepth 100000 in
theorem lifted_WindowNever (os : Os) (started : os.Started) (H : Type) (enc : TypeId × Value → H) :
    ReturnsInHanded {} Try.checked os 5 .any (Rows.windowNeverSpec.pre6 enc Try.prog Try.f5 Rows.windowNeverRow.domain false) (Rows.windowNeverSpec.post enc Try.prog Try.f5 false true false false) := by
  refine returnsInHanded_of_change (C := Try.checked) own started (by kernel_rfl) Try.func5
    (ChangeSpec.witness6 (enc := enc) (C := Try.checked) false ⟨#[], #[.agg #[.int .i64 0, .int .i64 0, .int .i64 0, .int .i64 0, .int .i64 0, .int .i64 0, .int .i64 0, .int .i64 0, .int .i64 0, .int .i64 0]], []⟩ 8 (by kernel_rfl) (by kernel_rfl) (by kernel_rfl) (by kernel_rfl)) ?_
  intro W base args ds gs before hval0 hW hcnd _
  have hval : ∀ (j : Nat) t v, Try.f5.params[j]? = some t → args[j]? = some v → Value.okWide Try.prog W .any base t v := hval0
  have hW' := hW
  obtain ⟨p, q, hA0, hV, rfl, hfz, hnd⟩ := hW
  have hA : DataW.TrodAll enc Try.prog W 0 (fun _ => true) true Try.f5.params.toList args.toList ds p := hA0
  rw [Try.params5] at hA hval
  obtain ⟨v0, vs0, d0, ds0, p0, q0, hargs, rfl, rfl, h0, r0⟩ := trodAll_cons hA
  obtain ⟨rfl, rfl, rfl⟩ := trodAll_nil r0
  obtain rfl : args = #[v0] := by cases args; simp_all
  obtain ⟨rfl, rfl⟩ := trodVars_none hV
  have k0 := h0
  have lt0 : ∀ x ∈ p0, x.block < W.heap.size := by obtain ⟨m, hm⟩ := k0; exact DataW.trod_lt m _ _ _ hm
  obtain ⟨zs0, zl0, rfl, zw0⟩ := flat_ints [.i64, .i64, .i64, .i64, .i64, .i64, .i64, .i64, .i64, .i64] (ts := [3, 3, 3, 3, 3, 3, 3, 3, 3, 3]) (Or.inl ⟨_, Try.underlying25⟩) (by kernel_rfl) (by kernel_rfl) (by kernel_rfl) (hval 0 25 v0 rfl rfl)
  obtain ⟨a0_0, a0_1, a0_2, a0_3, a0_4, a0_5, a0_6, a0_7, a0_8, a0_9, rfl⟩ := len10 zl0
  clear hA0 hval0
  refine (walk_WindowNever a0_0 a0_1 a0_2 a0_3 a0_4 a0_5 a0_6 a0_7 a0_8 a0_9 (zw0 0 .i64 _ rfl rfl) (zw0 1 .i64 _ rfl rfl) (zw0 2 .i64 _ rfl rfl) (zw0 3 .i64 _ rfl rfl) (zw0 4 .i64 _ rfl rfl) (zw0 5 .i64 _ rfl rfl) (zw0 6 .i64 _ rfl rfl) (zw0 7 .i64 _ rfl rfl) (zw0 8 .i64 _ rfl rfl) (zw0 9 .i64 _ rfl rfl) W).mono fun e W' ⟨he, bel⟩ => ?_
  subst he
  exact ⟨_, rfl, _, _, _, [], _, [], hW', trodAll_mk1 (shut_bool Try.underlying4 _), (trodAll_cons_mk (Below.trod laidOut (by kernel_rfl) (of_decide_eq_true (by kernel_rfl)) k0 bel lt0) trodAll_mk0), rfl, bel.frame _, fun h => by cases h⟩

theorem holds_WindowNever : Rows.WindowNeverSaid :=
  OpenClaim.holds_of_wide 5 Try.f5 rfl rfl rfl rfl rfl rfl rfl ⟨rfl, rfl, rfl, rfl, rfl⟩ rfl rfl rfl rfl rfl (by kernel_rfl) Try.func5 (by kernel_rfl)
    (of_decide_eq_true (by kernel_rfl)) (by unfold Func.isWrapper; first | (rw [if_pos (by decide +kernel)]; kernel_rfl) | (rw [if_neg (by decide +kernel)]; exact ⟨rfl, rfl⟩))
    (fun os started H enc _ => lifted_WindowNever os started H enc)

end Go.Proofs.Ytgemajmimjkgcaa
