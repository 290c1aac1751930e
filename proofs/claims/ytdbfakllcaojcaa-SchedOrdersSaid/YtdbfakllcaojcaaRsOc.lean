/- The document's out, operators 2. -/
import Derived.Test.YtdbfakllcaojcaaRsO0
namespace Go.Proofs.Ytdbfakllcaojcaa
open Go Go.RowKit
set_option linter.unusedVariables false
set_option linter.unusedSimpArgs false
set_option maxRecDepth 100000

set_option maxHeartbeats 8000000 in
theorem rout_op2 : ROc 2 := by
  intro n a b ho ha hb w
  obtain ⟨⟨ax0, ax1⟩, ⟨ay0, ay1⟩, ⟨az0, az1⟩⟩ := good_bd ha
  obtain ⟨⟨bx0, bx1⟩, ⟨by0, by1⟩, ⟨bz0, bz1⟩⟩ := good_bd hb
  have HP : ∀ e w', RoPost n a b w e w' ↔ RoPost n a b w e w' := fun _ _ => Iff.rfl
  clear HP
  have Hw := Lib.hid (fun W => (show Calls Try.prog 41 #[.int .i64 2, .int .u8 119] W fun e w' => e = .returned (.bool true) ∧ Below W.heap.size W w' from rhas_w 2 (by decide) (by decide) W))
  have HC := Lib.hid (fun W => (show Calls Try.prog 41 #[.int .i64 2, .int .u8 67] W fun e w' => e = .returned (.bool true) ∧ Below W.heap.size W w' from rhas_CC 2 (by decide) (by decide) W))
  have NEW := Lib.hid (OAt.new w n a b)
  have BN : Below w.heap.size w (((((w.alloc (.cells n.cells.toArray 57)).alloc (.cells #[.int .i64 a.x, .int .i64 a.y, .int .i64 a.z] 22)).alloc (.cells #[.int .i64 b.x, .int .i64 b.y, .int .i64 b.z] 22)).alloc (.cells #[.int .i64 0, .int .i64 0, .int .i64 0] 22)).alloc (.cells #[.int .i64 0, .int .i64 0] 54)) := by go_grown
  have BW := Lib.hid BN
  clear BN
  have WG := Lib.hid (fun W => (show Calls Try.prog 52 #[.agg #[.int .i64 a.x, .int .i64 a.y], .agg #[.int .i64 n.k0, .int .i64 n.k1], .agg #[.int .i64 n.s0, .int .i64 n.s1], .agg #[.int .i64 n.p0, .int .i64 n.p1, .int .i64 n.p2, .int .i64 n.p3]] W fun e w' => e = .returned (.bool (winG n a)) ∧ Below W.heap.size W w' from wgood_any a.x a.y n.k0 n.k1 n.s0 n.s1 n.p0 n.p1 n.p2 n.p3 W))
  cases hg : winG n a
  · rw [hg] at WG
    have HO := Lib.hid (show outN n a b = (10, a) by simp [outN, ho, hWin, hC, hg])
    have e0 : n.cells[0]? = some (.int .i64 2) := by rw [← ho]; rfl
    unfold RoPost
    rw [HO.out]
    clear ho ha hb HO hg
    go_enter Try.func33, Try.ntmps33
    go_upto_region 2 with fail
    have RO := NEW
    clear NEW
    generalize ((((w.alloc (.cells n.cells.toArray 57)).alloc (.cells #[.int .i64 a.x, .int .i64 a.y, .int .i64 a.z] 22)).alloc (.cells #[.int .i64 b.x, .int .i64 b.y, .int .i64 b.z] 22)).alloc (.cells #[.int .i64 0, .int .i64 0, .int .i64 0] 22)).alloc (.cells #[.int .i64 0, .int .i64 0] 54) = W1 at *
    obtain ⟨cn3, cn4, cn5, cn6, cn7, cn8, cn9, cn10, cn22, cn23, cn24, cn25, ca0, ca1, ca2, cb0, cb1, cb2, cq0, fq0, cq1, fq1, cz0, fz0, cz1, fz1, cz2, fz2, ln, la, lb, lz, lq⟩ := RO.out.all
    have cn0 := RO.out.n.cell 0 _ e0
    go_upto_region 4 with (first | (go_at_call 41; (first | (with_reducible refine (Hw.out _).mono ?_) | (with_reducible refine (HC.out _).mono ?_)); rintro e w9 ⟨rfl, hb9⟩; replace RO := Lib.hid (RO.out.over hb9); replace BW := Lib.hid (below_call BW.out hb9); clear hb9; clear cn0 cn3 cn4 cn5 cn6 cn7 cn8 cn9 cn10 cn22 cn23 cn24 cn25 ca0 ca1 ca2 cb0 cb1 cb2 cq0 fq0 cq1 fq1 cz0 fz0 cz1 fz1 cz2 fz2 ln la lb lz lq; obtain ⟨cn3, cn4, cn5, cn6, cn7, cn8, cn9, cn10, cn22, cn23, cn24, cn25, ca0, ca1, ca2, cb0, cb1, cb2, cq0, fq0, cq1, fq1, cz0, fz0, cz1, fz1, cz2, fz2, ln, la, lb, lz, lq⟩ := RO.out.all; have cn0 := RO.out.n.cell 0 _ e0))
    have hal := Below.alloc (Below.refl w9.heap.size w9) (Nat.le_refl _) (.cells #[.int .i64 a.x, .int .i64 a.y] 54)
    have RX := Lib.hid (RowAt.new w9 [.int .i64 a.x, .int .i64 a.y] 54)
    replace RO := Lib.hid (RO.out.over hal)
    replace BW := Lib.hid (below_call BW.out hal)
    clear hal
    clear cn0 cn3 cn4 cn5 cn6 cn7 cn8 cn9 cn10 cn22 cn23 cn24 cn25 ca0 ca1 ca2 cb0 cb1 cb2 cq0 fq0 cq1 fq1 cz0 fz0 cz1 fz1 cz2 fz2 ln la lb lz lq
    obtain ⟨X, hX⟩ : ∃ X, X = w9.heap.size := ⟨_, rfl⟩
    rw [← hX] at RX ⊢
    clear hX
    generalize w9.alloc (.cells #[.int .i64 a.x, .int .i64 a.y] 54) = W4 at *
    obtain ⟨cn3, cn4, cn5, cn6, cn7, cn8, cn9, cn10, cn22, cn23, cn24, cn25, ca0, ca1, ca2, cb0, cb1, cb2, cq0, fq0, cq1, fq1, cz0, fz0, cz1, fz1, cz2, fz2, ln, la, lb, lz, lq⟩ := RO.out.all
    have cn0 := RO.out.n.cell 0 _ e0
    have cx0 := RX.out.cell 0 _ rfl
    have cx1 := RX.out.cell 1 _ rfl
    have lx := RX.out.lt
    go_wp2_with (first | (go_at_call 52; (with_reducible refine (WG.out _).mono ?_); rintro e w9 ⟨rfl, hb9⟩; replace RX := Lib.hid (RX.out.over hb9); clear cx0 cx1 lx; have cx0 := RX.out.cell 0 _ rfl; have cx1 := RX.out.cell 1 _ rfl; have lx := RX.out.lt; replace RO := Lib.hid (RO.out.over hb9); replace BW := Lib.hid (below_call BW.out hb9); clear hb9; clear cn0 cn3 cn4 cn5 cn6 cn7 cn8 cn9 cn10 cn22 cn23 cn24 cn25 ca0 ca1 ca2 cb0 cb1 cb2 cq0 fq0 cq1 fq1 cz0 fz0 cz1 fz1 cz2 fz2 ln la lb lz lq; obtain ⟨cn3, cn4, cn5, cn6, cn7, cn8, cn9, cn10, cn22, cn23, cn24, cn25, ca0, ca1, ca2, cb0, cb1, cb2, cq0, fq0, cq1, fq1, cz0, fz0, cz1, fz1, cz2, fz2, ln, la, lb, lz, lq⟩ := RO.out.all; have cn0 := RO.out.n.cell 0 _ e0))
    all_goals exact bodyPost_ret (results_cell_mid2 rfl _ _ (w.heap.size + 1 + 1 + 1) _ rfl (load_row (RO.out.put _ _ _) 22 _ Try.underlying22 rfl (by kernel_rfl))) rfl ⟨_, _, _, rfl, below_put BW.out, by first | (intro _; rfl) | (intro h; simp at h) | (intro h; exact absurd h (by assumption))⟩
  · have hg2 := hg
    unfold winG at hg2
    simp only [Bool.and_eq_true] at hg2
    have WO := Lib.hid (fun W => (show Calls Try.prog 53 #[.agg #[.int .i64 a.x, .int .i64 a.y], .agg #[.int .i64 n.k0, .int .i64 n.k1], .agg #[.int .i64 n.s0, .int .i64 n.s1], .agg #[.int .i64 n.p0, .int .i64 n.p1, .int .i64 n.p2, .int .i64 n.p3]] W fun e w' => e = .returned (.agg #[.int .i64 (rowX n a), .int .i64 (rowY n a)]) ∧ Below W.heap.size W w' from rout_any a.x a.y n.k0 n.k1 n.s0 n.s1 n.p0 n.p1 n.p2 n.p3 W hg2.1 hg2.2))
    rw [hg] at WG
    clear hg2
    by_cases c0 : n.chans < 1
    · have c0b : decide (n.chans < 1) = true := by simpa using c0
      have HO := Lib.hid (show outN n a b = (10, a) by (have h1 : ¬ 1 ≤ n.chans := by omega); simp [outN, ho, hWin, hC, h1, hg])
      have e0 : n.cells[0]? = some (.int .i64 2) := by rw [← ho]; rfl
      unfold RoPost
      rw [HO.out]
      clear ho ha hb HO hg
      go_enter Try.func33, Try.ntmps33
      go_upto_region 2 with fail
      have RO := NEW
      clear NEW
      generalize ((((w.alloc (.cells n.cells.toArray 57)).alloc (.cells #[.int .i64 a.x, .int .i64 a.y, .int .i64 a.z] 22)).alloc (.cells #[.int .i64 b.x, .int .i64 b.y, .int .i64 b.z] 22)).alloc (.cells #[.int .i64 0, .int .i64 0, .int .i64 0] 22)).alloc (.cells #[.int .i64 0, .int .i64 0] 54) = W1 at *
      obtain ⟨cn3, cn4, cn5, cn6, cn7, cn8, cn9, cn10, cn22, cn23, cn24, cn25, ca0, ca1, ca2, cb0, cb1, cb2, cq0, fq0, cq1, fq1, cz0, fz0, cz1, fz1, cz2, fz2, ln, la, lb, lz, lq⟩ := RO.out.all
      have cn0 := RO.out.n.cell 0 _ e0
      go_upto_region 4 with (first | (go_at_call 41; (first | (with_reducible refine (Hw.out _).mono ?_) | (with_reducible refine (HC.out _).mono ?_)); rintro e w9 ⟨rfl, hb9⟩; replace RO := Lib.hid (RO.out.over hb9); replace BW := Lib.hid (below_call BW.out hb9); clear hb9; clear cn0 cn3 cn4 cn5 cn6 cn7 cn8 cn9 cn10 cn22 cn23 cn24 cn25 ca0 ca1 ca2 cb0 cb1 cb2 cq0 fq0 cq1 fq1 cz0 fz0 cz1 fz1 cz2 fz2 ln la lb lz lq; obtain ⟨cn3, cn4, cn5, cn6, cn7, cn8, cn9, cn10, cn22, cn23, cn24, cn25, ca0, ca1, ca2, cb0, cb1, cb2, cq0, fq0, cq1, fq1, cz0, fz0, cz1, fz1, cz2, fz2, ln, la, lb, lz, lq⟩ := RO.out.all; have cn0 := RO.out.n.cell 0 _ e0))
      have hal := Below.alloc (Below.refl w9.heap.size w9) (Nat.le_refl _) (.cells #[.int .i64 a.x, .int .i64 a.y] 54)
      have RX := Lib.hid (RowAt.new w9 [.int .i64 a.x, .int .i64 a.y] 54)
      replace RO := Lib.hid (RO.out.over hal)
      replace BW := Lib.hid (below_call BW.out hal)
      clear hal
      clear cn0 cn3 cn4 cn5 cn6 cn7 cn8 cn9 cn10 cn22 cn23 cn24 cn25 ca0 ca1 ca2 cb0 cb1 cb2 cq0 fq0 cq1 fq1 cz0 fz0 cz1 fz1 cz2 fz2 ln la lb lz lq
      obtain ⟨X, hX⟩ : ∃ X, X = w9.heap.size := ⟨_, rfl⟩
      rw [← hX] at RX ⊢
      clear hX
      generalize w9.alloc (.cells #[.int .i64 a.x, .int .i64 a.y] 54) = W4 at *
      obtain ⟨cn3, cn4, cn5, cn6, cn7, cn8, cn9, cn10, cn22, cn23, cn24, cn25, ca0, ca1, ca2, cb0, cb1, cb2, cq0, fq0, cq1, fq1, cz0, fz0, cz1, fz1, cz2, fz2, ln, la, lb, lz, lq⟩ := RO.out.all
      have cn0 := RO.out.n.cell 0 _ e0
      have cx0 := RX.out.cell 0 _ rfl
      have cx1 := RX.out.cell 1 _ rfl
      have lx := RX.out.lt
      go_upto_region 7 with (first | (go_at_call 52; (with_reducible refine (WG.out _).mono ?_); rintro e w9 ⟨rfl, hb9⟩; replace RX := Lib.hid (RX.out.over hb9); clear cx0 cx1 lx; have cx0 := RX.out.cell 0 _ rfl; have cx1 := RX.out.cell 1 _ rfl; have lx := RX.out.lt; replace RO := Lib.hid (RO.out.over hb9); replace BW := Lib.hid (below_call BW.out hb9); clear hb9; clear cn0 cn3 cn4 cn5 cn6 cn7 cn8 cn9 cn10 cn22 cn23 cn24 cn25 ca0 ca1 ca2 cb0 cb1 cb2 cq0 fq0 cq1 fq1 cz0 fz0 cz1 fz1 cz2 fz2 ln la lb lz lq; obtain ⟨cn3, cn4, cn5, cn6, cn7, cn8, cn9, cn10, cn22, cn23, cn24, cn25, ca0, ca1, ca2, cb0, cb1, cb2, cq0, fq0, cq1, fq1, cz0, fz0, cz1, fz1, cz2, fz2, ln, la, lb, lz, lq⟩ := RO.out.all; have cn0 := RO.out.n.cell 0 _ e0) | (go_at_call 53; (with_reducible refine (WO.out _).mono ?_); rintro e w9 ⟨rfl, hb9⟩; replace RX := Lib.hid (RX.out.over hb9); clear cx0 cx1 lx; have cx0 := RX.out.cell 0 _ rfl; have cx1 := RX.out.cell 1 _ rfl; have lx := RX.out.lt; replace RO := Lib.hid (RO.out.over hb9); replace BW := Lib.hid (below_call BW.out hb9); clear hb9; clear cn0 cn3 cn4 cn5 cn6 cn7 cn8 cn9 cn10 cn22 cn23 cn24 cn25 ca0 ca1 ca2 cb0 cb1 cb2 cq0 fq0 cq1 fq1 cz0 fz0 cz1 fz1 cz2 fz2 ln la lb lz lq; obtain ⟨cn3, cn4, cn5, cn6, cn7, cn8, cn9, cn10, cn22, cn23, cn24, cn25, ca0, ca1, ca2, cb0, cb1, cb2, cq0, fq0, cq1, fq1, cz0, fz0, cz1, fz1, cz2, fz2, ln, la, lb, lz, lq⟩ := RO.out.all; have cn0 := RO.out.n.cell 0 _ e0))
      replace RO := Lib.hid (RO.out.setq (rowX n a) (rowY n a))
      replace BW := Lib.hid (below_setq (x := rowX n a) (y := rowY n a) BW.out)
      clear cn0 cn3 cn4 cn5 cn6 cn7 cn8 cn9 cn10 cn22 cn23 cn24 cn25 ca0 ca1 ca2 cb0 cb1 cb2 cq0 fq0 cq1 fq1 cz0 fz0 cz1 fz1 cz2 fz2 ln la lb lz lq
      clear cx0 cx1 lx RX
      generalize (w9.setCell ⟨w.heap.size + 1 + 1 + 1 + 1, 0, none⟩ (.int .i64 (rowX n a))).setCell ⟨w.heap.size + 1 + 1 + 1 + 1, 1, none⟩ (.int .i64 (rowY n a)) = W7 at *
      obtain ⟨cn3, cn4, cn5, cn6, cn7, cn8, cn9, cn10, cn22, cn23, cn24, cn25, ca0, ca1, ca2, cb0, cb1, cb2, cq0, fq0, cq1, fq1, cz0, fz0, cz1, fz1, cz2, fz2, ln, la, lb, lz, lq⟩ := RO.out.all
      have cn0 := RO.out.n.cell 0 _ e0
      go_wp2_with (first | (go_at_call 41; (first | (with_reducible refine (Hw.out _).mono ?_) | (with_reducible refine (HC.out _).mono ?_)); rintro e w9 ⟨rfl, hb9⟩; replace RO := Lib.hid (RO.out.over hb9); replace BW := Lib.hid (below_call BW.out hb9); clear hb9; clear cn0 cn3 cn4 cn5 cn6 cn7 cn8 cn9 cn10 cn22 cn23 cn24 cn25 ca0 ca1 ca2 cb0 cb1 cb2 cq0 fq0 cq1 fq1 cz0 fz0 cz1 fz1 cz2 fz2 ln la lb lz lq; obtain ⟨cn3, cn4, cn5, cn6, cn7, cn8, cn9, cn10, cn22, cn23, cn24, cn25, ca0, ca1, ca2, cb0, cb1, cb2, cq0, fq0, cq1, fq1, cz0, fz0, cz1, fz1, cz2, fz2, ln, la, lb, lz, lq⟩ := RO.out.all; have cn0 := RO.out.n.cell 0 _ e0))
      all_goals exact bodyPost_ret (results_cell_mid2 rfl _ _ (w.heap.size + 1 + 1 + 1) _ rfl (load_row (RO.out.put _ _ _) 22 _ Try.underlying22 rfl (by kernel_rfl))) rfl ⟨_, _, _, rfl, below_put BW.out, by first | (intro _; rfl) | (intro h; simp at h) | (intro h; exact absurd h (by assumption))⟩
    have c0b : decide (n.chans < 1) = false := by simpa using c0
    by_cases c1 : 64 < n.chans
    · have c1b : decide (64 < n.chans) = true := by simpa using c1
      have HO := Lib.hid (show outN n a b = (10, a) by (have h1 : ¬ n.chans ≤ 64 := by omega); simp [outN, ho, hWin, hC, h1, hg])
      have e0 : n.cells[0]? = some (.int .i64 2) := by rw [← ho]; rfl
      unfold RoPost
      rw [HO.out]
      clear ho ha hb HO hg
      go_enter Try.func33, Try.ntmps33
      go_upto_region 2 with fail
      have RO := NEW
      clear NEW
      generalize ((((w.alloc (.cells n.cells.toArray 57)).alloc (.cells #[.int .i64 a.x, .int .i64 a.y, .int .i64 a.z] 22)).alloc (.cells #[.int .i64 b.x, .int .i64 b.y, .int .i64 b.z] 22)).alloc (.cells #[.int .i64 0, .int .i64 0, .int .i64 0] 22)).alloc (.cells #[.int .i64 0, .int .i64 0] 54) = W1 at *
      obtain ⟨cn3, cn4, cn5, cn6, cn7, cn8, cn9, cn10, cn22, cn23, cn24, cn25, ca0, ca1, ca2, cb0, cb1, cb2, cq0, fq0, cq1, fq1, cz0, fz0, cz1, fz1, cz2, fz2, ln, la, lb, lz, lq⟩ := RO.out.all
      have cn0 := RO.out.n.cell 0 _ e0
      go_upto_region 4 with (first | (go_at_call 41; (first | (with_reducible refine (Hw.out _).mono ?_) | (with_reducible refine (HC.out _).mono ?_)); rintro e w9 ⟨rfl, hb9⟩; replace RO := Lib.hid (RO.out.over hb9); replace BW := Lib.hid (below_call BW.out hb9); clear hb9; clear cn0 cn3 cn4 cn5 cn6 cn7 cn8 cn9 cn10 cn22 cn23 cn24 cn25 ca0 ca1 ca2 cb0 cb1 cb2 cq0 fq0 cq1 fq1 cz0 fz0 cz1 fz1 cz2 fz2 ln la lb lz lq; obtain ⟨cn3, cn4, cn5, cn6, cn7, cn8, cn9, cn10, cn22, cn23, cn24, cn25, ca0, ca1, ca2, cb0, cb1, cb2, cq0, fq0, cq1, fq1, cz0, fz0, cz1, fz1, cz2, fz2, ln, la, lb, lz, lq⟩ := RO.out.all; have cn0 := RO.out.n.cell 0 _ e0))
      have hal := Below.alloc (Below.refl w9.heap.size w9) (Nat.le_refl _) (.cells #[.int .i64 a.x, .int .i64 a.y] 54)
      have RX := Lib.hid (RowAt.new w9 [.int .i64 a.x, .int .i64 a.y] 54)
      replace RO := Lib.hid (RO.out.over hal)
      replace BW := Lib.hid (below_call BW.out hal)
      clear hal
      clear cn0 cn3 cn4 cn5 cn6 cn7 cn8 cn9 cn10 cn22 cn23 cn24 cn25 ca0 ca1 ca2 cb0 cb1 cb2 cq0 fq0 cq1 fq1 cz0 fz0 cz1 fz1 cz2 fz2 ln la lb lz lq
      obtain ⟨X, hX⟩ : ∃ X, X = w9.heap.size := ⟨_, rfl⟩
      rw [← hX] at RX ⊢
      clear hX
      generalize w9.alloc (.cells #[.int .i64 a.x, .int .i64 a.y] 54) = W4 at *
      obtain ⟨cn3, cn4, cn5, cn6, cn7, cn8, cn9, cn10, cn22, cn23, cn24, cn25, ca0, ca1, ca2, cb0, cb1, cb2, cq0, fq0, cq1, fq1, cz0, fz0, cz1, fz1, cz2, fz2, ln, la, lb, lz, lq⟩ := RO.out.all
      have cn0 := RO.out.n.cell 0 _ e0
      have cx0 := RX.out.cell 0 _ rfl
      have cx1 := RX.out.cell 1 _ rfl
      have lx := RX.out.lt
      go_upto_region 7 with (first | (go_at_call 52; (with_reducible refine (WG.out _).mono ?_); rintro e w9 ⟨rfl, hb9⟩; replace RX := Lib.hid (RX.out.over hb9); clear cx0 cx1 lx; have cx0 := RX.out.cell 0 _ rfl; have cx1 := RX.out.cell 1 _ rfl; have lx := RX.out.lt; replace RO := Lib.hid (RO.out.over hb9); replace BW := Lib.hid (below_call BW.out hb9); clear hb9; clear cn0 cn3 cn4 cn5 cn6 cn7 cn8 cn9 cn10 cn22 cn23 cn24 cn25 ca0 ca1 ca2 cb0 cb1 cb2 cq0 fq0 cq1 fq1 cz0 fz0 cz1 fz1 cz2 fz2 ln la lb lz lq; obtain ⟨cn3, cn4, cn5, cn6, cn7, cn8, cn9, cn10, cn22, cn23, cn24, cn25, ca0, ca1, ca2, cb0, cb1, cb2, cq0, fq0, cq1, fq1, cz0, fz0, cz1, fz1, cz2, fz2, ln, la, lb, lz, lq⟩ := RO.out.all; have cn0 := RO.out.n.cell 0 _ e0) | (go_at_call 53; (with_reducible refine (WO.out _).mono ?_); rintro e w9 ⟨rfl, hb9⟩; replace RX := Lib.hid (RX.out.over hb9); clear cx0 cx1 lx; have cx0 := RX.out.cell 0 _ rfl; have cx1 := RX.out.cell 1 _ rfl; have lx := RX.out.lt; replace RO := Lib.hid (RO.out.over hb9); replace BW := Lib.hid (below_call BW.out hb9); clear hb9; clear cn0 cn3 cn4 cn5 cn6 cn7 cn8 cn9 cn10 cn22 cn23 cn24 cn25 ca0 ca1 ca2 cb0 cb1 cb2 cq0 fq0 cq1 fq1 cz0 fz0 cz1 fz1 cz2 fz2 ln la lb lz lq; obtain ⟨cn3, cn4, cn5, cn6, cn7, cn8, cn9, cn10, cn22, cn23, cn24, cn25, ca0, ca1, ca2, cb0, cb1, cb2, cq0, fq0, cq1, fq1, cz0, fz0, cz1, fz1, cz2, fz2, ln, la, lb, lz, lq⟩ := RO.out.all; have cn0 := RO.out.n.cell 0 _ e0))
      replace RO := Lib.hid (RO.out.setq (rowX n a) (rowY n a))
      replace BW := Lib.hid (below_setq (x := rowX n a) (y := rowY n a) BW.out)
      clear cn0 cn3 cn4 cn5 cn6 cn7 cn8 cn9 cn10 cn22 cn23 cn24 cn25 ca0 ca1 ca2 cb0 cb1 cb2 cq0 fq0 cq1 fq1 cz0 fz0 cz1 fz1 cz2 fz2 ln la lb lz lq
      clear cx0 cx1 lx RX
      generalize (w9.setCell ⟨w.heap.size + 1 + 1 + 1 + 1, 0, none⟩ (.int .i64 (rowX n a))).setCell ⟨w.heap.size + 1 + 1 + 1 + 1, 1, none⟩ (.int .i64 (rowY n a)) = W7 at *
      obtain ⟨cn3, cn4, cn5, cn6, cn7, cn8, cn9, cn10, cn22, cn23, cn24, cn25, ca0, ca1, ca2, cb0, cb1, cb2, cq0, fq0, cq1, fq1, cz0, fz0, cz1, fz1, cz2, fz2, ln, la, lb, lz, lq⟩ := RO.out.all
      have cn0 := RO.out.n.cell 0 _ e0
      go_wp2_with (first | (go_at_call 41; (first | (with_reducible refine (Hw.out _).mono ?_) | (with_reducible refine (HC.out _).mono ?_)); rintro e w9 ⟨rfl, hb9⟩; replace RO := Lib.hid (RO.out.over hb9); replace BW := Lib.hid (below_call BW.out hb9); clear hb9; clear cn0 cn3 cn4 cn5 cn6 cn7 cn8 cn9 cn10 cn22 cn23 cn24 cn25 ca0 ca1 ca2 cb0 cb1 cb2 cq0 fq0 cq1 fq1 cz0 fz0 cz1 fz1 cz2 fz2 ln la lb lz lq; obtain ⟨cn3, cn4, cn5, cn6, cn7, cn8, cn9, cn10, cn22, cn23, cn24, cn25, ca0, ca1, ca2, cb0, cb1, cb2, cq0, fq0, cq1, fq1, cz0, fz0, cz1, fz1, cz2, fz2, ln, la, lb, lz, lq⟩ := RO.out.all; have cn0 := RO.out.n.cell 0 _ e0))
      all_goals exact bodyPost_ret (results_cell_mid2 rfl _ _ (w.heap.size + 1 + 1 + 1) _ rfl (load_row (RO.out.put _ _ _) 22 _ Try.underlying22 rfl (by kernel_rfl))) rfl ⟨_, _, _, rfl, below_put BW.out, by first | (intro _; rfl) | (intro h; simp at h) | (intro h; exact absurd h (by assumption))⟩
    have c1b : decide (64 < n.chans) = false := by simpa using c1
    have HO := Lib.hid (show outN n a b = (0, ⟨rowX n a, rowY n a, n.chans⟩) by (have h1 : 1 ≤ n.chans := by omega); (have h2 : n.chans ≤ 64 := by omega); simp [outN, ho, hWin, hC, h1, h2, hg])
    have e0 : n.cells[0]? = some (.int .i64 2) := by rw [← ho]; rfl
    unfold RoPost
    rw [HO.out]
    clear ho ha hb HO hg c0 c1
    go_enter Try.func33, Try.ntmps33
    go_upto_region 2 with fail
    have RO := NEW
    clear NEW
    generalize ((((w.alloc (.cells n.cells.toArray 57)).alloc (.cells #[.int .i64 a.x, .int .i64 a.y, .int .i64 a.z] 22)).alloc (.cells #[.int .i64 b.x, .int .i64 b.y, .int .i64 b.z] 22)).alloc (.cells #[.int .i64 0, .int .i64 0, .int .i64 0] 22)).alloc (.cells #[.int .i64 0, .int .i64 0] 54) = W1 at *
    obtain ⟨cn3, cn4, cn5, cn6, cn7, cn8, cn9, cn10, cn22, cn23, cn24, cn25, ca0, ca1, ca2, cb0, cb1, cb2, cq0, fq0, cq1, fq1, cz0, fz0, cz1, fz1, cz2, fz2, ln, la, lb, lz, lq⟩ := RO.out.all
    have cn0 := RO.out.n.cell 0 _ e0
    go_upto_region 4 with (first | (go_at_call 41; (first | (with_reducible refine (Hw.out _).mono ?_) | (with_reducible refine (HC.out _).mono ?_)); rintro e w9 ⟨rfl, hb9⟩; replace RO := Lib.hid (RO.out.over hb9); replace BW := Lib.hid (below_call BW.out hb9); clear hb9; clear cn0 cn3 cn4 cn5 cn6 cn7 cn8 cn9 cn10 cn22 cn23 cn24 cn25 ca0 ca1 ca2 cb0 cb1 cb2 cq0 fq0 cq1 fq1 cz0 fz0 cz1 fz1 cz2 fz2 ln la lb lz lq; obtain ⟨cn3, cn4, cn5, cn6, cn7, cn8, cn9, cn10, cn22, cn23, cn24, cn25, ca0, ca1, ca2, cb0, cb1, cb2, cq0, fq0, cq1, fq1, cz0, fz0, cz1, fz1, cz2, fz2, ln, la, lb, lz, lq⟩ := RO.out.all; have cn0 := RO.out.n.cell 0 _ e0))
    have hal := Below.alloc (Below.refl w9.heap.size w9) (Nat.le_refl _) (.cells #[.int .i64 a.x, .int .i64 a.y] 54)
    have RX := Lib.hid (RowAt.new w9 [.int .i64 a.x, .int .i64 a.y] 54)
    replace RO := Lib.hid (RO.out.over hal)
    replace BW := Lib.hid (below_call BW.out hal)
    clear hal
    clear cn0 cn3 cn4 cn5 cn6 cn7 cn8 cn9 cn10 cn22 cn23 cn24 cn25 ca0 ca1 ca2 cb0 cb1 cb2 cq0 fq0 cq1 fq1 cz0 fz0 cz1 fz1 cz2 fz2 ln la lb lz lq
    obtain ⟨X, hX⟩ : ∃ X, X = w9.heap.size := ⟨_, rfl⟩
    rw [← hX] at RX ⊢
    clear hX
    generalize w9.alloc (.cells #[.int .i64 a.x, .int .i64 a.y] 54) = W4 at *
    obtain ⟨cn3, cn4, cn5, cn6, cn7, cn8, cn9, cn10, cn22, cn23, cn24, cn25, ca0, ca1, ca2, cb0, cb1, cb2, cq0, fq0, cq1, fq1, cz0, fz0, cz1, fz1, cz2, fz2, ln, la, lb, lz, lq⟩ := RO.out.all
    have cn0 := RO.out.n.cell 0 _ e0
    have cx0 := RX.out.cell 0 _ rfl
    have cx1 := RX.out.cell 1 _ rfl
    have lx := RX.out.lt
    go_upto_region 7 with (first | (go_at_call 52; (with_reducible refine (WG.out _).mono ?_); rintro e w9 ⟨rfl, hb9⟩; replace RX := Lib.hid (RX.out.over hb9); clear cx0 cx1 lx; have cx0 := RX.out.cell 0 _ rfl; have cx1 := RX.out.cell 1 _ rfl; have lx := RX.out.lt; replace RO := Lib.hid (RO.out.over hb9); replace BW := Lib.hid (below_call BW.out hb9); clear hb9; clear cn0 cn3 cn4 cn5 cn6 cn7 cn8 cn9 cn10 cn22 cn23 cn24 cn25 ca0 ca1 ca2 cb0 cb1 cb2 cq0 fq0 cq1 fq1 cz0 fz0 cz1 fz1 cz2 fz2 ln la lb lz lq; obtain ⟨cn3, cn4, cn5, cn6, cn7, cn8, cn9, cn10, cn22, cn23, cn24, cn25, ca0, ca1, ca2, cb0, cb1, cb2, cq0, fq0, cq1, fq1, cz0, fz0, cz1, fz1, cz2, fz2, ln, la, lb, lz, lq⟩ := RO.out.all; have cn0 := RO.out.n.cell 0 _ e0) | (go_at_call 53; (with_reducible refine (WO.out _).mono ?_); rintro e w9 ⟨rfl, hb9⟩; replace RX := Lib.hid (RX.out.over hb9); clear cx0 cx1 lx; have cx0 := RX.out.cell 0 _ rfl; have cx1 := RX.out.cell 1 _ rfl; have lx := RX.out.lt; replace RO := Lib.hid (RO.out.over hb9); replace BW := Lib.hid (below_call BW.out hb9); clear hb9; clear cn0 cn3 cn4 cn5 cn6 cn7 cn8 cn9 cn10 cn22 cn23 cn24 cn25 ca0 ca1 ca2 cb0 cb1 cb2 cq0 fq0 cq1 fq1 cz0 fz0 cz1 fz1 cz2 fz2 ln la lb lz lq; obtain ⟨cn3, cn4, cn5, cn6, cn7, cn8, cn9, cn10, cn22, cn23, cn24, cn25, ca0, ca1, ca2, cb0, cb1, cb2, cq0, fq0, cq1, fq1, cz0, fz0, cz1, fz1, cz2, fz2, ln, la, lb, lz, lq⟩ := RO.out.all; have cn0 := RO.out.n.cell 0 _ e0))
    replace RO := Lib.hid (RO.out.setq (rowX n a) (rowY n a))
    replace BW := Lib.hid (below_setq (x := rowX n a) (y := rowY n a) BW.out)
    clear cn0 cn3 cn4 cn5 cn6 cn7 cn8 cn9 cn10 cn22 cn23 cn24 cn25 ca0 ca1 ca2 cb0 cb1 cb2 cq0 fq0 cq1 fq1 cz0 fz0 cz1 fz1 cz2 fz2 ln la lb lz lq
    clear cx0 cx1 lx RX
    generalize (w9.setCell ⟨w.heap.size + 1 + 1 + 1 + 1, 0, none⟩ (.int .i64 (rowX n a))).setCell ⟨w.heap.size + 1 + 1 + 1 + 1, 1, none⟩ (.int .i64 (rowY n a)) = W7 at *
    obtain ⟨cn3, cn4, cn5, cn6, cn7, cn8, cn9, cn10, cn22, cn23, cn24, cn25, ca0, ca1, ca2, cb0, cb1, cb2, cq0, fq0, cq1, fq1, cz0, fz0, cz1, fz1, cz2, fz2, ln, la, lb, lz, lq⟩ := RO.out.all
    have cn0 := RO.out.n.cell 0 _ e0
    go_wp2_with (first | (go_at_call 41; (first | (with_reducible refine (Hw.out _).mono ?_) | (with_reducible refine (HC.out _).mono ?_)); rintro e w9 ⟨rfl, hb9⟩; replace RO := Lib.hid (RO.out.over hb9); replace BW := Lib.hid (below_call BW.out hb9); clear hb9; clear cn0 cn3 cn4 cn5 cn6 cn7 cn8 cn9 cn10 cn22 cn23 cn24 cn25 ca0 ca1 ca2 cb0 cb1 cb2 cq0 fq0 cq1 fq1 cz0 fz0 cz1 fz1 cz2 fz2 ln la lb lz lq; obtain ⟨cn3, cn4, cn5, cn6, cn7, cn8, cn9, cn10, cn22, cn23, cn24, cn25, ca0, ca1, ca2, cb0, cb1, cb2, cq0, fq0, cq1, fq1, cz0, fz0, cz1, fz1, cz2, fz2, ln, la, lb, lz, lq⟩ := RO.out.all; have cn0 := RO.out.n.cell 0 _ e0))
    all_goals exact bodyPost_ret (results_cell_mid2 rfl _ _ (w.heap.size + 1 + 1 + 1) _ rfl (load_row (RO.out.put _ _ _) 22 _ Try.underlying22 rfl (by kernel_rfl))) rfl ⟨_, _, _, rfl, below_put BW.out, by first | (intro _; rfl) | (intro h; simp at h) | (intro h; exact absurd h (by assumption))⟩
end Go.Proofs.Ytdbfakllcaojcaa
