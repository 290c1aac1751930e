/- The document's out, operators 10. -/
import Derived.Test.YtdbfakllcaojcaaRsO0
namespace Go.Proofs.Ytdbfakllcaojcaa
open Go Go.RowKit
set_option linter.unusedVariables false
set_option linter.unusedSimpArgs false
set_option maxRecDepth 100000

set_option maxHeartbeats 8000000 in
theorem rout_op10 : ROc 10 := by
  intro n a b ho ha hb w
  obtain ⟨⟨ax0, ax1⟩, ⟨ay0, ay1⟩, ⟨az0, az1⟩⟩ := good_bd ha
  obtain ⟨⟨bx0, bx1⟩, ⟨by0, by1⟩, ⟨bz0, bz1⟩⟩ := good_bd hb
  have HP : ∀ e w', RoPost n a b w e w' ↔ RoPost n a b w e w' := fun _ _ => Iff.rfl
  clear HP
  have Hw := Lib.hid (fun W => (show Calls Try.prog 41 #[.int .i64 10, .int .u8 119] W fun e w' => e = .returned (.bool false) ∧ Below W.heap.size W w' from rhas_w 10 (by decide) (by decide) W))
  have HC := Lib.hid (fun W => (show Calls Try.prog 41 #[.int .i64 10, .int .u8 67] W fun e w' => e = .returned (.bool false) ∧ Below W.heap.size W w' from rhas_CC 10 (by decide) (by decide) W))
  have NEW := Lib.hid (OAt.new w n a b)
  have BN : Below w.heap.size w (((((w.alloc (.cells n.cells.toArray 57)).alloc (.cells #[.int .i64 a.x, .int .i64 a.y, .int .i64 a.z] 22)).alloc (.cells #[.int .i64 b.x, .int .i64 b.y, .int .i64 b.z] 22)).alloc (.cells #[.int .i64 0, .int .i64 0, .int .i64 0] 22)).alloc (.cells #[.int .i64 0, .int .i64 0] 54)) := by go_grown
  have BW := Lib.hid BN
  clear BN
  by_cases l0 : n.p0 < 0
  · have l0b : decide (n.p0 < 0) = true := by simpa using l0
    have HO := Lib.hid (show outN n a b = (10, ⟨a.x + n.p0 + n.p2, a.y + n.p1 + n.p3, a.z⟩) by (have h1 : padB7 n = false := by (unfold padB7; simp; omega)); simp [outN, ho, hWin, hC, h1])
    have e0 : n.cells[0]? = some (.int .i64 10) := by rw [← ho]; rfl
    unfold RoPost
    rw [HO.out]
    clear ho ha hb HO l0
    go_enter Try.func33, Try.ntmps33
    go_upto_region 2 with fail
    have RO := NEW
    clear NEW
    generalize ((((w.alloc (.cells n.cells.toArray 57)).alloc (.cells #[.int .i64 a.x, .int .i64 a.y, .int .i64 a.z] 22)).alloc (.cells #[.int .i64 b.x, .int .i64 b.y, .int .i64 b.z] 22)).alloc (.cells #[.int .i64 0, .int .i64 0, .int .i64 0] 22)).alloc (.cells #[.int .i64 0, .int .i64 0] 54) = W1 at *
    obtain ⟨cn3, cn4, cn5, cn6, cn7, cn8, cn9, cn10, cn22, cn23, cn24, cn25, ca0, ca1, ca2, cb0, cb1, cb2, cq0, fq0, cq1, fq1, cz0, fz0, cz1, fz1, cz2, fz2, ln, la, lb, lz, lq⟩ := RO.out.all
    have cn0 := RO.out.n.cell 0 _ e0
    go_wp2_with (first | (go_at_call 41; (first | (with_reducible refine (Hw.out _).mono ?_) | (with_reducible refine (HC.out _).mono ?_)); rintro e w9 ⟨rfl, hb9⟩; replace RO := Lib.hid (RO.out.over hb9); replace BW := Lib.hid (below_call BW.out hb9); clear hb9; clear cn0 cn3 cn4 cn5 cn6 cn7 cn8 cn9 cn10 cn22 cn23 cn24 cn25 ca0 ca1 ca2 cb0 cb1 cb2 cq0 fq0 cq1 fq1 cz0 fz0 cz1 fz1 cz2 fz2 ln la lb lz lq; obtain ⟨cn3, cn4, cn5, cn6, cn7, cn8, cn9, cn10, cn22, cn23, cn24, cn25, ca0, ca1, ca2, cb0, cb1, cb2, cq0, fq0, cq1, fq1, cz0, fz0, cz1, fz1, cz2, fz2, ln, la, lb, lz, lq⟩ := RO.out.all; have cn0 := RO.out.n.cell 0 _ e0))
    refine wp_loop_rounds 1 ?_
    rw [rounds_succ]
    go_wp2_with fail
    all_goals exact bodyPost_ret (results_cell_mid2 rfl _ _ (w.heap.size + 1 + 1 + 1) _ rfl (load_row (RO.out.put _ _ _) 22 _ Try.underlying22 rfl (by kernel_rfl))) rfl ⟨_, _, _, rfl, below_put BW.out, by first | (intro _; rfl) | (intro h; simp at h) | (intro h; exact absurd h (by assumption))⟩
  have l0b : decide (n.p0 < 0) = false := by simpa using l0
  by_cases g0 : 7 < n.p0
  · have g0b : decide (7 < n.p0) = true := by simpa using g0
    have HO := Lib.hid (show outN n a b = (10, ⟨a.x + n.p0 + n.p2, a.y + n.p1 + n.p3, a.z⟩) by (have h1 : padB7 n = false := by (unfold padB7; simp; omega)); simp [outN, ho, hWin, hC, h1])
    have e0 : n.cells[0]? = some (.int .i64 10) := by rw [← ho]; rfl
    unfold RoPost
    rw [HO.out]
    clear ho ha hb HO l0 g0
    go_enter Try.func33, Try.ntmps33
    go_upto_region 2 with fail
    have RO := NEW
    clear NEW
    generalize ((((w.alloc (.cells n.cells.toArray 57)).alloc (.cells #[.int .i64 a.x, .int .i64 a.y, .int .i64 a.z] 22)).alloc (.cells #[.int .i64 b.x, .int .i64 b.y, .int .i64 b.z] 22)).alloc (.cells #[.int .i64 0, .int .i64 0, .int .i64 0] 22)).alloc (.cells #[.int .i64 0, .int .i64 0] 54) = W1 at *
    obtain ⟨cn3, cn4, cn5, cn6, cn7, cn8, cn9, cn10, cn22, cn23, cn24, cn25, ca0, ca1, ca2, cb0, cb1, cb2, cq0, fq0, cq1, fq1, cz0, fz0, cz1, fz1, cz2, fz2, ln, la, lb, lz, lq⟩ := RO.out.all
    have cn0 := RO.out.n.cell 0 _ e0
    go_wp2_with (first | (go_at_call 41; (first | (with_reducible refine (Hw.out _).mono ?_) | (with_reducible refine (HC.out _).mono ?_)); rintro e w9 ⟨rfl, hb9⟩; replace RO := Lib.hid (RO.out.over hb9); replace BW := Lib.hid (below_call BW.out hb9); clear hb9; clear cn0 cn3 cn4 cn5 cn6 cn7 cn8 cn9 cn10 cn22 cn23 cn24 cn25 ca0 ca1 ca2 cb0 cb1 cb2 cq0 fq0 cq1 fq1 cz0 fz0 cz1 fz1 cz2 fz2 ln la lb lz lq; obtain ⟨cn3, cn4, cn5, cn6, cn7, cn8, cn9, cn10, cn22, cn23, cn24, cn25, ca0, ca1, ca2, cb0, cb1, cb2, cq0, fq0, cq1, fq1, cz0, fz0, cz1, fz1, cz2, fz2, ln, la, lb, lz, lq⟩ := RO.out.all; have cn0 := RO.out.n.cell 0 _ e0))
    refine wp_loop_rounds 1 ?_
    rw [rounds_succ]
    go_wp2_with fail
    all_goals exact bodyPost_ret (results_cell_mid2 rfl _ _ (w.heap.size + 1 + 1 + 1) _ rfl (load_row (RO.out.put _ _ _) 22 _ Try.underlying22 rfl (by kernel_rfl))) rfl ⟨_, _, _, rfl, below_put BW.out, by first | (intro _; rfl) | (intro h; simp at h) | (intro h; exact absurd h (by assumption))⟩
  have g0b : decide (7 < n.p0) = false := by simpa using g0
  by_cases l1 : n.p1 < 0
  · have l1b : decide (n.p1 < 0) = true := by simpa using l1
    have HO := Lib.hid (show outN n a b = (10, ⟨a.x + n.p0 + n.p2, a.y + n.p1 + n.p3, a.z⟩) by (have h1 : padB7 n = false := by (unfold padB7; simp; omega)); simp [outN, ho, hWin, hC, h1])
    have e0 : n.cells[0]? = some (.int .i64 10) := by rw [← ho]; rfl
    unfold RoPost
    rw [HO.out]
    clear ho ha hb HO l0 l1 g0
    go_enter Try.func33, Try.ntmps33
    go_upto_region 2 with fail
    have RO := NEW
    clear NEW
    generalize ((((w.alloc (.cells n.cells.toArray 57)).alloc (.cells #[.int .i64 a.x, .int .i64 a.y, .int .i64 a.z] 22)).alloc (.cells #[.int .i64 b.x, .int .i64 b.y, .int .i64 b.z] 22)).alloc (.cells #[.int .i64 0, .int .i64 0, .int .i64 0] 22)).alloc (.cells #[.int .i64 0, .int .i64 0] 54) = W1 at *
    obtain ⟨cn3, cn4, cn5, cn6, cn7, cn8, cn9, cn10, cn22, cn23, cn24, cn25, ca0, ca1, ca2, cb0, cb1, cb2, cq0, fq0, cq1, fq1, cz0, fz0, cz1, fz1, cz2, fz2, ln, la, lb, lz, lq⟩ := RO.out.all
    have cn0 := RO.out.n.cell 0 _ e0
    go_wp2_with (first | (go_at_call 41; (first | (with_reducible refine (Hw.out _).mono ?_) | (with_reducible refine (HC.out _).mono ?_)); rintro e w9 ⟨rfl, hb9⟩; replace RO := Lib.hid (RO.out.over hb9); replace BW := Lib.hid (below_call BW.out hb9); clear hb9; clear cn0 cn3 cn4 cn5 cn6 cn7 cn8 cn9 cn10 cn22 cn23 cn24 cn25 ca0 ca1 ca2 cb0 cb1 cb2 cq0 fq0 cq1 fq1 cz0 fz0 cz1 fz1 cz2 fz2 ln la lb lz lq; obtain ⟨cn3, cn4, cn5, cn6, cn7, cn8, cn9, cn10, cn22, cn23, cn24, cn25, ca0, ca1, ca2, cb0, cb1, cb2, cq0, fq0, cq1, fq1, cz0, fz0, cz1, fz1, cz2, fz2, ln, la, lb, lz, lq⟩ := RO.out.all; have cn0 := RO.out.n.cell 0 _ e0))
    refine wp_loop_rounds 2 ?_
    rw [rounds_succ]
    go_wp2_with fail
    rw [rounds_succ]
    go_wp2_with fail
    all_goals exact bodyPost_ret (results_cell_mid2 rfl _ _ (w.heap.size + 1 + 1 + 1) _ rfl (load_row (RO.out.put _ _ _) 22 _ Try.underlying22 rfl (by kernel_rfl))) rfl ⟨_, _, _, rfl, below_put BW.out, by first | (intro _; rfl) | (intro h; simp at h) | (intro h; exact absurd h (by assumption))⟩
  have l1b : decide (n.p1 < 0) = false := by simpa using l1
  by_cases g1 : 7 < n.p1
  · have g1b : decide (7 < n.p1) = true := by simpa using g1
    have HO := Lib.hid (show outN n a b = (10, ⟨a.x + n.p0 + n.p2, a.y + n.p1 + n.p3, a.z⟩) by (have h1 : padB7 n = false := by (unfold padB7; simp; omega)); simp [outN, ho, hWin, hC, h1])
    have e0 : n.cells[0]? = some (.int .i64 10) := by rw [← ho]; rfl
    unfold RoPost
    rw [HO.out]
    clear ho ha hb HO l0 g0 l1 g1
    go_enter Try.func33, Try.ntmps33
    go_upto_region 2 with fail
    have RO := NEW
    clear NEW
    generalize ((((w.alloc (.cells n.cells.toArray 57)).alloc (.cells #[.int .i64 a.x, .int .i64 a.y, .int .i64 a.z] 22)).alloc (.cells #[.int .i64 b.x, .int .i64 b.y, .int .i64 b.z] 22)).alloc (.cells #[.int .i64 0, .int .i64 0, .int .i64 0] 22)).alloc (.cells #[.int .i64 0, .int .i64 0] 54) = W1 at *
    obtain ⟨cn3, cn4, cn5, cn6, cn7, cn8, cn9, cn10, cn22, cn23, cn24, cn25, ca0, ca1, ca2, cb0, cb1, cb2, cq0, fq0, cq1, fq1, cz0, fz0, cz1, fz1, cz2, fz2, ln, la, lb, lz, lq⟩ := RO.out.all
    have cn0 := RO.out.n.cell 0 _ e0
    go_wp2_with (first | (go_at_call 41; (first | (with_reducible refine (Hw.out _).mono ?_) | (with_reducible refine (HC.out _).mono ?_)); rintro e w9 ⟨rfl, hb9⟩; replace RO := Lib.hid (RO.out.over hb9); replace BW := Lib.hid (below_call BW.out hb9); clear hb9; clear cn0 cn3 cn4 cn5 cn6 cn7 cn8 cn9 cn10 cn22 cn23 cn24 cn25 ca0 ca1 ca2 cb0 cb1 cb2 cq0 fq0 cq1 fq1 cz0 fz0 cz1 fz1 cz2 fz2 ln la lb lz lq; obtain ⟨cn3, cn4, cn5, cn6, cn7, cn8, cn9, cn10, cn22, cn23, cn24, cn25, ca0, ca1, ca2, cb0, cb1, cb2, cq0, fq0, cq1, fq1, cz0, fz0, cz1, fz1, cz2, fz2, ln, la, lb, lz, lq⟩ := RO.out.all; have cn0 := RO.out.n.cell 0 _ e0))
    refine wp_loop_rounds 2 ?_
    rw [rounds_succ]
    go_wp2_with fail
    rw [rounds_succ]
    go_wp2_with fail
    all_goals exact bodyPost_ret (results_cell_mid2 rfl _ _ (w.heap.size + 1 + 1 + 1) _ rfl (load_row (RO.out.put _ _ _) 22 _ Try.underlying22 rfl (by kernel_rfl))) rfl ⟨_, _, _, rfl, below_put BW.out, by first | (intro _; rfl) | (intro h; simp at h) | (intro h; exact absurd h (by assumption))⟩
  have g1b : decide (7 < n.p1) = false := by simpa using g1
  by_cases l2 : n.p2 < 0
  · have l2b : decide (n.p2 < 0) = true := by simpa using l2
    have HO := Lib.hid (show outN n a b = (10, ⟨a.x + n.p0 + n.p2, a.y + n.p1 + n.p3, a.z⟩) by (have h1 : padB7 n = false := by (unfold padB7; simp; omega)); simp [outN, ho, hWin, hC, h1])
    have e0 : n.cells[0]? = some (.int .i64 10) := by rw [← ho]; rfl
    unfold RoPost
    rw [HO.out]
    clear ho ha hb HO l0 l1 l2 g0 g1
    go_enter Try.func33, Try.ntmps33
    go_upto_region 2 with fail
    have RO := NEW
    clear NEW
    generalize ((((w.alloc (.cells n.cells.toArray 57)).alloc (.cells #[.int .i64 a.x, .int .i64 a.y, .int .i64 a.z] 22)).alloc (.cells #[.int .i64 b.x, .int .i64 b.y, .int .i64 b.z] 22)).alloc (.cells #[.int .i64 0, .int .i64 0, .int .i64 0] 22)).alloc (.cells #[.int .i64 0, .int .i64 0] 54) = W1 at *
    obtain ⟨cn3, cn4, cn5, cn6, cn7, cn8, cn9, cn10, cn22, cn23, cn24, cn25, ca0, ca1, ca2, cb0, cb1, cb2, cq0, fq0, cq1, fq1, cz0, fz0, cz1, fz1, cz2, fz2, ln, la, lb, lz, lq⟩ := RO.out.all
    have cn0 := RO.out.n.cell 0 _ e0
    go_wp2_with (first | (go_at_call 41; (first | (with_reducible refine (Hw.out _).mono ?_) | (with_reducible refine (HC.out _).mono ?_)); rintro e w9 ⟨rfl, hb9⟩; replace RO := Lib.hid (RO.out.over hb9); replace BW := Lib.hid (below_call BW.out hb9); clear hb9; clear cn0 cn3 cn4 cn5 cn6 cn7 cn8 cn9 cn10 cn22 cn23 cn24 cn25 ca0 ca1 ca2 cb0 cb1 cb2 cq0 fq0 cq1 fq1 cz0 fz0 cz1 fz1 cz2 fz2 ln la lb lz lq; obtain ⟨cn3, cn4, cn5, cn6, cn7, cn8, cn9, cn10, cn22, cn23, cn24, cn25, ca0, ca1, ca2, cb0, cb1, cb2, cq0, fq0, cq1, fq1, cz0, fz0, cz1, fz1, cz2, fz2, ln, la, lb, lz, lq⟩ := RO.out.all; have cn0 := RO.out.n.cell 0 _ e0))
    refine wp_loop_rounds 3 ?_
    rw [rounds_succ]
    go_wp2_with fail
    rw [rounds_succ]
    go_wp2_with fail
    rw [rounds_succ]
    go_wp2_with fail
    all_goals exact bodyPost_ret (results_cell_mid2 rfl _ _ (w.heap.size + 1 + 1 + 1) _ rfl (load_row (RO.out.put _ _ _) 22 _ Try.underlying22 rfl (by kernel_rfl))) rfl ⟨_, _, _, rfl, below_put BW.out, by first | (intro _; rfl) | (intro h; simp at h) | (intro h; exact absurd h (by assumption))⟩
  have l2b : decide (n.p2 < 0) = false := by simpa using l2
  by_cases g2 : 7 < n.p2
  · have g2b : decide (7 < n.p2) = true := by simpa using g2
    have HO := Lib.hid (show outN n a b = (10, ⟨a.x + n.p0 + n.p2, a.y + n.p1 + n.p3, a.z⟩) by (have h1 : padB7 n = false := by (unfold padB7; simp; omega)); simp [outN, ho, hWin, hC, h1])
    have e0 : n.cells[0]? = some (.int .i64 10) := by rw [← ho]; rfl
    unfold RoPost
    rw [HO.out]
    clear ho ha hb HO l0 g0 l1 g1 l2 g2
    go_enter Try.func33, Try.ntmps33
    go_upto_region 2 with fail
    have RO := NEW
    clear NEW
    generalize ((((w.alloc (.cells n.cells.toArray 57)).alloc (.cells #[.int .i64 a.x, .int .i64 a.y, .int .i64 a.z] 22)).alloc (.cells #[.int .i64 b.x, .int .i64 b.y, .int .i64 b.z] 22)).alloc (.cells #[.int .i64 0, .int .i64 0, .int .i64 0] 22)).alloc (.cells #[.int .i64 0, .int .i64 0] 54) = W1 at *
    obtain ⟨cn3, cn4, cn5, cn6, cn7, cn8, cn9, cn10, cn22, cn23, cn24, cn25, ca0, ca1, ca2, cb0, cb1, cb2, cq0, fq0, cq1, fq1, cz0, fz0, cz1, fz1, cz2, fz2, ln, la, lb, lz, lq⟩ := RO.out.all
    have cn0 := RO.out.n.cell 0 _ e0
    go_wp2_with (first | (go_at_call 41; (first | (with_reducible refine (Hw.out _).mono ?_) | (with_reducible refine (HC.out _).mono ?_)); rintro e w9 ⟨rfl, hb9⟩; replace RO := Lib.hid (RO.out.over hb9); replace BW := Lib.hid (below_call BW.out hb9); clear hb9; clear cn0 cn3 cn4 cn5 cn6 cn7 cn8 cn9 cn10 cn22 cn23 cn24 cn25 ca0 ca1 ca2 cb0 cb1 cb2 cq0 fq0 cq1 fq1 cz0 fz0 cz1 fz1 cz2 fz2 ln la lb lz lq; obtain ⟨cn3, cn4, cn5, cn6, cn7, cn8, cn9, cn10, cn22, cn23, cn24, cn25, ca0, ca1, ca2, cb0, cb1, cb2, cq0, fq0, cq1, fq1, cz0, fz0, cz1, fz1, cz2, fz2, ln, la, lb, lz, lq⟩ := RO.out.all; have cn0 := RO.out.n.cell 0 _ e0))
    refine wp_loop_rounds 3 ?_
    rw [rounds_succ]
    go_wp2_with fail
    rw [rounds_succ]
    go_wp2_with fail
    rw [rounds_succ]
    go_wp2_with fail
    all_goals exact bodyPost_ret (results_cell_mid2 rfl _ _ (w.heap.size + 1 + 1 + 1) _ rfl (load_row (RO.out.put _ _ _) 22 _ Try.underlying22 rfl (by kernel_rfl))) rfl ⟨_, _, _, rfl, below_put BW.out, by first | (intro _; rfl) | (intro h; simp at h) | (intro h; exact absurd h (by assumption))⟩
  have g2b : decide (7 < n.p2) = false := by simpa using g2
  by_cases l3 : n.p3 < 0
  · have l3b : decide (n.p3 < 0) = true := by simpa using l3
    have HO := Lib.hid (show outN n a b = (10, ⟨a.x + n.p0 + n.p2, a.y + n.p1 + n.p3, a.z⟩) by (have h1 : padB7 n = false := by (unfold padB7; simp; omega)); simp [outN, ho, hWin, hC, h1])
    have e0 : n.cells[0]? = some (.int .i64 10) := by rw [← ho]; rfl
    unfold RoPost
    rw [HO.out]
    clear ho ha hb HO l0 l1 l2 l3 g0 g1 g2
    go_enter Try.func33, Try.ntmps33
    go_upto_region 2 with fail
    have RO := NEW
    clear NEW
    generalize ((((w.alloc (.cells n.cells.toArray 57)).alloc (.cells #[.int .i64 a.x, .int .i64 a.y, .int .i64 a.z] 22)).alloc (.cells #[.int .i64 b.x, .int .i64 b.y, .int .i64 b.z] 22)).alloc (.cells #[.int .i64 0, .int .i64 0, .int .i64 0] 22)).alloc (.cells #[.int .i64 0, .int .i64 0] 54) = W1 at *
    obtain ⟨cn3, cn4, cn5, cn6, cn7, cn8, cn9, cn10, cn22, cn23, cn24, cn25, ca0, ca1, ca2, cb0, cb1, cb2, cq0, fq0, cq1, fq1, cz0, fz0, cz1, fz1, cz2, fz2, ln, la, lb, lz, lq⟩ := RO.out.all
    have cn0 := RO.out.n.cell 0 _ e0
    go_wp2_with (first | (go_at_call 41; (first | (with_reducible refine (Hw.out _).mono ?_) | (with_reducible refine (HC.out _).mono ?_)); rintro e w9 ⟨rfl, hb9⟩; replace RO := Lib.hid (RO.out.over hb9); replace BW := Lib.hid (below_call BW.out hb9); clear hb9; clear cn0 cn3 cn4 cn5 cn6 cn7 cn8 cn9 cn10 cn22 cn23 cn24 cn25 ca0 ca1 ca2 cb0 cb1 cb2 cq0 fq0 cq1 fq1 cz0 fz0 cz1 fz1 cz2 fz2 ln la lb lz lq; obtain ⟨cn3, cn4, cn5, cn6, cn7, cn8, cn9, cn10, cn22, cn23, cn24, cn25, ca0, ca1, ca2, cb0, cb1, cb2, cq0, fq0, cq1, fq1, cz0, fz0, cz1, fz1, cz2, fz2, ln, la, lb, lz, lq⟩ := RO.out.all; have cn0 := RO.out.n.cell 0 _ e0))
    refine wp_loop_rounds 4 ?_
    rw [rounds_succ]
    go_wp2_with fail
    rw [rounds_succ]
    go_wp2_with fail
    rw [rounds_succ]
    go_wp2_with fail
    rw [rounds_succ]
    go_wp2_with fail
    all_goals exact bodyPost_ret (results_cell_mid2 rfl _ _ (w.heap.size + 1 + 1 + 1) _ rfl (load_row (RO.out.put _ _ _) 22 _ Try.underlying22 rfl (by kernel_rfl))) rfl ⟨_, _, _, rfl, below_put BW.out, by first | (intro _; rfl) | (intro h; simp at h) | (intro h; exact absurd h (by assumption))⟩
  have l3b : decide (n.p3 < 0) = false := by simpa using l3
  by_cases g3 : 7 < n.p3
  · have g3b : decide (7 < n.p3) = true := by simpa using g3
    have HO := Lib.hid (show outN n a b = (10, ⟨a.x + n.p0 + n.p2, a.y + n.p1 + n.p3, a.z⟩) by (have h1 : padB7 n = false := by (unfold padB7; simp; omega)); simp [outN, ho, hWin, hC, h1])
    have e0 : n.cells[0]? = some (.int .i64 10) := by rw [← ho]; rfl
    unfold RoPost
    rw [HO.out]
    clear ho ha hb HO l0 g0 l1 g1 l2 g2 l3 g3
    go_enter Try.func33, Try.ntmps33
    go_upto_region 2 with fail
    have RO := NEW
    clear NEW
    generalize ((((w.alloc (.cells n.cells.toArray 57)).alloc (.cells #[.int .i64 a.x, .int .i64 a.y, .int .i64 a.z] 22)).alloc (.cells #[.int .i64 b.x, .int .i64 b.y, .int .i64 b.z] 22)).alloc (.cells #[.int .i64 0, .int .i64 0, .int .i64 0] 22)).alloc (.cells #[.int .i64 0, .int .i64 0] 54) = W1 at *
    obtain ⟨cn3, cn4, cn5, cn6, cn7, cn8, cn9, cn10, cn22, cn23, cn24, cn25, ca0, ca1, ca2, cb0, cb1, cb2, cq0, fq0, cq1, fq1, cz0, fz0, cz1, fz1, cz2, fz2, ln, la, lb, lz, lq⟩ := RO.out.all
    have cn0 := RO.out.n.cell 0 _ e0
    go_wp2_with (first | (go_at_call 41; (first | (with_reducible refine (Hw.out _).mono ?_) | (with_reducible refine (HC.out _).mono ?_)); rintro e w9 ⟨rfl, hb9⟩; replace RO := Lib.hid (RO.out.over hb9); replace BW := Lib.hid (below_call BW.out hb9); clear hb9; clear cn0 cn3 cn4 cn5 cn6 cn7 cn8 cn9 cn10 cn22 cn23 cn24 cn25 ca0 ca1 ca2 cb0 cb1 cb2 cq0 fq0 cq1 fq1 cz0 fz0 cz1 fz1 cz2 fz2 ln la lb lz lq; obtain ⟨cn3, cn4, cn5, cn6, cn7, cn8, cn9, cn10, cn22, cn23, cn24, cn25, ca0, ca1, ca2, cb0, cb1, cb2, cq0, fq0, cq1, fq1, cz0, fz0, cz1, fz1, cz2, fz2, ln, la, lb, lz, lq⟩ := RO.out.all; have cn0 := RO.out.n.cell 0 _ e0))
    refine wp_loop_rounds 4 ?_
    rw [rounds_succ]
    go_wp2_with fail
    rw [rounds_succ]
    go_wp2_with fail
    rw [rounds_succ]
    go_wp2_with fail
    rw [rounds_succ]
    go_wp2_with fail
    all_goals exact bodyPost_ret (results_cell_mid2 rfl _ _ (w.heap.size + 1 + 1 + 1) _ rfl (load_row (RO.out.put _ _ _) 22 _ Try.underlying22 rfl (by kernel_rfl))) rfl ⟨_, _, _, rfl, below_put BW.out, by first | (intro _; rfl) | (intro h; simp at h) | (intro h; exact absurd h (by assumption))⟩
  have g3b : decide (7 < n.p3) = false := by simpa using g3
  have lo0 : 0 ≤ n.p0 := by omega
  have hi0 : n.p0 ≤ 7 := by omega
  have lo1 : 0 ≤ n.p1 := by omega
  have hi1 : n.p1 ≤ 7 := by omega
  have lo2 : 0 ≤ n.p2 := by omega
  have hi2 : n.p2 ≤ 7 := by omega
  have lo3 : 0 ≤ n.p3 := by omega
  have hi3 : n.p3 ≤ 7 := by omega
  have HO := Lib.hid (show outN n a b = (0, ⟨a.x + n.p0 + n.p2, a.y + n.p1 + n.p3, a.z⟩) by (have h1 : padB7 n = true := by (unfold padB7; simp; omega)); simp [outN, ho, hWin, hC, h1])
  have e0 : n.cells[0]? = some (.int .i64 10) := by rw [← ho]; rfl
  unfold RoPost
  rw [HO.out]
  clear ho ha hb HO l0 g0 l1 g1 l2 g2 l3 g3
  go_enter Try.func33, Try.ntmps33
  go_upto_region 2 with fail
  have RO := NEW
  clear NEW
  generalize ((((w.alloc (.cells n.cells.toArray 57)).alloc (.cells #[.int .i64 a.x, .int .i64 a.y, .int .i64 a.z] 22)).alloc (.cells #[.int .i64 b.x, .int .i64 b.y, .int .i64 b.z] 22)).alloc (.cells #[.int .i64 0, .int .i64 0, .int .i64 0] 22)).alloc (.cells #[.int .i64 0, .int .i64 0] 54) = W1 at *
  obtain ⟨cn3, cn4, cn5, cn6, cn7, cn8, cn9, cn10, cn22, cn23, cn24, cn25, ca0, ca1, ca2, cb0, cb1, cb2, cq0, fq0, cq1, fq1, cz0, fz0, cz1, fz1, cz2, fz2, ln, la, lb, lz, lq⟩ := RO.out.all
  have cn0 := RO.out.n.cell 0 _ e0
  go_wp2_with (first | (go_at_call 41; (first | (with_reducible refine (Hw.out _).mono ?_) | (with_reducible refine (HC.out _).mono ?_)); rintro e w9 ⟨rfl, hb9⟩; replace RO := Lib.hid (RO.out.over hb9); replace BW := Lib.hid (below_call BW.out hb9); clear hb9; clear cn0 cn3 cn4 cn5 cn6 cn7 cn8 cn9 cn10 cn22 cn23 cn24 cn25 ca0 ca1 ca2 cb0 cb1 cb2 cq0 fq0 cq1 fq1 cz0 fz0 cz1 fz1 cz2 fz2 ln la lb lz lq; obtain ⟨cn3, cn4, cn5, cn6, cn7, cn8, cn9, cn10, cn22, cn23, cn24, cn25, ca0, ca1, ca2, cb0, cb1, cb2, cq0, fq0, cq1, fq1, cz0, fz0, cz1, fz1, cz2, fz2, ln, la, lb, lz, lq⟩ := RO.out.all; have cn0 := RO.out.n.cell 0 _ e0))
  refine wp_loop_rounds 5 ?_
  rw [rounds_succ]
  go_wp2_with fail
  rw [rounds_succ]
  go_wp2_with fail
  rw [rounds_succ]
  go_wp2_with fail
  rw [rounds_succ]
  go_wp2_with fail
  rw [rounds_succ]
  go_wp2_with fail
  all_goals exact bodyPost_ret (results_cell_mid2 rfl _ _ (w.heap.size + 1 + 1 + 1) _ rfl (load_row (RO.out.put _ _ _) 22 _ Try.underlying22 rfl (by kernel_rfl))) rfl ⟨_, _, _, rfl, below_put BW.out, by first | (intro _; rfl) | (intro h; simp at h) | (intro h; exact absurd h (by assumption))⟩
end Go.Proofs.Ytdbfakllcaojcaa
