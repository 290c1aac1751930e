/- The document's out, operators 4, 7, 8, 9, 12, 13, 14. -/
import Derived.Test.YtdbfakllcaojcaaRsO0
namespace Go.Proofs.Ytdbfakllcaojcaa
open Go Go.RowKit
set_option linter.unusedVariables false
set_option linter.unusedSimpArgs false
set_option maxRecDepth 100000

set_option maxHeartbeats 8000000 in
theorem rout_op4 : ROc 4 := by
  intro n a b ho ha hb w
  obtain ⟨⟨ax0, ax1⟩, ⟨ay0, ay1⟩, ⟨az0, az1⟩⟩ := good_bd ha
  obtain ⟨⟨bx0, bx1⟩, ⟨by0, by1⟩, ⟨bz0, bz1⟩⟩ := good_bd hb
  have HP : ∀ e w', RoPost n a b w e w' ↔ RoPost n a b w e w' := fun _ _ => Iff.rfl
  clear HP
  have Hw := Lib.hid (fun W => (show Calls Try.prog 41 #[.int .i64 4, .int .u8 119] W fun e w' => e = .returned (.bool false) ∧ Below W.heap.size W w' from rhas_w 4 (by decide) (by decide) W))
  have HC := Lib.hid (fun W => (show Calls Try.prog 41 #[.int .i64 4, .int .u8 67] W fun e w' => e = .returned (.bool true) ∧ Below W.heap.size W w' from rhas_CC 4 (by decide) (by decide) W))
  have NEW := Lib.hid (OAt.new w n a b)
  have BN : Below w.heap.size w (((((w.alloc (.cells n.cells.toArray 57)).alloc (.cells #[.int .i64 a.x, .int .i64 a.y, .int .i64 a.z] 22)).alloc (.cells #[.int .i64 b.x, .int .i64 b.y, .int .i64 b.z] 22)).alloc (.cells #[.int .i64 0, .int .i64 0, .int .i64 0] 22)).alloc (.cells #[.int .i64 0, .int .i64 0] 54)) := by go_grown
  have BW := Lib.hid BN
  clear BN
  by_cases c0 : n.chans < 1
  · have c0b : decide (n.chans < 1) = true := by simpa using c0
    have HO := Lib.hid (show outN n a b = (10, a) by (have h1 : ¬ 1 ≤ n.chans := by omega); simp [outN, ho, hWin, hC, h1])
    have e0 : n.cells[0]? = some (.int .i64 4) := by rw [← ho]; rfl
    unfold RoPost
    rw [HO.out]
    clear ho ha hb HO
    go_enter Try.func33, Try.ntmps33
    go_upto_region 2 with fail
    have RO := NEW
    clear NEW
    generalize ((((w.alloc (.cells n.cells.toArray 57)).alloc (.cells #[.int .i64 a.x, .int .i64 a.y, .int .i64 a.z] 22)).alloc (.cells #[.int .i64 b.x, .int .i64 b.y, .int .i64 b.z] 22)).alloc (.cells #[.int .i64 0, .int .i64 0, .int .i64 0] 22)).alloc (.cells #[.int .i64 0, .int .i64 0] 54) = W1 at *
    obtain ⟨cn3, cn4, cn5, cn6, cn7, cn8, cn9, cn10, cn22, cn23, cn24, cn25, ca0, ca1, ca2, cb0, cb1, cb2, cq0, fq0, cq1, fq1, cz0, fz0, cz1, fz1, cz2, fz2, ln, la, lb, lz, lq⟩ := RO.out.all
    have cn0 := RO.out.n.cell 0 _ e0
    go_wp2_with (first | (go_at_call 41; (first | (with_reducible refine (Hw.out _).mono ?_) | (with_reducible refine (HC.out _).mono ?_)); rintro e w9 ⟨rfl, hb9⟩; replace RO := Lib.hid (RO.out.over hb9); replace BW := Lib.hid (below_call BW.out hb9); clear hb9; clear cn0 cn3 cn4 cn5 cn6 cn7 cn8 cn9 cn10 cn22 cn23 cn24 cn25 ca0 ca1 ca2 cb0 cb1 cb2 cq0 fq0 cq1 fq1 cz0 fz0 cz1 fz1 cz2 fz2 ln la lb lz lq; obtain ⟨cn3, cn4, cn5, cn6, cn7, cn8, cn9, cn10, cn22, cn23, cn24, cn25, ca0, ca1, ca2, cb0, cb1, cb2, cq0, fq0, cq1, fq1, cz0, fz0, cz1, fz1, cz2, fz2, ln, la, lb, lz, lq⟩ := RO.out.all; have cn0 := RO.out.n.cell 0 _ e0))
    all_goals exact bodyPost_ret (results_cell_mid2 rfl _ _ (w.heap.size + 1 + 1 + 1) _ rfl (load_row (RO.out.put _ _ _) 22 _ Try.underlying22 rfl (by kernel_rfl))) rfl ⟨_, _, _, rfl, below_put BW.out, by first | (intro _; rfl) | (intro h; simp at h) | (intro h; exact absurd h (by assumption))⟩
  have c0b : decide (n.chans < 1) = false := by simpa using c0
  by_cases c1 : 64 < n.chans
  · have c1b : decide (64 < n.chans) = true := by simpa using c1
    have HO := Lib.hid (show outN n a b = (10, a) by (have h1 : ¬ n.chans ≤ 64 := by omega); simp [outN, ho, hWin, hC, h1])
    have e0 : n.cells[0]? = some (.int .i64 4) := by rw [← ho]; rfl
    unfold RoPost
    rw [HO.out]
    clear ho ha hb HO
    go_enter Try.func33, Try.ntmps33
    go_upto_region 2 with fail
    have RO := NEW
    clear NEW
    generalize ((((w.alloc (.cells n.cells.toArray 57)).alloc (.cells #[.int .i64 a.x, .int .i64 a.y, .int .i64 a.z] 22)).alloc (.cells #[.int .i64 b.x, .int .i64 b.y, .int .i64 b.z] 22)).alloc (.cells #[.int .i64 0, .int .i64 0, .int .i64 0] 22)).alloc (.cells #[.int .i64 0, .int .i64 0] 54) = W1 at *
    obtain ⟨cn3, cn4, cn5, cn6, cn7, cn8, cn9, cn10, cn22, cn23, cn24, cn25, ca0, ca1, ca2, cb0, cb1, cb2, cq0, fq0, cq1, fq1, cz0, fz0, cz1, fz1, cz2, fz2, ln, la, lb, lz, lq⟩ := RO.out.all
    have cn0 := RO.out.n.cell 0 _ e0
    go_wp2_with (first | (go_at_call 41; (first | (with_reducible refine (Hw.out _).mono ?_) | (with_reducible refine (HC.out _).mono ?_)); rintro e w9 ⟨rfl, hb9⟩; replace RO := Lib.hid (RO.out.over hb9); replace BW := Lib.hid (below_call BW.out hb9); clear hb9; clear cn0 cn3 cn4 cn5 cn6 cn7 cn8 cn9 cn10 cn22 cn23 cn24 cn25 ca0 ca1 ca2 cb0 cb1 cb2 cq0 fq0 cq1 fq1 cz0 fz0 cz1 fz1 cz2 fz2 ln la lb lz lq; obtain ⟨cn3, cn4, cn5, cn6, cn7, cn8, cn9, cn10, cn22, cn23, cn24, cn25, ca0, ca1, ca2, cb0, cb1, cb2, cq0, fq0, cq1, fq1, cz0, fz0, cz1, fz1, cz2, fz2, ln, la, lb, lz, lq⟩ := RO.out.all; have cn0 := RO.out.n.cell 0 _ e0))
    all_goals exact bodyPost_ret (results_cell_mid2 rfl _ _ (w.heap.size + 1 + 1 + 1) _ rfl (load_row (RO.out.put _ _ _) 22 _ Try.underlying22 rfl (by kernel_rfl))) rfl ⟨_, _, _, rfl, below_put BW.out, by first | (intro _; rfl) | (intro h; simp at h) | (intro h; exact absurd h (by assumption))⟩
  have c1b : decide (64 < n.chans) = false := by simpa using c1
  have HO := Lib.hid (show outN n a b = (0, ⟨1, 1, n.chans⟩) by (have h1 : 1 ≤ n.chans := by omega); (have h2 : n.chans ≤ 64 := by omega); simp [outN, ho, hWin, hC, h1, h2])
  have e0 : n.cells[0]? = some (.int .i64 4) := by rw [← ho]; rfl
  unfold RoPost
  rw [HO.out]
  clear ho ha hb HO c0 c1
  go_enter Try.func33, Try.ntmps33
  go_upto_region 2 with fail
  have RO := NEW
  clear NEW
  generalize ((((w.alloc (.cells n.cells.toArray 57)).alloc (.cells #[.int .i64 a.x, .int .i64 a.y, .int .i64 a.z] 22)).alloc (.cells #[.int .i64 b.x, .int .i64 b.y, .int .i64 b.z] 22)).alloc (.cells #[.int .i64 0, .int .i64 0, .int .i64 0] 22)).alloc (.cells #[.int .i64 0, .int .i64 0] 54) = W1 at *
  obtain ⟨cn3, cn4, cn5, cn6, cn7, cn8, cn9, cn10, cn22, cn23, cn24, cn25, ca0, ca1, ca2, cb0, cb1, cb2, cq0, fq0, cq1, fq1, cz0, fz0, cz1, fz1, cz2, fz2, ln, la, lb, lz, lq⟩ := RO.out.all
  have cn0 := RO.out.n.cell 0 _ e0
  go_wp2_with (first | (go_at_call 41; (first | (with_reducible refine (Hw.out _).mono ?_) | (with_reducible refine (HC.out _).mono ?_)); rintro e w9 ⟨rfl, hb9⟩; replace RO := Lib.hid (RO.out.over hb9); replace BW := Lib.hid (below_call BW.out hb9); clear hb9; clear cn0 cn3 cn4 cn5 cn6 cn7 cn8 cn9 cn10 cn22 cn23 cn24 cn25 ca0 ca1 ca2 cb0 cb1 cb2 cq0 fq0 cq1 fq1 cz0 fz0 cz1 fz1 cz2 fz2 ln la lb lz lq; obtain ⟨cn3, cn4, cn5, cn6, cn7, cn8, cn9, cn10, cn22, cn23, cn24, cn25, ca0, ca1, ca2, cb0, cb1, cb2, cq0, fq0, cq1, fq1, cz0, fz0, cz1, fz1, cz2, fz2, ln, la, lb, lz, lq⟩ := RO.out.all; have cn0 := RO.out.n.cell 0 _ e0))
  all_goals exact bodyPost_ret (results_cell_mid2 rfl _ _ (w.heap.size + 1 + 1 + 1) _ rfl (load_row (RO.out.put _ _ _) 22 _ Try.underlying22 rfl (by kernel_rfl))) rfl ⟨_, _, _, rfl, below_put BW.out, by first | (intro _; rfl) | (intro h; simp at h) | (intro h; exact absurd h (by assumption))⟩
set_option maxHeartbeats 8000000 in
theorem rout_op7 : ROc 7 := by
  intro n a b ho ha hb w
  obtain ⟨⟨ax0, ax1⟩, ⟨ay0, ay1⟩, ⟨az0, az1⟩⟩ := good_bd ha
  obtain ⟨⟨bx0, bx1⟩, ⟨by0, by1⟩, ⟨bz0, bz1⟩⟩ := good_bd hb
  have HP : ∀ e w', RoPost n a b w e w' ↔ RoPost n a b w e w' := fun _ _ => Iff.rfl
  clear HP
  have Hw := Lib.hid (fun W => (show Calls Try.prog 41 #[.int .i64 7, .int .u8 119] W fun e w' => e = .returned (.bool false) ∧ Below W.heap.size W w' from rhas_w 7 (by decide) (by decide) W))
  have HC := Lib.hid (fun W => (show Calls Try.prog 41 #[.int .i64 7, .int .u8 67] W fun e w' => e = .returned (.bool false) ∧ Below W.heap.size W w' from rhas_CC 7 (by decide) (by decide) W))
  have NEW := Lib.hid (OAt.new w n a b)
  have BN : Below w.heap.size w (((((w.alloc (.cells n.cells.toArray 57)).alloc (.cells #[.int .i64 a.x, .int .i64 a.y, .int .i64 a.z] 22)).alloc (.cells #[.int .i64 b.x, .int .i64 b.y, .int .i64 b.z] 22)).alloc (.cells #[.int .i64 0, .int .i64 0, .int .i64 0] 22)).alloc (.cells #[.int .i64 0, .int .i64 0] 54)) := by go_grown
  have BW := Lib.hid BN
  clear BN
  have EQ : ∀ W, (Op.equalIn 10000 22 (.agg #[.int .i64 a.x, .int .i64 a.y, .int .i64 a.z]) (.agg #[.int .i64 b.x, .int .i64 b.y, .int .i64 b.z])).run Try.prog W = .ok (a.x == b.x && (a.y == b.y && a.z == b.z)) W := fun W => eqB3 Try.underlying22 Try.underlying3 infoI cellsI 9998 _ _ _ _ _ _ W
  by_cases hab : a = b
  · have q : (a.x == b.x && (a.y == b.y && a.z == b.z)) = true := by simp [hab]
    rw [q] at EQ
    have HO := Lib.hid (show outN n a b = (0, a) by simp [outN, ho, hWin, hC, hab])
    have e0 : n.cells[0]? = some (.int .i64 7) := by rw [← ho]; rfl
    unfold RoPost
    rw [HO.out]
    clear ho ha hb HO q hab
    go_enter Try.func33, Try.ntmps33
    go_upto_region 2 with fail
    have RO := NEW
    clear NEW
    generalize ((((w.alloc (.cells n.cells.toArray 57)).alloc (.cells #[.int .i64 a.x, .int .i64 a.y, .int .i64 a.z] 22)).alloc (.cells #[.int .i64 b.x, .int .i64 b.y, .int .i64 b.z] 22)).alloc (.cells #[.int .i64 0, .int .i64 0, .int .i64 0] 22)).alloc (.cells #[.int .i64 0, .int .i64 0] 54) = W1 at *
    obtain ⟨cn3, cn4, cn5, cn6, cn7, cn8, cn9, cn10, cn22, cn23, cn24, cn25, ca0, ca1, ca2, cb0, cb1, cb2, cq0, fq0, cq1, fq1, cz0, fz0, cz1, fz1, cz2, fz2, ln, la, lb, lz, lq⟩ := RO.out.all
    have cn0 := RO.out.n.cell 0 _ e0
    go_wp2_with (first | (go_at_call 41; (first | (with_reducible refine (Hw.out _).mono ?_) | (with_reducible refine (HC.out _).mono ?_)); rintro e w9 ⟨rfl, hb9⟩; replace RO := Lib.hid (RO.out.over hb9); replace BW := Lib.hid (below_call BW.out hb9); clear hb9; clear cn0 cn3 cn4 cn5 cn6 cn7 cn8 cn9 cn10 cn22 cn23 cn24 cn25 ca0 ca1 ca2 cb0 cb1 cb2 cq0 fq0 cq1 fq1 cz0 fz0 cz1 fz1 cz2 fz2 ln la lb lz lq; obtain ⟨cn3, cn4, cn5, cn6, cn7, cn8, cn9, cn10, cn22, cn23, cn24, cn25, ca0, ca1, ca2, cb0, cb1, cb2, cq0, fq0, cq1, fq1, cz0, fz0, cz1, fz1, cz2, fz2, ln, la, lb, lz, lq⟩ := RO.out.all; have cn0 := RO.out.n.cell 0 _ e0))
    all_goals exact bodyPost_ret (results_cell_mid2 rfl _ _ (w.heap.size + 1 + 1 + 1) _ rfl (load_row (RO.out.put _ _ _) 22 _ Try.underlying22 rfl (by kernel_rfl))) rfl ⟨_, _, _, rfl, below_put BW.out, by first | (intro _; rfl) | (intro h; simp at h) | (intro h; exact absurd h (by assumption))⟩
  · have q : (a.x == b.x && (a.y == b.y && a.z == b.z)) = false := by
      cases hq : (a.x == b.x && (a.y == b.y && a.z == b.z))
      · rfl
      · exact absurd (show a = b by obtain ⟨x, y, z⟩ := a; obtain ⟨x', y', z'⟩ := b; simp at hq; simp [hq]) hab
    rw [q] at EQ
    have HO := Lib.hid (show outN n a b = (10, a) by simp [outN, ho, hWin, hC, hab])
    have e0 : n.cells[0]? = some (.int .i64 7) := by rw [← ho]; rfl
    unfold RoPost
    rw [HO.out]
    clear ho ha hb HO q hab
    go_enter Try.func33, Try.ntmps33
    go_upto_region 2 with fail
    have RO := NEW
    clear NEW
    generalize ((((w.alloc (.cells n.cells.toArray 57)).alloc (.cells #[.int .i64 a.x, .int .i64 a.y, .int .i64 a.z] 22)).alloc (.cells #[.int .i64 b.x, .int .i64 b.y, .int .i64 b.z] 22)).alloc (.cells #[.int .i64 0, .int .i64 0, .int .i64 0] 22)).alloc (.cells #[.int .i64 0, .int .i64 0] 54) = W1 at *
    obtain ⟨cn3, cn4, cn5, cn6, cn7, cn8, cn9, cn10, cn22, cn23, cn24, cn25, ca0, ca1, ca2, cb0, cb1, cb2, cq0, fq0, cq1, fq1, cz0, fz0, cz1, fz1, cz2, fz2, ln, la, lb, lz, lq⟩ := RO.out.all
    have cn0 := RO.out.n.cell 0 _ e0
    go_wp2_with (first | (go_at_call 41; (first | (with_reducible refine (Hw.out _).mono ?_) | (with_reducible refine (HC.out _).mono ?_)); rintro e w9 ⟨rfl, hb9⟩; replace RO := Lib.hid (RO.out.over hb9); replace BW := Lib.hid (below_call BW.out hb9); clear hb9; clear cn0 cn3 cn4 cn5 cn6 cn7 cn8 cn9 cn10 cn22 cn23 cn24 cn25 ca0 ca1 ca2 cb0 cb1 cb2 cq0 fq0 cq1 fq1 cz0 fz0 cz1 fz1 cz2 fz2 ln la lb lz lq; obtain ⟨cn3, cn4, cn5, cn6, cn7, cn8, cn9, cn10, cn22, cn23, cn24, cn25, ca0, ca1, ca2, cb0, cb1, cb2, cq0, fq0, cq1, fq1, cz0, fz0, cz1, fz1, cz2, fz2, ln, la, lb, lz, lq⟩ := RO.out.all; have cn0 := RO.out.n.cell 0 _ e0))
    all_goals exact bodyPost_ret (results_cell_mid2 rfl _ _ (w.heap.size + 1 + 1 + 1) _ rfl (load_row (RO.out.put _ _ _) 22 _ Try.underlying22 rfl (by kernel_rfl))) rfl ⟨_, _, _, rfl, below_put BW.out, by first | (intro _; rfl) | (intro h; simp at h) | (intro h; exact absurd h (by assumption))⟩
set_option maxHeartbeats 8000000 in
theorem rout_op8 : ROc 8 := by
  intro n a b ho ha hb w
  obtain ⟨⟨ax0, ax1⟩, ⟨ay0, ay1⟩, ⟨az0, az1⟩⟩ := good_bd ha
  obtain ⟨⟨bx0, bx1⟩, ⟨by0, by1⟩, ⟨bz0, bz1⟩⟩ := good_bd hb
  have HP : ∀ e w', RoPost n a b w e w' ↔ RoPost n a b w e w' := fun _ _ => Iff.rfl
  clear HP
  have Hw := Lib.hid (fun W => (show Calls Try.prog 41 #[.int .i64 8, .int .u8 119] W fun e w' => e = .returned (.bool false) ∧ Below W.heap.size W w' from rhas_w 8 (by decide) (by decide) W))
  have HC := Lib.hid (fun W => (show Calls Try.prog 41 #[.int .i64 8, .int .u8 67] W fun e w' => e = .returned (.bool false) ∧ Below W.heap.size W w' from rhas_CC 8 (by decide) (by decide) W))
  have NEW := Lib.hid (OAt.new w n a b)
  have BN : Below w.heap.size w (((((w.alloc (.cells n.cells.toArray 57)).alloc (.cells #[.int .i64 a.x, .int .i64 a.y, .int .i64 a.z] 22)).alloc (.cells #[.int .i64 b.x, .int .i64 b.y, .int .i64 b.z] 22)).alloc (.cells #[.int .i64 0, .int .i64 0, .int .i64 0] 22)).alloc (.cells #[.int .i64 0, .int .i64 0] 54)) := by go_grown
  have BW := Lib.hid BN
  clear BN
  have EQ : ∀ W, (Op.equalIn 10000 22 (.agg #[.int .i64 a.x, .int .i64 a.y, .int .i64 a.z]) (.agg #[.int .i64 b.x, .int .i64 b.y, .int .i64 b.z])).run Try.prog W = .ok (a.x == b.x && (a.y == b.y && a.z == b.z)) W := fun W => eqB3 Try.underlying22 Try.underlying3 infoI cellsI 9998 _ _ _ _ _ _ W
  by_cases hab : a = b
  · have q : (a.x == b.x && (a.y == b.y && a.z == b.z)) = true := by simp [hab]
    rw [q] at EQ
    have HO := Lib.hid (show outN n a b = (0, a) by simp [outN, ho, hWin, hC, hab])
    have e0 : n.cells[0]? = some (.int .i64 8) := by rw [← ho]; rfl
    unfold RoPost
    rw [HO.out]
    clear ho ha hb HO q hab
    go_enter Try.func33, Try.ntmps33
    go_upto_region 2 with fail
    have RO := NEW
    clear NEW
    generalize ((((w.alloc (.cells n.cells.toArray 57)).alloc (.cells #[.int .i64 a.x, .int .i64 a.y, .int .i64 a.z] 22)).alloc (.cells #[.int .i64 b.x, .int .i64 b.y, .int .i64 b.z] 22)).alloc (.cells #[.int .i64 0, .int .i64 0, .int .i64 0] 22)).alloc (.cells #[.int .i64 0, .int .i64 0] 54) = W1 at *
    obtain ⟨cn3, cn4, cn5, cn6, cn7, cn8, cn9, cn10, cn22, cn23, cn24, cn25, ca0, ca1, ca2, cb0, cb1, cb2, cq0, fq0, cq1, fq1, cz0, fz0, cz1, fz1, cz2, fz2, ln, la, lb, lz, lq⟩ := RO.out.all
    have cn0 := RO.out.n.cell 0 _ e0
    go_wp2_with (first | (go_at_call 41; (first | (with_reducible refine (Hw.out _).mono ?_) | (with_reducible refine (HC.out _).mono ?_)); rintro e w9 ⟨rfl, hb9⟩; replace RO := Lib.hid (RO.out.over hb9); replace BW := Lib.hid (below_call BW.out hb9); clear hb9; clear cn0 cn3 cn4 cn5 cn6 cn7 cn8 cn9 cn10 cn22 cn23 cn24 cn25 ca0 ca1 ca2 cb0 cb1 cb2 cq0 fq0 cq1 fq1 cz0 fz0 cz1 fz1 cz2 fz2 ln la lb lz lq; obtain ⟨cn3, cn4, cn5, cn6, cn7, cn8, cn9, cn10, cn22, cn23, cn24, cn25, ca0, ca1, ca2, cb0, cb1, cb2, cq0, fq0, cq1, fq1, cz0, fz0, cz1, fz1, cz2, fz2, ln, la, lb, lz, lq⟩ := RO.out.all; have cn0 := RO.out.n.cell 0 _ e0))
    all_goals exact bodyPost_ret (results_cell_mid2 rfl _ _ (w.heap.size + 1 + 1 + 1) _ rfl (load_row (RO.out.put _ _ _) 22 _ Try.underlying22 rfl (by kernel_rfl))) rfl ⟨_, _, _, rfl, below_put BW.out, by first | (intro _; rfl) | (intro h; simp at h) | (intro h; exact absurd h (by assumption))⟩
  · have q : (a.x == b.x && (a.y == b.y && a.z == b.z)) = false := by
      cases hq : (a.x == b.x && (a.y == b.y && a.z == b.z))
      · rfl
      · exact absurd (show a = b by obtain ⟨x, y, z⟩ := a; obtain ⟨x', y', z'⟩ := b; simp at hq; simp [hq]) hab
    rw [q] at EQ
    have HO := Lib.hid (show outN n a b = (10, a) by simp [outN, ho, hWin, hC, hab])
    have e0 : n.cells[0]? = some (.int .i64 8) := by rw [← ho]; rfl
    unfold RoPost
    rw [HO.out]
    clear ho ha hb HO q hab
    go_enter Try.func33, Try.ntmps33
    go_upto_region 2 with fail
    have RO := NEW
    clear NEW
    generalize ((((w.alloc (.cells n.cells.toArray 57)).alloc (.cells #[.int .i64 a.x, .int .i64 a.y, .int .i64 a.z] 22)).alloc (.cells #[.int .i64 b.x, .int .i64 b.y, .int .i64 b.z] 22)).alloc (.cells #[.int .i64 0, .int .i64 0, .int .i64 0] 22)).alloc (.cells #[.int .i64 0, .int .i64 0] 54) = W1 at *
    obtain ⟨cn3, cn4, cn5, cn6, cn7, cn8, cn9, cn10, cn22, cn23, cn24, cn25, ca0, ca1, ca2, cb0, cb1, cb2, cq0, fq0, cq1, fq1, cz0, fz0, cz1, fz1, cz2, fz2, ln, la, lb, lz, lq⟩ := RO.out.all
    have cn0 := RO.out.n.cell 0 _ e0
    go_wp2_with (first | (go_at_call 41; (first | (with_reducible refine (Hw.out _).mono ?_) | (with_reducible refine (HC.out _).mono ?_)); rintro e w9 ⟨rfl, hb9⟩; replace RO := Lib.hid (RO.out.over hb9); replace BW := Lib.hid (below_call BW.out hb9); clear hb9; clear cn0 cn3 cn4 cn5 cn6 cn7 cn8 cn9 cn10 cn22 cn23 cn24 cn25 ca0 ca1 ca2 cb0 cb1 cb2 cq0 fq0 cq1 fq1 cz0 fz0 cz1 fz1 cz2 fz2 ln la lb lz lq; obtain ⟨cn3, cn4, cn5, cn6, cn7, cn8, cn9, cn10, cn22, cn23, cn24, cn25, ca0, ca1, ca2, cb0, cb1, cb2, cq0, fq0, cq1, fq1, cz0, fz0, cz1, fz1, cz2, fz2, ln, la, lb, lz, lq⟩ := RO.out.all; have cn0 := RO.out.n.cell 0 _ e0))
    all_goals exact bodyPost_ret (results_cell_mid2 rfl _ _ (w.heap.size + 1 + 1 + 1) _ rfl (load_row (RO.out.put _ _ _) 22 _ Try.underlying22 rfl (by kernel_rfl))) rfl ⟨_, _, _, rfl, below_put BW.out, by first | (intro _; rfl) | (intro h; simp at h) | (intro h; exact absurd h (by assumption))⟩
set_option maxHeartbeats 8000000 in
theorem rout_op9 : ROc 9 := by
  intro n a b ho ha hb w
  obtain ⟨⟨ax0, ax1⟩, ⟨ay0, ay1⟩, ⟨az0, az1⟩⟩ := good_bd ha
  obtain ⟨⟨bx0, bx1⟩, ⟨by0, by1⟩, ⟨bz0, bz1⟩⟩ := good_bd hb
  have HP : ∀ e w', RoPost n a b w e w' ↔ RoPost n a b w e w' := fun _ _ => Iff.rfl
  clear HP
  have Hw := Lib.hid (fun W => (show Calls Try.prog 41 #[.int .i64 9, .int .u8 119] W fun e w' => e = .returned (.bool false) ∧ Below W.heap.size W w' from rhas_w 9 (by decide) (by decide) W))
  have HC := Lib.hid (fun W => (show Calls Try.prog 41 #[.int .i64 9, .int .u8 67] W fun e w' => e = .returned (.bool false) ∧ Below W.heap.size W w' from rhas_CC 9 (by decide) (by decide) W))
  have NEW := Lib.hid (OAt.new w n a b)
  have BN : Below w.heap.size w (((((w.alloc (.cells n.cells.toArray 57)).alloc (.cells #[.int .i64 a.x, .int .i64 a.y, .int .i64 a.z] 22)).alloc (.cells #[.int .i64 b.x, .int .i64 b.y, .int .i64 b.z] 22)).alloc (.cells #[.int .i64 0, .int .i64 0, .int .i64 0] 22)).alloc (.cells #[.int .i64 0, .int .i64 0] 54)) := by go_grown
  have BW := Lib.hid BN
  clear BN
  have HO := Lib.hid (show outN n a b = (0, a) by simp [outN, ho, hWin, hC])
  have e0 : n.cells[0]? = some (.int .i64 9) := by rw [← ho]; rfl
  unfold RoPost
  rw [HO.out]
  clear ho ha hb HO
  go_enter Try.func33, Try.ntmps33
  go_upto_region 2 with fail
  have RO := NEW
  clear NEW
  generalize ((((w.alloc (.cells n.cells.toArray 57)).alloc (.cells #[.int .i64 a.x, .int .i64 a.y, .int .i64 a.z] 22)).alloc (.cells #[.int .i64 b.x, .int .i64 b.y, .int .i64 b.z] 22)).alloc (.cells #[.int .i64 0, .int .i64 0, .int .i64 0] 22)).alloc (.cells #[.int .i64 0, .int .i64 0] 54) = W1 at *
  obtain ⟨cn3, cn4, cn5, cn6, cn7, cn8, cn9, cn10, cn22, cn23, cn24, cn25, ca0, ca1, ca2, cb0, cb1, cb2, cq0, fq0, cq1, fq1, cz0, fz0, cz1, fz1, cz2, fz2, ln, la, lb, lz, lq⟩ := RO.out.all
  have cn0 := RO.out.n.cell 0 _ e0
  go_wp2_with (first | (go_at_call 41; (first | (with_reducible refine (Hw.out _).mono ?_) | (with_reducible refine (HC.out _).mono ?_)); rintro e w9 ⟨rfl, hb9⟩; replace RO := Lib.hid (RO.out.over hb9); replace BW := Lib.hid (below_call BW.out hb9); clear hb9; clear cn0 cn3 cn4 cn5 cn6 cn7 cn8 cn9 cn10 cn22 cn23 cn24 cn25 ca0 ca1 ca2 cb0 cb1 cb2 cq0 fq0 cq1 fq1 cz0 fz0 cz1 fz1 cz2 fz2 ln la lb lz lq; obtain ⟨cn3, cn4, cn5, cn6, cn7, cn8, cn9, cn10, cn22, cn23, cn24, cn25, ca0, ca1, ca2, cb0, cb1, cb2, cq0, fq0, cq1, fq1, cz0, fz0, cz1, fz1, cz2, fz2, ln, la, lb, lz, lq⟩ := RO.out.all; have cn0 := RO.out.n.cell 0 _ e0))
  all_goals exact bodyPost_ret (results_cell_mid2 rfl _ _ (w.heap.size + 1 + 1 + 1) _ rfl (load_row (RO.out.put _ _ _) 22 _ Try.underlying22 rfl (by kernel_rfl))) rfl ⟨_, _, _, rfl, below_put BW.out, by first | (intro _; rfl) | (intro h; simp at h) | (intro h; exact absurd h (by assumption))⟩
set_option maxHeartbeats 8000000 in
theorem rout_op12 : ROc 12 := by
  intro n a b ho ha hb w
  obtain ⟨⟨ax0, ax1⟩, ⟨ay0, ay1⟩, ⟨az0, az1⟩⟩ := good_bd ha
  obtain ⟨⟨bx0, bx1⟩, ⟨by0, by1⟩, ⟨bz0, bz1⟩⟩ := good_bd hb
  have HP : ∀ e w', RoPost n a b w e w' ↔ RoPost n a b w e w' := fun _ _ => Iff.rfl
  clear HP
  have Hw := Lib.hid (fun W => (show Calls Try.prog 41 #[.int .i64 12, .int .u8 119] W fun e w' => e = .returned (.bool false) ∧ Below W.heap.size W w' from rhas_w 12 (by decide) (by decide) W))
  have HC := Lib.hid (fun W => (show Calls Try.prog 41 #[.int .i64 12, .int .u8 67] W fun e w' => e = .returned (.bool false) ∧ Below W.heap.size W w' from rhas_CC 12 (by decide) (by decide) W))
  have NEW := Lib.hid (OAt.new w n a b)
  have BN : Below w.heap.size w (((((w.alloc (.cells n.cells.toArray 57)).alloc (.cells #[.int .i64 a.x, .int .i64 a.y, .int .i64 a.z] 22)).alloc (.cells #[.int .i64 b.x, .int .i64 b.y, .int .i64 b.z] 22)).alloc (.cells #[.int .i64 0, .int .i64 0, .int .i64 0] 22)).alloc (.cells #[.int .i64 0, .int .i64 0] 54)) := by go_grown
  have BW := Lib.hid BN
  clear BN
  by_cases h0 : a.x = b.x
  · have h0b : (a.x == b.x) = true := by simpa using h0
    have h0c : (a.x != b.x) = false := by simp [h0]
    by_cases h1 : a.y = b.y
    · have h1b : (a.y == b.y) = true := by simpa using h1
      have h1c : (a.y != b.y) = false := by simp [h1]
      have HO := Lib.hid (show outN n a b = (0, ⟨a.x, a.y, a.z + b.z⟩) by simp [outN, ho, hWin, hC, h0, h1])
      have e0 : n.cells[0]? = some (.int .i64 12) := by rw [← ho]; rfl
      unfold RoPost
      rw [HO.out]
      clear ho ha hb HO h0 h1
      go_enter Try.func33, Try.ntmps33
      go_upto_region 2 with fail
      have RO := NEW
      clear NEW
      generalize ((((w.alloc (.cells n.cells.toArray 57)).alloc (.cells #[.int .i64 a.x, .int .i64 a.y, .int .i64 a.z] 22)).alloc (.cells #[.int .i64 b.x, .int .i64 b.y, .int .i64 b.z] 22)).alloc (.cells #[.int .i64 0, .int .i64 0, .int .i64 0] 22)).alloc (.cells #[.int .i64 0, .int .i64 0] 54) = W1 at *
      obtain ⟨cn3, cn4, cn5, cn6, cn7, cn8, cn9, cn10, cn22, cn23, cn24, cn25, ca0, ca1, ca2, cb0, cb1, cb2, cq0, fq0, cq1, fq1, cz0, fz0, cz1, fz1, cz2, fz2, ln, la, lb, lz, lq⟩ := RO.out.all
      have cn0 := RO.out.n.cell 0 _ e0
      go_wp2_with (first | (go_at_call 41; (first | (with_reducible refine (Hw.out _).mono ?_) | (with_reducible refine (HC.out _).mono ?_)); rintro e w9 ⟨rfl, hb9⟩; replace RO := Lib.hid (RO.out.over hb9); replace BW := Lib.hid (below_call BW.out hb9); clear hb9; clear cn0 cn3 cn4 cn5 cn6 cn7 cn8 cn9 cn10 cn22 cn23 cn24 cn25 ca0 ca1 ca2 cb0 cb1 cb2 cq0 fq0 cq1 fq1 cz0 fz0 cz1 fz1 cz2 fz2 ln la lb lz lq; obtain ⟨cn3, cn4, cn5, cn6, cn7, cn8, cn9, cn10, cn22, cn23, cn24, cn25, ca0, ca1, ca2, cb0, cb1, cb2, cq0, fq0, cq1, fq1, cz0, fz0, cz1, fz1, cz2, fz2, ln, la, lb, lz, lq⟩ := RO.out.all; have cn0 := RO.out.n.cell 0 _ e0))
      all_goals exact bodyPost_ret (results_cell_mid2 rfl _ _ (w.heap.size + 1 + 1 + 1) _ rfl (load_row (RO.out.put _ _ _) 22 _ Try.underlying22 rfl (by kernel_rfl))) rfl ⟨_, _, _, rfl, below_put BW.out, by first | (intro _; rfl) | (intro h; simp at h) | (intro h; exact absurd h (by assumption))⟩
    · have h1b : (a.y == b.y) = false := by simpa using h1
      have h1c : (a.y != b.y) = true := by simpa using h1
      have HO := Lib.hid (show outN n a b = (10, ⟨a.x, a.y, a.z + b.z⟩) by simp [outN, ho, hWin, hC, h1])
      have e0 : n.cells[0]? = some (.int .i64 12) := by rw [← ho]; rfl
      unfold RoPost
      rw [HO.out]
      clear ho ha hb HO h0 h1
      go_enter Try.func33, Try.ntmps33
      go_upto_region 2 with fail
      have RO := NEW
      clear NEW
      generalize ((((w.alloc (.cells n.cells.toArray 57)).alloc (.cells #[.int .i64 a.x, .int .i64 a.y, .int .i64 a.z] 22)).alloc (.cells #[.int .i64 b.x, .int .i64 b.y, .int .i64 b.z] 22)).alloc (.cells #[.int .i64 0, .int .i64 0, .int .i64 0] 22)).alloc (.cells #[.int .i64 0, .int .i64 0] 54) = W1 at *
      obtain ⟨cn3, cn4, cn5, cn6, cn7, cn8, cn9, cn10, cn22, cn23, cn24, cn25, ca0, ca1, ca2, cb0, cb1, cb2, cq0, fq0, cq1, fq1, cz0, fz0, cz1, fz1, cz2, fz2, ln, la, lb, lz, lq⟩ := RO.out.all
      have cn0 := RO.out.n.cell 0 _ e0
      go_wp2_with (first | (go_at_call 41; (first | (with_reducible refine (Hw.out _).mono ?_) | (with_reducible refine (HC.out _).mono ?_)); rintro e w9 ⟨rfl, hb9⟩; replace RO := Lib.hid (RO.out.over hb9); replace BW := Lib.hid (below_call BW.out hb9); clear hb9; clear cn0 cn3 cn4 cn5 cn6 cn7 cn8 cn9 cn10 cn22 cn23 cn24 cn25 ca0 ca1 ca2 cb0 cb1 cb2 cq0 fq0 cq1 fq1 cz0 fz0 cz1 fz1 cz2 fz2 ln la lb lz lq; obtain ⟨cn3, cn4, cn5, cn6, cn7, cn8, cn9, cn10, cn22, cn23, cn24, cn25, ca0, ca1, ca2, cb0, cb1, cb2, cq0, fq0, cq1, fq1, cz0, fz0, cz1, fz1, cz2, fz2, ln, la, lb, lz, lq⟩ := RO.out.all; have cn0 := RO.out.n.cell 0 _ e0))
      all_goals exact bodyPost_ret (results_cell_mid2 rfl _ _ (w.heap.size + 1 + 1 + 1) _ rfl (load_row (RO.out.put _ _ _) 22 _ Try.underlying22 rfl (by kernel_rfl))) rfl ⟨_, _, _, rfl, below_put BW.out, by first | (intro _; rfl) | (intro h; simp at h) | (intro h; exact absurd h (by assumption))⟩
  · have h0b : (a.x == b.x) = false := by simpa using h0
    have h0c : (a.x != b.x) = true := by simpa using h0
    have HO := Lib.hid (show outN n a b = (10, ⟨a.x, a.y, a.z + b.z⟩) by simp [outN, ho, hWin, hC, h0])
    have e0 : n.cells[0]? = some (.int .i64 12) := by rw [← ho]; rfl
    unfold RoPost
    rw [HO.out]
    clear ho ha hb HO h0
    go_enter Try.func33, Try.ntmps33
    go_upto_region 2 with fail
    have RO := NEW
    clear NEW
    generalize ((((w.alloc (.cells n.cells.toArray 57)).alloc (.cells #[.int .i64 a.x, .int .i64 a.y, .int .i64 a.z] 22)).alloc (.cells #[.int .i64 b.x, .int .i64 b.y, .int .i64 b.z] 22)).alloc (.cells #[.int .i64 0, .int .i64 0, .int .i64 0] 22)).alloc (.cells #[.int .i64 0, .int .i64 0] 54) = W1 at *
    obtain ⟨cn3, cn4, cn5, cn6, cn7, cn8, cn9, cn10, cn22, cn23, cn24, cn25, ca0, ca1, ca2, cb0, cb1, cb2, cq0, fq0, cq1, fq1, cz0, fz0, cz1, fz1, cz2, fz2, ln, la, lb, lz, lq⟩ := RO.out.all
    have cn0 := RO.out.n.cell 0 _ e0
    go_wp2_with (first | (go_at_call 41; (first | (with_reducible refine (Hw.out _).mono ?_) | (with_reducible refine (HC.out _).mono ?_)); rintro e w9 ⟨rfl, hb9⟩; replace RO := Lib.hid (RO.out.over hb9); replace BW := Lib.hid (below_call BW.out hb9); clear hb9; clear cn0 cn3 cn4 cn5 cn6 cn7 cn8 cn9 cn10 cn22 cn23 cn24 cn25 ca0 ca1 ca2 cb0 cb1 cb2 cq0 fq0 cq1 fq1 cz0 fz0 cz1 fz1 cz2 fz2 ln la lb lz lq; obtain ⟨cn3, cn4, cn5, cn6, cn7, cn8, cn9, cn10, cn22, cn23, cn24, cn25, ca0, ca1, ca2, cb0, cb1, cb2, cq0, fq0, cq1, fq1, cz0, fz0, cz1, fz1, cz2, fz2, ln, la, lb, lz, lq⟩ := RO.out.all; have cn0 := RO.out.n.cell 0 _ e0))
    all_goals exact bodyPost_ret (results_cell_mid2 rfl _ _ (w.heap.size + 1 + 1 + 1) _ rfl (load_row (RO.out.put _ _ _) 22 _ Try.underlying22 rfl (by kernel_rfl))) rfl ⟨_, _, _, rfl, below_put BW.out, by first | (intro _; rfl) | (intro h; simp at h) | (intro h; exact absurd h (by assumption))⟩
set_option maxHeartbeats 8000000 in
theorem rout_op13 : ROc 13 := by
  intro n a b ho ha hb w
  obtain ⟨⟨ax0, ax1⟩, ⟨ay0, ay1⟩, ⟨az0, az1⟩⟩ := good_bd ha
  obtain ⟨⟨bx0, bx1⟩, ⟨by0, by1⟩, ⟨bz0, bz1⟩⟩ := good_bd hb
  have HP : ∀ e w', RoPost n a b w e w' ↔ RoPost n a b w e w' := fun _ _ => Iff.rfl
  clear HP
  have Hw := Lib.hid (fun W => (show Calls Try.prog 41 #[.int .i64 13, .int .u8 119] W fun e w' => e = .returned (.bool false) ∧ Below W.heap.size W w' from rhas_w 13 (by decide) (by decide) W))
  have HC := Lib.hid (fun W => (show Calls Try.prog 41 #[.int .i64 13, .int .u8 67] W fun e w' => e = .returned (.bool false) ∧ Below W.heap.size W w' from rhas_CC 13 (by decide) (by decide) W))
  have NEW := Lib.hid (OAt.new w n a b)
  have BN : Below w.heap.size w (((((w.alloc (.cells n.cells.toArray 57)).alloc (.cells #[.int .i64 a.x, .int .i64 a.y, .int .i64 a.z] 22)).alloc (.cells #[.int .i64 b.x, .int .i64 b.y, .int .i64 b.z] 22)).alloc (.cells #[.int .i64 0, .int .i64 0, .int .i64 0] 22)).alloc (.cells #[.int .i64 0, .int .i64 0] 54)) := by go_grown
  have BW := Lib.hid BN
  clear BN
  have HO := Lib.hid (show outN n a b = (0, ⟨a.x, a.y, 1⟩) by simp [outN, ho, hWin, hC])
  have e0 : n.cells[0]? = some (.int .i64 13) := by rw [← ho]; rfl
  unfold RoPost
  rw [HO.out]
  clear ho ha hb HO
  go_enter Try.func33, Try.ntmps33
  go_upto_region 2 with fail
  have RO := NEW
  clear NEW
  generalize ((((w.alloc (.cells n.cells.toArray 57)).alloc (.cells #[.int .i64 a.x, .int .i64 a.y, .int .i64 a.z] 22)).alloc (.cells #[.int .i64 b.x, .int .i64 b.y, .int .i64 b.z] 22)).alloc (.cells #[.int .i64 0, .int .i64 0, .int .i64 0] 22)).alloc (.cells #[.int .i64 0, .int .i64 0] 54) = W1 at *
  obtain ⟨cn3, cn4, cn5, cn6, cn7, cn8, cn9, cn10, cn22, cn23, cn24, cn25, ca0, ca1, ca2, cb0, cb1, cb2, cq0, fq0, cq1, fq1, cz0, fz0, cz1, fz1, cz2, fz2, ln, la, lb, lz, lq⟩ := RO.out.all
  have cn0 := RO.out.n.cell 0 _ e0
  go_wp2_with (first | (go_at_call 41; (first | (with_reducible refine (Hw.out _).mono ?_) | (with_reducible refine (HC.out _).mono ?_)); rintro e w9 ⟨rfl, hb9⟩; replace RO := Lib.hid (RO.out.over hb9); replace BW := Lib.hid (below_call BW.out hb9); clear hb9; clear cn0 cn3 cn4 cn5 cn6 cn7 cn8 cn9 cn10 cn22 cn23 cn24 cn25 ca0 ca1 ca2 cb0 cb1 cb2 cq0 fq0 cq1 fq1 cz0 fz0 cz1 fz1 cz2 fz2 ln la lb lz lq; obtain ⟨cn3, cn4, cn5, cn6, cn7, cn8, cn9, cn10, cn22, cn23, cn24, cn25, ca0, ca1, ca2, cb0, cb1, cb2, cq0, fq0, cq1, fq1, cz0, fz0, cz1, fz1, cz2, fz2, ln, la, lb, lz, lq⟩ := RO.out.all; have cn0 := RO.out.n.cell 0 _ e0))
  all_goals exact bodyPost_ret (results_cell_mid2 rfl _ _ (w.heap.size + 1 + 1 + 1) _ rfl (load_row (RO.out.put _ _ _) 22 _ Try.underlying22 rfl (by kernel_rfl))) rfl ⟨_, _, _, rfl, below_put BW.out, by first | (intro _; rfl) | (intro h; simp at h) | (intro h; exact absurd h (by assumption))⟩
set_option maxHeartbeats 8000000 in
theorem rout_op14 : ROc 14 := by
  intro n a b ho ha hb w
  obtain ⟨⟨ax0, ax1⟩, ⟨ay0, ay1⟩, ⟨az0, az1⟩⟩ := good_bd ha
  obtain ⟨⟨bx0, bx1⟩, ⟨by0, by1⟩, ⟨bz0, bz1⟩⟩ := good_bd hb
  have HP : ∀ e w', RoPost n a b w e w' ↔ RoPost n a b w e w' := fun _ _ => Iff.rfl
  clear HP
  have Hw := Lib.hid (fun W => (show Calls Try.prog 41 #[.int .i64 14, .int .u8 119] W fun e w' => e = .returned (.bool false) ∧ Below W.heap.size W w' from rhas_w 14 (by decide) (by decide) W))
  have HC := Lib.hid (fun W => (show Calls Try.prog 41 #[.int .i64 14, .int .u8 67] W fun e w' => e = .returned (.bool false) ∧ Below W.heap.size W w' from rhas_CC 14 (by decide) (by decide) W))
  have NEW := Lib.hid (OAt.new w n a b)
  have BN : Below w.heap.size w (((((w.alloc (.cells n.cells.toArray 57)).alloc (.cells #[.int .i64 a.x, .int .i64 a.y, .int .i64 a.z] 22)).alloc (.cells #[.int .i64 b.x, .int .i64 b.y, .int .i64 b.z] 22)).alloc (.cells #[.int .i64 0, .int .i64 0, .int .i64 0] 22)).alloc (.cells #[.int .i64 0, .int .i64 0] 54)) := by go_grown
  have BW := Lib.hid BN
  clear BN
  have HO := Lib.hid (show outN n a b = (0, a) by simp [outN, ho, hWin, hC])
  have e0 : n.cells[0]? = some (.int .i64 14) := by rw [← ho]; rfl
  unfold RoPost
  rw [HO.out]
  clear ho ha hb HO
  go_enter Try.func33, Try.ntmps33
  go_upto_region 2 with fail
  have RO := NEW
  clear NEW
  generalize ((((w.alloc (.cells n.cells.toArray 57)).alloc (.cells #[.int .i64 a.x, .int .i64 a.y, .int .i64 a.z] 22)).alloc (.cells #[.int .i64 b.x, .int .i64 b.y, .int .i64 b.z] 22)).alloc (.cells #[.int .i64 0, .int .i64 0, .int .i64 0] 22)).alloc (.cells #[.int .i64 0, .int .i64 0] 54) = W1 at *
  obtain ⟨cn3, cn4, cn5, cn6, cn7, cn8, cn9, cn10, cn22, cn23, cn24, cn25, ca0, ca1, ca2, cb0, cb1, cb2, cq0, fq0, cq1, fq1, cz0, fz0, cz1, fz1, cz2, fz2, ln, la, lb, lz, lq⟩ := RO.out.all
  have cn0 := RO.out.n.cell 0 _ e0
  go_wp2_with (first | (go_at_call 41; (first | (with_reducible refine (Hw.out _).mono ?_) | (with_reducible refine (HC.out _).mono ?_)); rintro e w9 ⟨rfl, hb9⟩; replace RO := Lib.hid (RO.out.over hb9); replace BW := Lib.hid (below_call BW.out hb9); clear hb9; clear cn0 cn3 cn4 cn5 cn6 cn7 cn8 cn9 cn10 cn22 cn23 cn24 cn25 ca0 ca1 ca2 cb0 cb1 cb2 cq0 fq0 cq1 fq1 cz0 fz0 cz1 fz1 cz2 fz2 ln la lb lz lq; obtain ⟨cn3, cn4, cn5, cn6, cn7, cn8, cn9, cn10, cn22, cn23, cn24, cn25, ca0, ca1, ca2, cb0, cb1, cb2, cq0, fq0, cq1, fq1, cz0, fz0, cz1, fz1, cz2, fz2, ln, la, lb, lz, lq⟩ := RO.out.all; have cn0 := RO.out.n.cell 0 _ e0))
  all_goals exact bodyPost_ret (results_cell_mid2 rfl _ _ (w.heap.size + 1 + 1 + 1) _ rfl (load_row (RO.out.put _ _ _) 22 _ Try.underlying22 rfl (by kernel_rfl))) rfl ⟨_, _, _, rfl, below_put BW.out, by first | (intro _; rfl) | (intro h; simp at h) | (intro h; exact absurd h (by assumption))⟩
end Go.Proofs.Ytdbfakllcaojcaa
