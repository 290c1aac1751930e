/- The document's out, operators 1, 11. -/
import Derived.Test.YtdbfakllcaojcaaRsO0
namespace Go.Proofs.Ytdbfakllcaojcaa
open Go Go.RowKit
set_option linter.unusedVariables false
set_option linter.unusedSimpArgs false
set_option maxRecDepth 100000

set_option maxHeartbeats 8000000 in
theorem rout_op1 : ROc 1 := by
  intro n a b ho ha hb w
  obtain ⟨⟨ax0, ax1⟩, ⟨ay0, ay1⟩, ⟨az0, az1⟩⟩ := good_bd ha
  obtain ⟨⟨bx0, bx1⟩, ⟨by0, by1⟩, ⟨bz0, bz1⟩⟩ := good_bd hb
  have HP : ∀ e w', RoPost n a b w e w' ↔ RoPost n a b w e w' := fun _ _ => Iff.rfl
  clear HP
  have Hw := Lib.hid (fun W => (show Calls Try.prog 41 #[.int .i64 1, .int .u8 119] W fun e w' => e = .returned (.bool false) ∧ Below W.heap.size W w' from rhas_w 1 (by decide) (by decide) W))
  have HC := Lib.hid (fun W => (show Calls Try.prog 41 #[.int .i64 1, .int .u8 67] W fun e w' => e = .returned (.bool false) ∧ Below W.heap.size W w' from rhas_CC 1 (by decide) (by decide) W))
  have NEW := Lib.hid (OAt.new w n a b)
  have BN : Below w.heap.size w (((((w.alloc (.cells n.cells.toArray 57)).alloc (.cells #[.int .i64 a.x, .int .i64 a.y, .int .i64 a.z] 22)).alloc (.cells #[.int .i64 b.x, .int .i64 b.y, .int .i64 b.z] 22)).alloc (.cells #[.int .i64 0, .int .i64 0, .int .i64 0] 22)).alloc (.cells #[.int .i64 0, .int .i64 0] 54)) := by go_grown
  have BW := Lib.hid BN
  clear BN
  have FI := Lib.hid (fun W => (show Calls Try.prog 31 #[.agg #[.int .i64 n.h0, .int .i64 n.h1, .int .i64 n.h2]] W fun e w' => e = .returned (.int .i64 n.sh.fit) ∧ Below W.heap.size W w' from rfits_sh n.sh W))
  have HO := Lib.hid (show outN n a b = (n.sh.fit, n.sh) by simp [outN, ho, hWin, hC])
  have e0 : n.cells[0]? = some (.int .i64 1) := by rw [← ho]; rfl
  unfold RoPost
  rw [HO.out]
  clear ho ha hb HO
  go_enter Try.func33, Try.ntmps33
  go_upto_region 2 with fail
  have RO := NEW
  clear NEW
  generalize ((((w.alloc (.cells n.cells.toArray 57)).alloc (.cells #[.int .i64 a.x, .int .i64 a.y, .int .i64 a.z] 22)).alloc (.cells #[.int .i64 b.x, .int .i64 b.y, .int .i64 b.z] 22)).alloc (.cells #[.int .i64 0, .int .i64 0, .int .i64 0] 22)).alloc (.cells #[.int .i64 0, .int .i64 0] 54) = W1 at *
  obtain ⟨cn3, cn4, cn5, cn6, cn7, cn8, cn9, cn10, cn22, cn23, cn24, cn25, ca0, ca1, ca2, cb0, cb1, cb2, cq0, fq0, cq1, fq1, cz0, fz0, cz1, fz1, cz2, fz2, ln, la, lb, lz, lq⟩ := RO.out.all
  have cn0 := RO.out.n.cell 0 _ e0
  go_upto_region 12 with (first | (go_at_call 41; (first | (with_reducible refine (Hw.out _).mono ?_) | (with_reducible refine (HC.out _).mono ?_)); rintro e w9 ⟨rfl, hb9⟩; replace RO := Lib.hid (RO.out.over hb9); replace BW := Lib.hid (below_call BW.out hb9); clear hb9; clear cn0 cn3 cn4 cn5 cn6 cn7 cn8 cn9 cn10 cn22 cn23 cn24 cn25 ca0 ca1 ca2 cb0 cb1 cb2 cq0 fq0 cq1 fq1 cz0 fz0 cz1 fz1 cz2 fz2 ln la lb lz lq; obtain ⟨cn3, cn4, cn5, cn6, cn7, cn8, cn9, cn10, cn22, cn23, cn24, cn25, ca0, ca1, ca2, cb0, cb1, cb2, cq0, fq0, cq1, fq1, cz0, fz0, cz1, fz1, cz2, fz2, ln, la, lb, lz, lq⟩ := RO.out.all; have cn0 := RO.out.n.cell 0 _ e0))
  have PS := Lib.hid (show ∀ W', RowAt W' w.heap.size n.cells → Below w.heap.size w W' → (fun w' => w'.cell? ⟨w.heap.size, 23, none⟩ = some (.int .i64 n.h0) ∧ w'.cell? ⟨w.heap.size, 24, none⟩ = some (.int .i64 n.h1) ∧ w'.cell? ⟨w.heap.size, 25, none⟩ = some (.int .i64 n.h2) ∧ Below w.heap.size w w') W' from fun W' hr hb => ⟨hr.cell 23 _ rfl, hr.cell 24 _ rfl, hr.cell 25 _ rfl, hb⟩)
  clear cz0 cz1 cz2 fz0 fz1 fz2 cn23 cn24 cn25
  go_region_held3 (fun w' => w'.cell? ⟨w.heap.size, 23, none⟩ = some (.int .i64 n.h0) ∧ w'.cell? ⟨w.heap.size, 24, none⟩ = some (.int .i64 n.h1) ∧ w'.cell? ⟨w.heap.size, 25, none⟩ = some (.int .i64 n.h2) ∧ Below w.heap.size w w')
    (first | (with_reducible assumption) | (with_reducible exact PS.out _ RO.out.n BW.out) | (with_reducible exact PS.out _ RO.out.n.drew BW.out.drew) | (with_reducible exact PS.out _ RO2.out.n BW2.out) | (with_reducible exact PS.out _ RO2.out.n.drew BW2.out.drew) | (with_reducible exact PS.out _ NZ.out (below_put BW2.out)))
    (first | (go_at_call 31; (with_reducible refine (FI.out _).mono ?_); rintro e w2 ⟨rfl, hb2⟩; (first | (have hB2 := below_call (Below.refl w9.heap.size w9) hb2) | (have hB2 := below_call (Below.refl w9.heap.size w9).drew hb2)); have RO2 := Lib.hid (RO.out.over hB2); have BW2 := Lib.hid (below_call BW.out hB2); have NZ := Lib.hid (((RO2.out.n.aside (w.heap.size + 1 + 1 + 1) 0 (.int .i64 n.h0) (by omega)).aside (w.heap.size + 1 + 1 + 1) 1 (.int .i64 n.h1) (by omega)).aside (w.heap.size + 1 + 1 + 1) 2 (.int .i64 n.h2) (by omega)); have cz0 := RO2.out.z.cell 0 _ rfl; have cz1 := RO2.out.z.cell 1 _ rfl; have cz2 := RO2.out.z.cell 2 _ rfl; have fz0 := RO2.out.z.fr 0; have fz1 := RO2.out.z.fr 1; have fz2 := RO2.out.z.fr 2; have lz2 := RO2.out.z.lt))
  all_goals (go_wp2_with fail)
  all_goals exact bodyPost_ret (results_cell_mid2 rfl _ _ (w.heap.size + 1 + 1 + 1) _ rfl (load_row (RO2.out.put _ _ _) 22 _ Try.underlying22 rfl (by kernel_rfl))) rfl ⟨_, _, _, rfl, below_put BW2.out, fun _ => rfl⟩
set_option maxHeartbeats 8000000 in
theorem rout_op11 : ROc 11 := by
  intro n a b ho ha hb w
  obtain ⟨⟨ax0, ax1⟩, ⟨ay0, ay1⟩, ⟨az0, az1⟩⟩ := good_bd ha
  obtain ⟨⟨bx0, bx1⟩, ⟨by0, by1⟩, ⟨bz0, bz1⟩⟩ := good_bd hb
  have HP : ∀ e w', RoPost n a b w e w' ↔ RoPost n a b w e w' := fun _ _ => Iff.rfl
  clear HP
  have Hw := Lib.hid (fun W => (show Calls Try.prog 41 #[.int .i64 11, .int .u8 119] W fun e w' => e = .returned (.bool false) ∧ Below W.heap.size W w' from rhas_w 11 (by decide) (by decide) W))
  have HC := Lib.hid (fun W => (show Calls Try.prog 41 #[.int .i64 11, .int .u8 67] W fun e w' => e = .returned (.bool false) ∧ Below W.heap.size W w' from rhas_CC 11 (by decide) (by decide) W))
  have NEW := Lib.hid (OAt.new w n a b)
  have BN : Below w.heap.size w (((((w.alloc (.cells n.cells.toArray 57)).alloc (.cells #[.int .i64 a.x, .int .i64 a.y, .int .i64 a.z] 22)).alloc (.cells #[.int .i64 b.x, .int .i64 b.y, .int .i64 b.z] 22)).alloc (.cells #[.int .i64 0, .int .i64 0, .int .i64 0] 22)).alloc (.cells #[.int .i64 0, .int .i64 0] 54)) := by go_grown
  have BW := Lib.hid BN
  clear BN
  have FI := Lib.hid (fun W => (show Calls Try.prog 31 #[.agg #[.int .i64 n.h0, .int .i64 n.h1, .int .i64 n.h2]] W fun e w' => e = .returned (.int .i64 n.sh.fit) ∧ Below W.heap.size W w' from rfits_sh n.sh W))
  by_cases hf : n.sh.fit ≠ 0
  · have hfb : (n.sh.fit != 0) = true := by simpa using hf
    have HO := Lib.hid (show outN n a b = (n.sh.fit, n.sh) by simp [outN, ho, hWin, hC, hf])
    have e0 : n.cells[0]? = some (.int .i64 11) := by rw [← ho]; rfl
    unfold RoPost
    rw [HO.out]
    clear ho ha hb HO
    generalize n.sh.fit = f at *
    go_enter Try.func33, Try.ntmps33
    go_upto_region 2 with fail
    have RO := NEW
    clear NEW
    generalize ((((w.alloc (.cells n.cells.toArray 57)).alloc (.cells #[.int .i64 a.x, .int .i64 a.y, .int .i64 a.z] 22)).alloc (.cells #[.int .i64 b.x, .int .i64 b.y, .int .i64 b.z] 22)).alloc (.cells #[.int .i64 0, .int .i64 0, .int .i64 0] 22)).alloc (.cells #[.int .i64 0, .int .i64 0] 54) = W1 at *
    obtain ⟨cn3, cn4, cn5, cn6, cn7, cn8, cn9, cn10, cn22, cn23, cn24, cn25, ca0, ca1, ca2, cb0, cb1, cb2, cq0, fq0, cq1, fq1, cz0, fz0, cz1, fz1, cz2, fz2, ln, la, lb, lz, lq⟩ := RO.out.all
    have cn0 := RO.out.n.cell 0 _ e0
    go_wp2_with (first | (go_at_call 41; (first | (with_reducible refine (Hw.out _).mono ?_) | (with_reducible refine (HC.out _).mono ?_)); rintro e w9 ⟨rfl, hb9⟩; replace RO := Lib.hid (RO.out.over hb9); replace BW := Lib.hid (below_call BW.out hb9); clear hb9; clear cn0 cn3 cn4 cn5 cn6 cn7 cn8 cn9 cn10 cn22 cn23 cn24 cn25 ca0 ca1 ca2 cb0 cb1 cb2 cq0 fq0 cq1 fq1 cz0 fz0 cz1 fz1 cz2 fz2 ln la lb lz lq; obtain ⟨cn3, cn4, cn5, cn6, cn7, cn8, cn9, cn10, cn22, cn23, cn24, cn25, ca0, ca1, ca2, cb0, cb1, cb2, cq0, fq0, cq1, fq1, cz0, fz0, cz1, fz1, cz2, fz2, ln, la, lb, lz, lq⟩ := RO.out.all; have cn0 := RO.out.n.cell 0 _ e0) | (go_at_call 31; (with_reducible refine (FI.out _).mono ?_); rintro e w9 ⟨rfl, hb9⟩; replace RO := Lib.hid (RO.out.over hb9); replace BW := Lib.hid (below_call BW.out hb9); clear hb9; clear cn0 cn3 cn4 cn5 cn6 cn7 cn8 cn9 cn10 cn22 cn23 cn24 cn25 ca0 ca1 ca2 cb0 cb1 cb2 cq0 fq0 cq1 fq1 cz0 fz0 cz1 fz1 cz2 fz2 ln la lb lz lq; obtain ⟨cn3, cn4, cn5, cn6, cn7, cn8, cn9, cn10, cn22, cn23, cn24, cn25, ca0, ca1, ca2, cb0, cb1, cb2, cq0, fq0, cq1, fq1, cz0, fz0, cz1, fz1, cz2, fz2, ln, la, lb, lz, lq⟩ := RO.out.all; have cn0 := RO.out.n.cell 0 _ e0) | (go_at_call 34; (first | (with_reducible refine (Z1.out _).mono ?_) | (with_reducible refine (Z2.out _).mono ?_)); rintro e w9 ⟨rfl, hb9⟩; replace RO := Lib.hid (RO.out.over hb9); replace BW := Lib.hid (below_call BW.out hb9); clear hb9; clear cn0 cn3 cn4 cn5 cn6 cn7 cn8 cn9 cn10 cn22 cn23 cn24 cn25 ca0 ca1 ca2 cb0 cb1 cb2 cq0 fq0 cq1 fq1 cz0 fz0 cz1 fz1 cz2 fz2 ln la lb lz lq; obtain ⟨cn3, cn4, cn5, cn6, cn7, cn8, cn9, cn10, cn22, cn23, cn24, cn25, ca0, ca1, ca2, cb0, cb1, cb2, cq0, fq0, cq1, fq1, cz0, fz0, cz1, fz1, cz2, fz2, ln, la, lb, lz, lq⟩ := RO.out.all; have cn0 := RO.out.n.cell 0 _ e0))
    all_goals exact bodyPost_ret (results_cell_mid2 rfl _ _ (w.heap.size + 1 + 1 + 1) _ rfl (load_row (RO.out.put _ _ _) 22 _ Try.underlying22 rfl (by kernel_rfl))) rfl ⟨_, _, _, rfl, below_put BW.out, by first | (intro _; rfl) | (intro h; simp at h) | (intro h; exact absurd h (by assumption))⟩
  have hf0 : n.sh.fit = 0 := by simpa using hf
  have hng : n.sh.good = true := Sh.fit_good hf0
  rw [hf0] at FI
  have Z1 := Lib.hid (fun W => (show Calls Try.prog 34 #[.agg #[.int .i64 n.h0, .int .i64 n.h1, .int .i64 n.h2]] W fun e w' => e = .returned (.int .i64 n.sh.size) ∧ Below W.heap.size W w' from by have h := rsize_sh n.sh W; rw [size_good hng] at h; exact h))
  have Z2 := Lib.hid (fun W => (show Calls Try.prog 34 #[.agg #[.int .i64 a.x, .int .i64 a.y, .int .i64 a.z]] W fun e w' => e = .returned (.int .i64 a.size) ∧ Below W.heap.size W w' from by have h := rsize_sh a W; rw [size_good ha] at h; exact h))
  by_cases hs : n.sh.size = a.size
  · have hsb : (n.sh.size == a.size) = true := by simpa using hs
    have hsc : (n.sh.size != a.size) = false := by simp [hs]
    have HO := Lib.hid (show outN n a b = (0, n.sh) by simp [outN, ho, hWin, hC, hf0, hs])
    have e0 : n.cells[0]? = some (.int .i64 11) := by rw [← ho]; rfl
    unfold RoPost
    rw [HO.out]
    clear ho ha hb HO hs hf hf0 hng
    generalize n.sh.size = sz1 at *
    generalize a.size = sz2 at *
    go_enter Try.func33, Try.ntmps33
    go_upto_region 2 with fail
    have RO := NEW
    clear NEW
    generalize ((((w.alloc (.cells n.cells.toArray 57)).alloc (.cells #[.int .i64 a.x, .int .i64 a.y, .int .i64 a.z] 22)).alloc (.cells #[.int .i64 b.x, .int .i64 b.y, .int .i64 b.z] 22)).alloc (.cells #[.int .i64 0, .int .i64 0, .int .i64 0] 22)).alloc (.cells #[.int .i64 0, .int .i64 0] 54) = W1 at *
    obtain ⟨cn3, cn4, cn5, cn6, cn7, cn8, cn9, cn10, cn22, cn23, cn24, cn25, ca0, ca1, ca2, cb0, cb1, cb2, cq0, fq0, cq1, fq1, cz0, fz0, cz1, fz1, cz2, fz2, ln, la, lb, lz, lq⟩ := RO.out.all
    have cn0 := RO.out.n.cell 0 _ e0
    go_upto_region 37 with (first | (go_at_call 41; (first | (with_reducible refine (Hw.out _).mono ?_) | (with_reducible refine (HC.out _).mono ?_)); rintro e w9 ⟨rfl, hb9⟩; replace RO := Lib.hid (RO.out.over hb9); replace BW := Lib.hid (below_call BW.out hb9); clear hb9; clear cn0 cn3 cn4 cn5 cn6 cn7 cn8 cn9 cn10 cn22 cn23 cn24 cn25 ca0 ca1 ca2 cb0 cb1 cb2 cq0 fq0 cq1 fq1 cz0 fz0 cz1 fz1 cz2 fz2 ln la lb lz lq; obtain ⟨cn3, cn4, cn5, cn6, cn7, cn8, cn9, cn10, cn22, cn23, cn24, cn25, ca0, ca1, ca2, cb0, cb1, cb2, cq0, fq0, cq1, fq1, cz0, fz0, cz1, fz1, cz2, fz2, ln, la, lb, lz, lq⟩ := RO.out.all; have cn0 := RO.out.n.cell 0 _ e0) | (go_at_call 31; (with_reducible refine (FI.out _).mono ?_); rintro e w9 ⟨rfl, hb9⟩; replace RO := Lib.hid (RO.out.over hb9); replace BW := Lib.hid (below_call BW.out hb9); clear hb9; clear cn0 cn3 cn4 cn5 cn6 cn7 cn8 cn9 cn10 cn22 cn23 cn24 cn25 ca0 ca1 ca2 cb0 cb1 cb2 cq0 fq0 cq1 fq1 cz0 fz0 cz1 fz1 cz2 fz2 ln la lb lz lq; obtain ⟨cn3, cn4, cn5, cn6, cn7, cn8, cn9, cn10, cn22, cn23, cn24, cn25, ca0, ca1, ca2, cb0, cb1, cb2, cq0, fq0, cq1, fq1, cz0, fz0, cz1, fz1, cz2, fz2, ln, la, lb, lz, lq⟩ := RO.out.all; have cn0 := RO.out.n.cell 0 _ e0) | (go_at_call 34; (first | (with_reducible refine (Z1.out _).mono ?_) | (with_reducible refine (Z2.out _).mono ?_)); rintro e w9 ⟨rfl, hb9⟩; replace RO := Lib.hid (RO.out.over hb9); replace BW := Lib.hid (below_call BW.out hb9); clear hb9; clear cn0 cn3 cn4 cn5 cn6 cn7 cn8 cn9 cn10 cn22 cn23 cn24 cn25 ca0 ca1 ca2 cb0 cb1 cb2 cq0 fq0 cq1 fq1 cz0 fz0 cz1 fz1 cz2 fz2 ln la lb lz lq; obtain ⟨cn3, cn4, cn5, cn6, cn7, cn8, cn9, cn10, cn22, cn23, cn24, cn25, ca0, ca1, ca2, cb0, cb1, cb2, cq0, fq0, cq1, fq1, cz0, fz0, cz1, fz1, cz2, fz2, ln, la, lb, lz, lq⟩ := RO.out.all; have cn0 := RO.out.n.cell 0 _ e0))
    have PS := Lib.hid (show ∀ W', Below w9.heap.size w9 W' → (fun w' => w'.cell? ⟨w.heap.size, 23, none⟩ = some (.int .i64 n.h0) ∧ w'.cell? ⟨w.heap.size, 24, none⟩ = some (.int .i64 n.h1) ∧ w'.cell? ⟨w.heap.size, 25, none⟩ = some (.int .i64 n.h2) ∧ w'.cell? ⟨w.heap.size + 1, 0, none⟩ = some (.int .i64 a.x) ∧ w'.cell? ⟨w.heap.size + 1, 1, none⟩ = some (.int .i64 a.y) ∧ w'.cell? ⟨w.heap.size + 1, 2, none⟩ = some (.int .i64 a.z) ∧ Below w9.heap.size w9 w') W' from fun W' hb => ⟨(RO.out.over hb).n.cell 23 _ rfl, (RO.out.over hb).n.cell 24 _ rfl, (RO.out.over hb).n.cell 25 _ rfl, (RO.out.over hb).a.cell 0 _ rfl, (RO.out.over hb).a.cell 1 _ rfl, (RO.out.over hb).a.cell 2 _ rfl, hb⟩)
    clear cn0 cn3 cn4 cn5 cn6 cn7 cn8 cn9 cn10 cn22 cn23 cn24 cn25 ca0 ca1 ca2 cb0 cb1 cb2 cq0 fq0 cq1 fq1 cz0 fz0 cz1 fz1 cz2 fz2 ln la lb lz lq
    go_region_held3 (fun w' => w'.cell? ⟨w.heap.size, 23, none⟩ = some (.int .i64 n.h0) ∧ w'.cell? ⟨w.heap.size, 24, none⟩ = some (.int .i64 n.h1) ∧ w'.cell? ⟨w.heap.size, 25, none⟩ = some (.int .i64 n.h2) ∧ w'.cell? ⟨w.heap.size + 1, 0, none⟩ = some (.int .i64 a.x) ∧ w'.cell? ⟨w.heap.size + 1, 1, none⟩ = some (.int .i64 a.y) ∧ w'.cell? ⟨w.heap.size + 1, 2, none⟩ = some (.int .i64 a.z) ∧ Below w9.heap.size w9 w')
      (first | (with_reducible assumption) | (refine PS.out _ ?_; first | (with_reducible exact Below.refl _ _) | (with_reducible exact (Below.refl _ _).drew) | (with_reducible exact hB3) | (with_reducible exact hB3.drew) | (with_reducible exact hB2) | (with_reducible exact hB2.drew)))
      (first | (go_at_call 34; (first | (with_reducible refine (Z1.out _).mono ?_) | (with_reducible refine (Z2.out _).mono ?_)); rintro e w2 ⟨rfl, hb2⟩; (first | (have hB3 := below_call hB2 hb2) | (have hB3 := below_call hB2.drew hb2) | (have hB2 := below_call (Below.refl w9.heap.size w9) hb2) | (have hB2 := below_call (Below.refl w9.heap.size w9).drew hb2))))
    all_goals (have hBe := (‹_ ∧ _ ∧ _ ∧ _ ∧ _ ∧ _ ∧ Below w9.heap.size w9 _›).2.2.2.2.2.2; have RO2 := Lib.hid (RO.out.over hBe); have BW2 := Lib.hid (below_call BW.out hBe); obtain ⟨cn3, cn4, cn5, cn6, cn7, cn8, cn9, cn10, cn22, cn23, cn24, cn25, ca0, ca1, ca2, cb0, cb1, cb2, cq0, fq0, cq1, fq1, cz0, fz0, cz1, fz1, cz2, fz2, ln, la, lb, lz, lq⟩ := RO2.out.all; have cn0 := RO2.out.n.cell 0 _ e0; clear hBe; go_wp2_with fail)
    all_goals first | (exact bodyPost_ret (results_cell_mid2 rfl _ _ (w.heap.size + 1 + 1 + 1) _ rfl (load_row (RO2.out.put _ _ _) 22 _ Try.underlying22 rfl (by kernel_rfl))) rfl ⟨⟨_, _, _, rfl⟩, below_put BW2.out⟩) | exact bodyPost_ret (results_cell_mid2 rfl _ _ (w.heap.size + 1 + 1 + 1) _ rfl (load_row (RO2.out.put _ _ _) 22 _ Try.underlying22 rfl (by kernel_rfl))) rfl ⟨_, _, _, rfl, below_put BW2.out, by first | rfl | (intro _; rfl) | (intro h; simp at h)⟩
  · have hsb : (n.sh.size == a.size) = false := by simpa using hs
    have hsc : (n.sh.size != a.size) = true := by simpa using hs
    have HO := Lib.hid (show outN n a b = (10, n.sh) by simp [outN, ho, hWin, hC, hf0, hs])
    have e0 : n.cells[0]? = some (.int .i64 11) := by rw [← ho]; rfl
    unfold RoPost
    rw [HO.out]
    clear ho ha hb HO hs hf hf0 hng
    generalize n.sh.size = sz1 at *
    generalize a.size = sz2 at *
    go_enter Try.func33, Try.ntmps33
    go_upto_region 2 with fail
    have RO := NEW
    clear NEW
    generalize ((((w.alloc (.cells n.cells.toArray 57)).alloc (.cells #[.int .i64 a.x, .int .i64 a.y, .int .i64 a.z] 22)).alloc (.cells #[.int .i64 b.x, .int .i64 b.y, .int .i64 b.z] 22)).alloc (.cells #[.int .i64 0, .int .i64 0, .int .i64 0] 22)).alloc (.cells #[.int .i64 0, .int .i64 0] 54) = W1 at *
    obtain ⟨cn3, cn4, cn5, cn6, cn7, cn8, cn9, cn10, cn22, cn23, cn24, cn25, ca0, ca1, ca2, cb0, cb1, cb2, cq0, fq0, cq1, fq1, cz0, fz0, cz1, fz1, cz2, fz2, ln, la, lb, lz, lq⟩ := RO.out.all
    have cn0 := RO.out.n.cell 0 _ e0
    go_upto_region 37 with (first | (go_at_call 41; (first | (with_reducible refine (Hw.out _).mono ?_) | (with_reducible refine (HC.out _).mono ?_)); rintro e w9 ⟨rfl, hb9⟩; replace RO := Lib.hid (RO.out.over hb9); replace BW := Lib.hid (below_call BW.out hb9); clear hb9; clear cn0 cn3 cn4 cn5 cn6 cn7 cn8 cn9 cn10 cn22 cn23 cn24 cn25 ca0 ca1 ca2 cb0 cb1 cb2 cq0 fq0 cq1 fq1 cz0 fz0 cz1 fz1 cz2 fz2 ln la lb lz lq; obtain ⟨cn3, cn4, cn5, cn6, cn7, cn8, cn9, cn10, cn22, cn23, cn24, cn25, ca0, ca1, ca2, cb0, cb1, cb2, cq0, fq0, cq1, fq1, cz0, fz0, cz1, fz1, cz2, fz2, ln, la, lb, lz, lq⟩ := RO.out.all; have cn0 := RO.out.n.cell 0 _ e0) | (go_at_call 31; (with_reducible refine (FI.out _).mono ?_); rintro e w9 ⟨rfl, hb9⟩; replace RO := Lib.hid (RO.out.over hb9); replace BW := Lib.hid (below_call BW.out hb9); clear hb9; clear cn0 cn3 cn4 cn5 cn6 cn7 cn8 cn9 cn10 cn22 cn23 cn24 cn25 ca0 ca1 ca2 cb0 cb1 cb2 cq0 fq0 cq1 fq1 cz0 fz0 cz1 fz1 cz2 fz2 ln la lb lz lq; obtain ⟨cn3, cn4, cn5, cn6, cn7, cn8, cn9, cn10, cn22, cn23, cn24, cn25, ca0, ca1, ca2, cb0, cb1, cb2, cq0, fq0, cq1, fq1, cz0, fz0, cz1, fz1, cz2, fz2, ln, la, lb, lz, lq⟩ := RO.out.all; have cn0 := RO.out.n.cell 0 _ e0) | (go_at_call 34; (first | (with_reducible refine (Z1.out _).mono ?_) | (with_reducible refine (Z2.out _).mono ?_)); rintro e w9 ⟨rfl, hb9⟩; replace RO := Lib.hid (RO.out.over hb9); replace BW := Lib.hid (below_call BW.out hb9); clear hb9; clear cn0 cn3 cn4 cn5 cn6 cn7 cn8 cn9 cn10 cn22 cn23 cn24 cn25 ca0 ca1 ca2 cb0 cb1 cb2 cq0 fq0 cq1 fq1 cz0 fz0 cz1 fz1 cz2 fz2 ln la lb lz lq; obtain ⟨cn3, cn4, cn5, cn6, cn7, cn8, cn9, cn10, cn22, cn23, cn24, cn25, ca0, ca1, ca2, cb0, cb1, cb2, cq0, fq0, cq1, fq1, cz0, fz0, cz1, fz1, cz2, fz2, ln, la, lb, lz, lq⟩ := RO.out.all; have cn0 := RO.out.n.cell 0 _ e0))
    have PS := Lib.hid (show ∀ W', Below w9.heap.size w9 W' → (fun w' => w'.cell? ⟨w.heap.size, 23, none⟩ = some (.int .i64 n.h0) ∧ w'.cell? ⟨w.heap.size, 24, none⟩ = some (.int .i64 n.h1) ∧ w'.cell? ⟨w.heap.size, 25, none⟩ = some (.int .i64 n.h2) ∧ w'.cell? ⟨w.heap.size + 1, 0, none⟩ = some (.int .i64 a.x) ∧ w'.cell? ⟨w.heap.size + 1, 1, none⟩ = some (.int .i64 a.y) ∧ w'.cell? ⟨w.heap.size + 1, 2, none⟩ = some (.int .i64 a.z) ∧ Below w9.heap.size w9 w') W' from fun W' hb => ⟨(RO.out.over hb).n.cell 23 _ rfl, (RO.out.over hb).n.cell 24 _ rfl, (RO.out.over hb).n.cell 25 _ rfl, (RO.out.over hb).a.cell 0 _ rfl, (RO.out.over hb).a.cell 1 _ rfl, (RO.out.over hb).a.cell 2 _ rfl, hb⟩)
    clear cn0 cn3 cn4 cn5 cn6 cn7 cn8 cn9 cn10 cn22 cn23 cn24 cn25 ca0 ca1 ca2 cb0 cb1 cb2 cq0 fq0 cq1 fq1 cz0 fz0 cz1 fz1 cz2 fz2 ln la lb lz lq
    go_region_held3 (fun w' => w'.cell? ⟨w.heap.size, 23, none⟩ = some (.int .i64 n.h0) ∧ w'.cell? ⟨w.heap.size, 24, none⟩ = some (.int .i64 n.h1) ∧ w'.cell? ⟨w.heap.size, 25, none⟩ = some (.int .i64 n.h2) ∧ w'.cell? ⟨w.heap.size + 1, 0, none⟩ = some (.int .i64 a.x) ∧ w'.cell? ⟨w.heap.size + 1, 1, none⟩ = some (.int .i64 a.y) ∧ w'.cell? ⟨w.heap.size + 1, 2, none⟩ = some (.int .i64 a.z) ∧ Below w9.heap.size w9 w')
      (first | (with_reducible assumption) | (refine PS.out _ ?_; first | (with_reducible exact Below.refl _ _) | (with_reducible exact (Below.refl _ _).drew) | (with_reducible exact hB3) | (with_reducible exact hB3.drew) | (with_reducible exact hB2) | (with_reducible exact hB2.drew)))
      (first | (go_at_call 34; (first | (with_reducible refine (Z1.out _).mono ?_) | (with_reducible refine (Z2.out _).mono ?_)); rintro e w2 ⟨rfl, hb2⟩; (first | (have hB3 := below_call hB2 hb2) | (have hB3 := below_call hB2.drew hb2) | (have hB2 := below_call (Below.refl w9.heap.size w9) hb2) | (have hB2 := below_call (Below.refl w9.heap.size w9).drew hb2))))
    all_goals (have hBe := (‹_ ∧ _ ∧ _ ∧ _ ∧ _ ∧ _ ∧ Below w9.heap.size w9 _›).2.2.2.2.2.2; have RO2 := Lib.hid (RO.out.over hBe); have BW2 := Lib.hid (below_call BW.out hBe); obtain ⟨cn3, cn4, cn5, cn6, cn7, cn8, cn9, cn10, cn22, cn23, cn24, cn25, ca0, ca1, ca2, cb0, cb1, cb2, cq0, fq0, cq1, fq1, cz0, fz0, cz1, fz1, cz2, fz2, ln, la, lb, lz, lq⟩ := RO2.out.all; have cn0 := RO2.out.n.cell 0 _ e0; clear hBe; go_wp2_with fail)
    all_goals first | (exact bodyPost_ret (results_cell_mid2 rfl _ _ (w.heap.size + 1 + 1 + 1) _ rfl (load_row (RO2.out.put _ _ _) 22 _ Try.underlying22 rfl (by kernel_rfl))) rfl ⟨⟨_, _, _, rfl⟩, below_put BW2.out⟩) | exact bodyPost_ret (results_cell_mid2 rfl _ _ (w.heap.size + 1 + 1 + 1) _ rfl (load_row (RO2.out.put _ _ _) 22 _ Try.underlying22 rfl (by kernel_rfl))) rfl ⟨_, _, _, rfl, below_put BW2.out, by first | rfl | (intro _; rfl) | (intro h; simp at h)⟩
end Go.Proofs.Ytdbfakllcaojcaa
