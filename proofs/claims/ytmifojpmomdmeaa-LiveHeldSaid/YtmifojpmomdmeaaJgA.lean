/- Package infer: the judge's methods window, chans, shape, alike. -/
import Derived.Test.YtmifojpmomdmeaaJP
namespace Go.Proofs.Ytmifojpmomdmeaa
open Go Go.RowKit
set_option linter.unusedVariables false

set_option maxHeartbeats 1000000 in
/-- the method's answer, where the operator has no window -/
theorem jwin_no (J : Nat) (j : Jg) (w : World) (hJ : JAt w J j) (hj : JOk j) (h : hWin j.n.op = false) :
    Calls Try.prog 55 #[.pointer (some ⟨J, 0, none⟩)] w fun e w' => e = .returned (.int .i64 0) ∧ w' = w := by
  have hb : bits .and .i64 j.h 4 = 0 := by rw [hj.has]; exact (bit_3 hj.op).2 h
  have c_26 := hJ.cell 26 _ rfl
  clear hJ hj h
  go_enter Try.func55, Try.ntmps55
  go_wp2_with fail
  go_ret
  exact ⟨rfl, rfl⟩
/-- what window.Out tells of the judge's node -/
theorem jout (j : Jg) (W : World) : Calls Try.prog 81 #[.agg #[.int .i64 j.a.x, .int .i64 j.a.y], .agg #[.int .i64 j.n.k0, .int .i64 j.n.k1], .agg #[.int .i64 j.n.s0, .int .i64 j.n.s1], .agg #[.int .i64 j.n.p0, .int .i64 j.n.p1, .int .i64 j.n.p2, .int .i64 j.n.p3]] W (OutP (winG j.n j.a) (rowX j.n j.a) (rowY j.n j.a) W) :=
  out_any j.a.x j.a.y j.n.k0 j.n.k1 j.n.s0 j.n.s1 j.n.p0 j.n.p1 j.n.p2 j.n.p3 W
set_option maxHeartbeats 2000000 in
theorem jwin_bad (J : Nat) (j : Jg) (w : World) (hJ : JAt w J j) (hj : JOk j) (h : hWin j.n.op = true) (hg : winG j.n j.a = false) :
    Calls Try.prog 55 #[.pointer (some ⟨J, 0, none⟩)] w fun e w' => e = .returned (.int .i64 10) ∧ Below w.heap.size w w' := by
  have hb : ¬ bits .and .i64 j.h 4 = 0 := by rw [hj.has]; intro e; rw [(bit_3 hj.op).1 e] at h; cases h
  have hlt := hJ.lt
  have c_3 := hJ.cell 3 _ rfl
  have c_4 := hJ.cell 4 _ rfl
  have c_5 := hJ.cell 5 _ rfl
  have c_6 := hJ.cell 6 _ rfl
  have c_7 := hJ.cell 7 _ rfl
  have c_8 := hJ.cell 8 _ rfl
  have c_9 := hJ.cell 9 _ rfl
  have c_10 := hJ.cell 10 _ rfl
  have c_28 := hJ.cell 28 _ rfl
  have c_29 := hJ.cell 29 _ rfl
  have c_26 := hJ.cell 26 _ rfl
  have c_37 := hJ.cell 37 _ rfl
  have c_38 := hJ.cell 38 _ rfl
  have f_37 := RowAt.fr hJ 37
  have f_38 := RowAt.fr hJ 38
  have PS := Lib.hid (show ∀ w', Below w.heap.size w w' → (fun w' => w'.cell? ⟨J, 3, none⟩ = some (.int .i64 j.n.k0) ∧ w'.cell? ⟨J, 4, none⟩ = some (.int .i64 j.n.k1) ∧ w'.cell? ⟨J, 5, none⟩ = some (.int .i64 j.n.s0) ∧ w'.cell? ⟨J, 6, none⟩ = some (.int .i64 j.n.s1) ∧ w'.cell? ⟨J, 7, none⟩ = some (.int .i64 j.n.p0) ∧ w'.cell? ⟨J, 8, none⟩ = some (.int .i64 j.n.p1) ∧ w'.cell? ⟨J, 9, none⟩ = some (.int .i64 j.n.p2) ∧ w'.cell? ⟨J, 10, none⟩ = some (.int .i64 j.n.p3) ∧ w'.cell? ⟨J, 28, none⟩ = some (.int .i64 j.a.x) ∧ w'.cell? ⟨J, 29, none⟩ = some (.int .i64 j.a.y) ∧ Below w.heap.size w w') w' from fun w' hb => ⟨(hb.cell (p := ⟨J, 3, none⟩) hlt).trans c_3, (hb.cell (p := ⟨J, 4, none⟩) hlt).trans c_4, (hb.cell (p := ⟨J, 5, none⟩) hlt).trans c_5, (hb.cell (p := ⟨J, 6, none⟩) hlt).trans c_6, (hb.cell (p := ⟨J, 7, none⟩) hlt).trans c_7, (hb.cell (p := ⟨J, 8, none⟩) hlt).trans c_8, (hb.cell (p := ⟨J, 9, none⟩) hlt).trans c_9, (hb.cell (p := ⟨J, 10, none⟩) hlt).trans c_10, (hb.cell (p := ⟨J, 28, none⟩) hlt).trans c_28, (hb.cell (p := ⟨J, 29, none⟩) hlt).trans c_29, hb⟩)
  have OUT := Lib.hid (fun W => jout j W)
  rw [hg] at OUT
  obtain ⟨r0, hr0⟩ : ∃ r, r = rowX j.n j.a := ⟨_, rfl⟩
  obtain ⟨r1, hr1⟩ : ∃ r, r = rowY j.n j.a := ⟨_, rfl⟩
  try rw [← hr0, ← hr1]
  try rw [← hr0, ← hr1] at OUT
  have HJ := Lib.hid hJ
  have HR0 := Lib.hid hr0
  have HR1 := Lib.hid hr1
  clear hJ hj h hg hr0 hr1
  go_enter Try.func55, Try.ntmps55
  go_wp2_with fail
  go_region_held3 (fun w' => w'.cell? ⟨J, 3, none⟩ = some (.int .i64 j.n.k0) ∧ w'.cell? ⟨J, 4, none⟩ = some (.int .i64 j.n.k1) ∧ w'.cell? ⟨J, 5, none⟩ = some (.int .i64 j.n.s0) ∧ w'.cell? ⟨J, 6, none⟩ = some (.int .i64 j.n.s1) ∧ w'.cell? ⟨J, 7, none⟩ = some (.int .i64 j.n.p0) ∧ w'.cell? ⟨J, 8, none⟩ = some (.int .i64 j.n.p1) ∧ w'.cell? ⟨J, 9, none⟩ = some (.int .i64 j.n.p2) ∧ w'.cell? ⟨J, 10, none⟩ = some (.int .i64 j.n.p3) ∧ w'.cell? ⟨J, 28, none⟩ = some (.int .i64 j.a.x) ∧ w'.cell? ⟨J, 29, none⟩ = some (.int .i64 j.a.y) ∧ Below w.heap.size w w')
    (first | (with_reducible assumption) | (refine PS.out _ ?_; first | (with_reducible exact Below.refl _ _) | (with_reducible exact (Below.refl _ _).drew) | (with_reducible exact hB2) | (with_reducible exact hB2.drew) | (with_reducible exact hB2.alloc hB2.size _) | (with_reducible exact (hB2.alloc hB2.size _).drew) | go_grown))
    (first | (go_at_call 81; (with_reducible refine (OUT.out _).mono ?_); rintro e w2 ⟨rfl, hb2⟩; (first | (have hB2 := below_call (Below.refl w.heap.size w) hb2) | (have hB2 := below_call (Below.refl w.heap.size w).drew hb2) | (have hB2 := below_call ((Below.refl w.heap.size w).alloc (Nat.le_refl _) _) hb2; have zz := (RowAt.new w [.int .i64 0, .int .i64 0] 44).later hb2 (lt_alloc _ _); have z0 := zz.cell 0 _ rfl; have z1 := zz.cell 1 _ rfl; have z2 := zz.fr 0; have z3 := zz.fr 1; have z4 := zz.lt) | (have hB2 := below_call ((Below.refl w.heap.size w).alloc (Nat.le_refl _) _).drew hb2; have zz := (RowAt.new w [.int .i64 0, .int .i64 0] 44).drew.later hb2 (lt_alloc_drew _ _); have z0 := zz.cell 0 _ rfl; have z1 := zz.cell 1 _ rfl; have z2 := zz.fr 0; have z3 := zz.fr 1; have z4 := zz.lt))))
  all_goals
    rename_i hH
    obtain ⟨_, _, _, _, _, _, _, _, _, _, hB3⟩ := hH
    have d37 := (hB3.cell (p := ⟨J, 37, none⟩) hlt).trans c_37
    have d38 := (hB3.cell (p := ⟨J, 38, none⟩) hlt).trans c_38
    have g37 := (hB3.frozen (p := ⟨J, 37, none⟩) hlt).trans f_37
    have g38 := (hB3.frozen (p := ⟨J, 38, none⟩) hlt).trans f_38
    have hs3 := Nat.lt_of_lt_of_le hlt hB3.size
    have HB3 := Lib.hid hB3
    clear hB3 hb2 hB2
    go_wp2_with fail
    go_ret
    exact ⟨rfl, HB3.out⟩
set_option maxHeartbeats 2000000 in
theorem jwin_good (J : Nat) (j : Jg) (w : World) (hJ : JAt w J j) (hj : JOk j) (h : hWin j.n.op = true) (hg : winG j.n j.a = true) :
    Calls Try.prog 55 #[.pointer (some ⟨J, 0, none⟩)] w fun e w' => e = .returned (.int .i64 0) ∧ w.grownBy w' (some J) ∧ JAt w' J { j with r0 := rowX j.n j.a, r1 := rowY j.n j.a } := by
  have hb : ¬ bits .and .i64 j.h 4 = 0 := by rw [hj.has]; intro e; rw [(bit_3 hj.op).1 e] at h; cases h
  have hlt := hJ.lt
  have c_3 := hJ.cell 3 _ rfl
  have c_4 := hJ.cell 4 _ rfl
  have c_5 := hJ.cell 5 _ rfl
  have c_6 := hJ.cell 6 _ rfl
  have c_7 := hJ.cell 7 _ rfl
  have c_8 := hJ.cell 8 _ rfl
  have c_9 := hJ.cell 9 _ rfl
  have c_10 := hJ.cell 10 _ rfl
  have c_28 := hJ.cell 28 _ rfl
  have c_29 := hJ.cell 29 _ rfl
  have c_26 := hJ.cell 26 _ rfl
  have c_37 := hJ.cell 37 _ rfl
  have c_38 := hJ.cell 38 _ rfl
  have f_37 := RowAt.fr hJ 37
  have f_38 := RowAt.fr hJ 38
  have PS := Lib.hid (show ∀ w', Below w.heap.size w w' → (fun w' => w'.cell? ⟨J, 3, none⟩ = some (.int .i64 j.n.k0) ∧ w'.cell? ⟨J, 4, none⟩ = some (.int .i64 j.n.k1) ∧ w'.cell? ⟨J, 5, none⟩ = some (.int .i64 j.n.s0) ∧ w'.cell? ⟨J, 6, none⟩ = some (.int .i64 j.n.s1) ∧ w'.cell? ⟨J, 7, none⟩ = some (.int .i64 j.n.p0) ∧ w'.cell? ⟨J, 8, none⟩ = some (.int .i64 j.n.p1) ∧ w'.cell? ⟨J, 9, none⟩ = some (.int .i64 j.n.p2) ∧ w'.cell? ⟨J, 10, none⟩ = some (.int .i64 j.n.p3) ∧ w'.cell? ⟨J, 28, none⟩ = some (.int .i64 j.a.x) ∧ w'.cell? ⟨J, 29, none⟩ = some (.int .i64 j.a.y) ∧ Below w.heap.size w w') w' from fun w' hb => ⟨(hb.cell (p := ⟨J, 3, none⟩) hlt).trans c_3, (hb.cell (p := ⟨J, 4, none⟩) hlt).trans c_4, (hb.cell (p := ⟨J, 5, none⟩) hlt).trans c_5, (hb.cell (p := ⟨J, 6, none⟩) hlt).trans c_6, (hb.cell (p := ⟨J, 7, none⟩) hlt).trans c_7, (hb.cell (p := ⟨J, 8, none⟩) hlt).trans c_8, (hb.cell (p := ⟨J, 9, none⟩) hlt).trans c_9, (hb.cell (p := ⟨J, 10, none⟩) hlt).trans c_10, (hb.cell (p := ⟨J, 28, none⟩) hlt).trans c_28, (hb.cell (p := ⟨J, 29, none⟩) hlt).trans c_29, hb⟩)
  have OUT := Lib.hid (fun W => jout j W)
  rw [hg] at OUT
  obtain ⟨r0, hr0⟩ : ∃ r, r = rowX j.n j.a := ⟨_, rfl⟩
  obtain ⟨r1, hr1⟩ : ∃ r, r = rowY j.n j.a := ⟨_, rfl⟩
  rw [← hr0, ← hr1]
  try rw [← hr0, ← hr1] at OUT
  have HJ := Lib.hid hJ
  have HR0 := Lib.hid hr0
  have HR1 := Lib.hid hr1
  clear hJ hj h hg hr0 hr1
  go_enter Try.func55, Try.ntmps55
  go_wp2_with fail
  go_region_held3 (fun w' => w'.cell? ⟨J, 3, none⟩ = some (.int .i64 j.n.k0) ∧ w'.cell? ⟨J, 4, none⟩ = some (.int .i64 j.n.k1) ∧ w'.cell? ⟨J, 5, none⟩ = some (.int .i64 j.n.s0) ∧ w'.cell? ⟨J, 6, none⟩ = some (.int .i64 j.n.s1) ∧ w'.cell? ⟨J, 7, none⟩ = some (.int .i64 j.n.p0) ∧ w'.cell? ⟨J, 8, none⟩ = some (.int .i64 j.n.p1) ∧ w'.cell? ⟨J, 9, none⟩ = some (.int .i64 j.n.p2) ∧ w'.cell? ⟨J, 10, none⟩ = some (.int .i64 j.n.p3) ∧ w'.cell? ⟨J, 28, none⟩ = some (.int .i64 j.a.x) ∧ w'.cell? ⟨J, 29, none⟩ = some (.int .i64 j.a.y) ∧ Below w.heap.size w w')
    (first | (with_reducible assumption) | (refine PS.out _ ?_; first | (with_reducible exact Below.refl _ _) | (with_reducible exact (Below.refl _ _).drew) | (with_reducible exact hB2) | (with_reducible exact hB2.drew) | (with_reducible exact hB2.alloc hB2.size _) | (with_reducible exact (hB2.alloc hB2.size _).drew) | go_grown))
    (first | (go_at_call 81; (with_reducible refine (OUT.out _).mono ?_); rintro e w2 ⟨rfl, hb2⟩; (first | (have hB2 := below_call (Below.refl w.heap.size w) hb2) | (have hB2 := below_call (Below.refl w.heap.size w).drew hb2) | (have hB2 := below_call ((Below.refl w.heap.size w).alloc (Nat.le_refl _) _) hb2; have zz := (RowAt.new w [.int .i64 0, .int .i64 0] 44).later hb2 (lt_alloc _ _); have z0 := zz.cell 0 _ rfl; have z1 := zz.cell 1 _ rfl; have z2 := zz.fr 0; have z3 := zz.fr 1; have z4 := zz.lt) | (have hB2 := below_call ((Below.refl w.heap.size w).alloc (Nat.le_refl _) _).drew hb2; have zz := (RowAt.new w [.int .i64 0, .int .i64 0] 44).drew.later hb2 (lt_alloc_drew _ _); have z0 := zz.cell 0 _ rfl; have z1 := zz.cell 1 _ rfl; have z2 := zz.fr 0; have z3 := zz.fr 1; have z4 := zz.lt))))
  all_goals
    rename_i hH
    obtain ⟨_, _, _, _, _, _, _, _, _, _, hB3⟩ := hH
    have d37 := (hB3.cell (p := ⟨J, 37, none⟩) hlt).trans c_37
    have d38 := (hB3.cell (p := ⟨J, 38, none⟩) hlt).trans c_38
    have g37 := (hB3.frozen (p := ⟨J, 37, none⟩) hlt).trans f_37
    have g38 := (hB3.frozen (p := ⟨J, 38, none⟩) hlt).trans f_38
    have hs3 := Nat.lt_of_lt_of_le hlt hB3.size
    have HB3 := Lib.hid hB3
    clear hB3 hb2 hB2
    go_wp2_with fail
    go_ret
    exact ⟨rfl, grownN_set (grownN_set (below_grown HB3.out (some J))), JAt.set _ (JAt.set { j with r0 := r0 } (HJ.out.later HB3.out hlt) 37 _ (by decide) rfl) 38 _ (by decide) rfl⟩
/-- what the window asks -/
theorem jwin_any (J : Nat) (j : Jg) (w : World) (hJ : JAt w J j) (hj : JOk j) :
    Calls Try.prog 55 #[.pointer (some ⟨J, 0, none⟩)] w fun e w' => ∃ c r0 r1, e = .returned (.int .i64 c) ∧ c = (if hWin j.n.op && !winG j.n j.a then 10 else 0) ∧ w.grownBy w' (some J) ∧ JAt w' J { j with r0 := r0, r1 := r1 } ∧ (hWin j.n.op = true → c = 0 → r0 = rowX j.n j.a ∧ r1 = rowY j.n j.a) := by
  cases h : hWin j.n.op
  · refine (jwin_no J j w hJ hj h).mono ?_
    rintro e w' ⟨rfl, rfl⟩
    exact ⟨0, j.r0, j.r1, rfl, rfl, below_grown (Below.refl _ _) _, hJ, fun e => by cases e⟩
  · cases hg : winG j.n j.a
    · refine (jwin_bad J j w hJ hj h hg).mono ?_
      rintro e w' ⟨rfl, hb⟩
      exact ⟨10, j.r0, j.r1, rfl, rfl, below_grown hb _, hJ.later hb hJ.lt, fun _ e => by cases e⟩
    · refine (jwin_good J j w hJ hj h hg).mono ?_
      rintro e w' ⟨rfl, hb, hJ'⟩
      exact ⟨0, _, _, rfl, rfl, hb, hJ', fun _ _ => ⟨rfl, rfl⟩⟩
end Go.Proofs.Ytmifojpmomdmeaa
