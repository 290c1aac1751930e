/- The statement QuantRuns of layer 20 (numbers brought to a byte by a loop program): it returns true for all inputs. -/
import Derived.Test.YtghclbeoabkgcaaRows
import Derived.Test.YtghclbeoabkgcaaQrA
namespace Go.Proofs.Ytghclbeoabkgcaa
open Pl Go Go.RowKit Go.ChangeShapes Go.WideShapes Go.ChangeAt
set_option linter.unusedVariables false

theorem lit_own (W0 : World) (x : Q5) (e : TypeId) : (W0.alloc (.cells #[.int .i64 x.o, .int .i64 x.d, .int .i64 x.a, .int .i64 x.b, .int .i32 x.i] e)).ownsRow W0.heap.size e 5 (.slice (some ⟨W0.heap.size, 0, none⟩) 1 1) 1 (flat [x]) :=
  World.ownsRow_lit W0 #[.int .i64 x.o, .int .i64 x.d, .int .i64 x.a, .int .i64 x.b, .int .i32 x.i] 1 (Nat.le_refl _) (by decide) rfl
/-- the four numbers in their block -/
structure By4 (B : Nat) (s z lo hi : Int) (w : World) : Prop where
  c0 : w.cell? ⟨B, 0, none⟩ = some (.int .i64 s)
  c1 : w.cell? ⟨B, 1, none⟩ = some (.int .i32 z)
  c2 : w.cell? ⟨B, 2, none⟩ = some (.int .i32 lo)
  c3 : w.cell? ⟨B, 3, none⟩ = some (.int .i32 hi)
  lt : B < w.heap.size
theorem By4.grown {B : Nat} {s z lo hi : Int} {w w' : World} (h : By4 B s z lo hi w) (hb : Below w.heap.size w w') : By4 B s z lo hi w' :=
  ⟨(hb.cell (by exact h.lt)).trans h.c0, (hb.cell (by exact h.lt)).trans h.c1, (hb.cell (by exact h.lt)).trans h.c2, (hb.cell (by exact h.lt)).trans h.c3, Nat.lt_of_lt_of_le h.lt hb.size⟩
theorem by4_new (w : World) (s z lo hi : Int) (ty : TypeId) : By4 w.heap.size s z lo hi (w.alloc (.cells #[.int .i64 s, .int .i32 z, .int .i32 lo, .int .i32 hi] ty)) :=
  ⟨by rw [World.cell?_alloc_new]; rfl, by rw [World.cell?_alloc_new]; rfl, by rw [World.cell?_alloc_new]; rfl, by rw [World.cell?_alloc_new]; rfl, by simp⟩
theorem own_base {w : World} {base n size : Nat} {e : TypeId} {v : Value} {xs : List Value} (h : w.ownsRow base e size v n xs) : ∀ k, v.ownBlock = some k → base ≤ k := fun k hk => (h.lt k hk).1
set_option maxRecDepth 100000 in
set_option maxHeartbeats 4000000 in
theorem qruns_big1 (n m s z lo hi : Int) (w : World) (hn : -2147483648 ≤ n ∧ n ≤ 2147483647) (hm : -2147483648 ≤ m ∧ m ≤ 2147483647) (C1 : canqS 0 0 1 s = true) (C2 : boundsS 0 1 lo hi = true) (C3 : decide (1000 < z) = false) (C4 : decide (z < -1000) = false) (D1 : decide (268435456 < scaleS n m s) = true) :
    Calls Try.prog 3 #[.int .i32 n, .int .i32 m, .agg #[.int .i64 s, .int .i32 z, .int .i32 lo, .int .i32 hi]] w fun e w' => e = .returned (.bool true) ∧ Below w.heap.size w w' := by
  have SS := Lib.hid (show ∀ w, Calls Try.prog 14 #[.int .i64 0, .int .i64 0, .int .i64 1, .int .i32 m, .int .i64 s] w (StepsIn (stepsQ 0 0 1 m s) w) from fun w => steps_some 0 0 1 m s w C1)
  have SCL := Lib.hid (fun w => ref20_scale n m s w hn hm)
  obtain ⟨W0, hW0⟩ : ∃ W0, W0 = w.alloc (.cells #[.int .i64 s, .int .i32 z, .int .i32 lo, .int .i32 hi] 23) := ⟨_, rfl⟩
  have BX := Lib.hid (show By4 w.heap.size s z lo hi W0 by rw [hW0]; exact by4_new _ _ _ _ _ _)
  have B0 := Lib.hid (show Below w.heap.size w W0 by rw [hW0]; exact (Below.refl _ _).alloc (Nat.le_refl _) _)
  have E0 := Lib.hid (show W0.heap.size = w.heap.size + 1 by rw [hW0]; simp)
  obtain ⟨i0, hi0, hz0, hz1, hz2⟩ := info_parts info_lop
  go_enter Try.func3, Try.ntmps3
  go_wp2_with (first | (go_at_call 11; refine (canq_any _ _ _ _ _ (by omega)).mono ?_; rw [C1]; rintro e w' ⟨rfl, rfl⟩) | (go_at_call 12; refine (bounds_any _ _ _ _ _ (by omega)).mono ?_; rw [C2]; rintro e w' ⟨rfl, rfl⟩) | (go_at_call 13; refine (law20_lives _).mono ?_; rintro e w1 ⟨rfl, b1⟩))
  rw [← hW0]
  refine (SS.out _).mono ?_
  rintro e w2 ⟨b, c, rfl, h5, hge, hlt, b2⟩
  have OWN := Lib.hid (own_later (lit_own W0 ⟨1, 0, 0, 0, n⟩ 29) b2)
  rw [E0.out] at OWN
  have NEWS := Lib.hid h5.news
  have BL := Lib.hid (show Below W0.heap.size W0 w2 from ((Below.refl _ _).alloc (Nat.le_refl _) _).trans (b2.mono (by simp)))
  have LN := Lib.hid (stepsQ_lenR m s)
  have LNF := Lib.hid (flat_len (stepsQ 0 0 1 m s))
  have ONE := Lib.hid (flat_one (stepsQ 0 0 1 m s))
  have BX2 := BX.out.grown BL.out
  clear h5 hge hlt b2
  obtain ⟨c0, c1, c2, c3, clt⟩ := BX2
  generalize hG : stepsQ 0 0 1 m s = G at *
  go_wp2_with (at_builtin; refine wpList_append_own _ rfl (.tmp 38) (.tmp 42) 27 rfl (w.heap.size + 1) 29 i0 (.agg #[.int .i64 0, .int .i64 0, .int .i64 0, .int .i64 0, .int .i32 0]) 5 40 Try.underlying27 hi0 hz0 hz1 hz2 rfl (by decide) (.slice (some ⟨w.heap.size + 1, 0, none⟩) 1 1) 1 (flat [⟨1, 0, 0, 0, n⟩]) rfl OWN.out ⟨b, 0, none⟩ G.length c (flat G) rfl LNF.out NEWS.out ONE.out (by have := LN.out; simp [maxLen]; omega) (by have := LN.out; omega) (by rw [← E0.out]; exact BL.out.size) ?_; intro v1 w3 hown hg hn3; have B3 := Lib.hid (below_grown BL.out hg (fun k hk => by cases hk; rw [E0.out]; exact Nat.le_refl _)); obtain ⟨d0, d1, d2, d3, dlt⟩ := BX.out.grown B3.out; have OWN3 := Lib.hid hown; clear hown hg hn3 c0 c1 c2 c3 clt NEWS OWN)
  refine (SCL.out _).mono ?_
  rintro e w9 ⟨rfl, rfl⟩
  go_wp2_with (first | (go_at_call 15; refine (SCL.out _).mono ?_; rintro e w' ⟨rfl, rfl⟩) | (go_at_call 11; refine (canq_any _ _ _ _ _ (by omega)).mono ?_; rw [C1]; rintro e w' ⟨rfl, rfl⟩) | (go_at_call 12; refine (bounds_any _ _ _ _ _ (by omega)).mono ?_; rw [C2]; rintro e w' ⟨rfl, rfl⟩) | (go_at_call 13; refine (law20_lives _).mono ?_; rintro e w1 ⟨rfl, b1⟩))
  go_ret
  exact ⟨rfl, B0.out.trans ((B3.out.mono B0.out.size).trans (b1.mono (Nat.le_trans B0.out.size B3.out.size)))⟩
set_option maxRecDepth 100000 in
set_option maxHeartbeats 4000000 in
theorem qruns_big2 (n m s z lo hi : Int) (w : World) (hn : -2147483648 ≤ n ∧ n ≤ 2147483647) (hm : -2147483648 ≤ m ∧ m ≤ 2147483647) (C1 : canqS 0 0 1 s = true) (C2 : boundsS 0 1 lo hi = true) (C3 : decide (1000 < z) = false) (C4 : decide (z < -1000) = false) (D1 : decide (268435456 < scaleS n m s) = false) (D2 : decide (scaleS n m s < -268435456) = true) :
    Calls Try.prog 3 #[.int .i32 n, .int .i32 m, .agg #[.int .i64 s, .int .i32 z, .int .i32 lo, .int .i32 hi]] w fun e w' => e = .returned (.bool true) ∧ Below w.heap.size w w' := by
  have SS := Lib.hid (show ∀ w, Calls Try.prog 14 #[.int .i64 0, .int .i64 0, .int .i64 1, .int .i32 m, .int .i64 s] w (StepsIn (stepsQ 0 0 1 m s) w) from fun w => steps_some 0 0 1 m s w C1)
  have SCL := Lib.hid (fun w => ref20_scale n m s w hn hm)
  obtain ⟨W0, hW0⟩ : ∃ W0, W0 = w.alloc (.cells #[.int .i64 s, .int .i32 z, .int .i32 lo, .int .i32 hi] 23) := ⟨_, rfl⟩
  have BX := Lib.hid (show By4 w.heap.size s z lo hi W0 by rw [hW0]; exact by4_new _ _ _ _ _ _)
  have B0 := Lib.hid (show Below w.heap.size w W0 by rw [hW0]; exact (Below.refl _ _).alloc (Nat.le_refl _) _)
  have E0 := Lib.hid (show W0.heap.size = w.heap.size + 1 by rw [hW0]; simp)
  obtain ⟨i0, hi0, hz0, hz1, hz2⟩ := info_parts info_lop
  go_enter Try.func3, Try.ntmps3
  go_wp2_with (first | (go_at_call 11; refine (canq_any _ _ _ _ _ (by omega)).mono ?_; rw [C1]; rintro e w' ⟨rfl, rfl⟩) | (go_at_call 12; refine (bounds_any _ _ _ _ _ (by omega)).mono ?_; rw [C2]; rintro e w' ⟨rfl, rfl⟩) | (go_at_call 13; refine (law20_lives _).mono ?_; rintro e w1 ⟨rfl, b1⟩))
  rw [← hW0]
  refine (SS.out _).mono ?_
  rintro e w2 ⟨b, c, rfl, h5, hge, hlt, b2⟩
  have OWN := Lib.hid (own_later (lit_own W0 ⟨1, 0, 0, 0, n⟩ 29) b2)
  rw [E0.out] at OWN
  have NEWS := Lib.hid h5.news
  have BL := Lib.hid (show Below W0.heap.size W0 w2 from ((Below.refl _ _).alloc (Nat.le_refl _) _).trans (b2.mono (by simp)))
  have LN := Lib.hid (stepsQ_lenR m s)
  have LNF := Lib.hid (flat_len (stepsQ 0 0 1 m s))
  have ONE := Lib.hid (flat_one (stepsQ 0 0 1 m s))
  have BX2 := BX.out.grown BL.out
  clear h5 hge hlt b2
  obtain ⟨c0, c1, c2, c3, clt⟩ := BX2
  generalize hG : stepsQ 0 0 1 m s = G at *
  go_wp2_with (at_builtin; refine wpList_append_own _ rfl (.tmp 38) (.tmp 42) 27 rfl (w.heap.size + 1) 29 i0 (.agg #[.int .i64 0, .int .i64 0, .int .i64 0, .int .i64 0, .int .i32 0]) 5 40 Try.underlying27 hi0 hz0 hz1 hz2 rfl (by decide) (.slice (some ⟨w.heap.size + 1, 0, none⟩) 1 1) 1 (flat [⟨1, 0, 0, 0, n⟩]) rfl OWN.out ⟨b, 0, none⟩ G.length c (flat G) rfl LNF.out NEWS.out ONE.out (by have := LN.out; simp [maxLen]; omega) (by have := LN.out; omega) (by rw [← E0.out]; exact BL.out.size) ?_; intro v1 w3 hown hg hn3; have B3 := Lib.hid (below_grown BL.out hg (fun k hk => by cases hk; rw [E0.out]; exact Nat.le_refl _)); obtain ⟨d0, d1, d2, d3, dlt⟩ := BX.out.grown B3.out; have OWN3 := Lib.hid hown; clear hown hg hn3 c0 c1 c2 c3 clt NEWS OWN)
  refine (SCL.out _).mono ?_
  rintro e w9 ⟨rfl, rfl⟩
  go_wp2_with (first | (go_at_call 15; refine (SCL.out _).mono ?_; rintro e w' ⟨rfl, rfl⟩) | (go_at_call 11; refine (canq_any _ _ _ _ _ (by omega)).mono ?_; rw [C1]; rintro e w' ⟨rfl, rfl⟩) | (go_at_call 12; refine (bounds_any _ _ _ _ _ (by omega)).mono ?_; rw [C2]; rintro e w' ⟨rfl, rfl⟩) | (go_at_call 13; refine (law20_lives _).mono ?_; rintro e w1 ⟨rfl, b1⟩))
  go_ret
  exact ⟨rfl, B0.out.trans ((B3.out.mono B0.out.size).trans (b1.mono (Nat.le_trans B0.out.size B3.out.size)))⟩
end Go.Proofs.Ytghclbeoabkgcaa
