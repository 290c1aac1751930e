/- The statements of layer 21 (shapes): each law of package pintlelaw21 returns true for all inputs. -/
import Derived.Test.YtedfekgacmfjkaaRows
import Derived.Test.YtedfekgacmfjkaaTensorB
import Derived.Test.YtedfekgacmfjkaaOpen
import Derived.Deep.RegionHeld3
namespace Go.Proofs.Ytedfekgacmfjkaa
open Go Go.RowKit Go.ChangeShapes Go.WideShapes Go.ChangeAt Pl
set_option linter.unusedVariables false

theorem good_b (x y z : Int) (w : World) : Calls Try.prog 15 #[.agg #[.int .i64 x, .int .i64 y, .int .i64 z]] w fun e w' => e = .returned (.bool (goodB x y z)) ∧ Below w.heap.size w w' :=
  (good_any x y z w).mono fun e w' ⟨h, g⟩ => ⟨h, by subst g; go_grown⟩
theorem ref_good_b (x y z : Int) (w : World) : Calls Try.prog 16 #[.agg #[.int .i64 x, .int .i64 y, .int .i64 z]] w fun e w' => e = .returned (.bool (goodB x y z)) ∧ Below w.heap.size w w' :=
  (ref_good x y z w).mono fun e w' ⟨h, g⟩ => ⟨h, by subst g; go_grown⟩
theorem size_b (x y z : Int) (w : World) : Calls Try.prog 17 #[.agg #[.int .i64 x, .int .i64 y, .int .i64 z]] w fun e w' => e = .returned (.int .i64 (sizeS x y z)) ∧ Below w.heap.size w w' :=
  (size_any x y z w).mono fun e w' ⟨h, g⟩ => ⟨h, by subst g; go_grown⟩
theorem ref_size_b (x y z : Int) (w : World) : Calls Try.prog 18 #[.agg #[.int .i64 x, .int .i64 y, .int .i64 z]] w fun e w' => e = .returned (.int .i64 (sizeS x y z)) ∧ Below w.heap.size w w' :=
  (ref_size x y z w).mono fun e w' ⟨h, g⟩ => ⟨h, by subst g; go_grown⟩

set_option maxHeartbeats 400000 in
theorem law21_lives (w : World) : Calls Try.prog 19 #[] w fun e w' => e = .returned (.bool true) ∧ Below w.heap.size w w' := by
  go_enter Try.func19, Try.ntmps19
  go_wp2_with fail
  refine (at_yes 2 3 4 1 2 3 _ (by decide) (by unfold inS; omega)).mono ?_
  rintro e w1 ⟨rfl, hb⟩
  go_wp2_with fail
  refine (good_any 1 1 1 _).mono ?_
  rw [show goodB 1 1 1 = true by decide]
  rintro e w' ⟨rfl, rfl⟩
  go_wp2_with fail
  go_ret
  exact ⟨rfl, below_trans hb ((Below.refl _ _).alloc (Nat.le_refl _) _)⟩

set_option maxHeartbeats 400000 in
theorem walk_TensorSizes (a0_0 a0_1 a0_2 : Int) (w0 : (Lit.int .i64 a0_0).wf = true) (w1 : (Lit.int .i64 a0_1).wf = true) (w2 : (Lit.int .i64 a0_2).wf = true) (w : World) :
    Calls Try.prog 3 #[.agg #[.int .i64 a0_0, .int .i64 a0_1, .int .i64 a0_2]] w fun e w' => e = .returned (.bool true) ∧ Below w.heap.size w w' := by
  go_enter Try.func3, Try.ntmps3
  go_wp2_with fail
  go_region_held3 (fun w' => w'.cell? ⟨w.heap.size, 0, none⟩ = some (.int .i64 a0_0) ∧ w'.cell? ⟨w.heap.size, 1, none⟩ = some (.int .i64 a0_1) ∧ w'.cell? ⟨w.heap.size, 2, none⟩ = some (.int .i64 a0_2) ∧ w.heap.size < w'.heap.size ∧ Below w.heap.size w w')
    (first | exact ⟨by simp, by simp, by simp, by simp, by go_grown⟩ | (obtain ⟨s0, s1, s2, s3, s4⟩ := ‹_ ∧ _ ∧ _ ∧ _ ∧ Below w.heap.size w _›; exact ⟨(hbl.cell (by show w.heap.size < _; omega)).trans s0, (hbl.cell (by show w.heap.size < _; omega)).trans s1, (hbl.cell (by show w.heap.size < _; omega)).trans s2, by have := hbl.size; omega, Below.trans s4 (hbl.mono (by omega))⟩) | (with_reducible assumption) | (obtain ⟨s0, s1, s2, s3, s4⟩ := ‹_ ∧ _ ∧ _ ∧ _ ∧ Below w.heap.size w _›; exact ⟨s0, s1, s2, s3, s4⟩))
    (first | (go_at_call 15; refine (good_b _ _ _ _).mono ?_; rintro e w' ⟨rfl, hbl⟩) | (go_at_call 16; refine (ref_good_b _ _ _ _).mono ?_; rintro e w' ⟨rfl, hbl⟩) | (go_at_call 17; refine (size_b _ _ _ _).mono ?_; rintro e w' ⟨rfl, hbl⟩) | (go_at_call 18; refine (ref_size_b _ _ _ _).mono ?_; rintro e w' ⟨rfl, hbl⟩) | (go_at_call 19; refine (law21_lives _).mono ?_; rintro e w' ⟨rfl, hbl⟩))
  obtain ⟨_, _, _, _, hB⟩ := ‹_ ∧ _ ∧ _ ∧ _ ∧ Below w.heap.size w _›
  go_wp2
  go_ret
  exact ⟨rfl, hB⟩

theorem cells3i : Try.prog.cellsOf 3 = 1 := by kernel_rfl
theorem info3i : Try.prog.info? 3 = some (Try.prog.info? 3).get! := by kernel_rfl
theorem at_back {x y z a b c : Int} (hx : 1 ≤ x ∧ x ≤ 64) (hy : 1 ≤ y ∧ y ≤ 64) (hz : 1 ≤ z ∧ z ≤ 64) (h : inS x y z a b c) :
    0 ≤ (a * y + b) * z + c ∧ (a * y + b) * z + c < x * y * z ∧ ((a * y + b) * z + c) / z / y = a ∧ ((a * y + b) * z + c) / z % y = b ∧ ((a * y + b) * z + c) % z = c := by
  obtain ⟨a0, a1, b0, b1, c0, c1⟩ := h
  have e1 : ((a * y + b) * z + c) / z = a * y + b := by
    rw [Int.add_comm, Int.add_mul_ediv_right _ _ (by omega), Int.ediv_eq_zero_of_lt c0 c1]; omega
  have e2 : ((a * y + b) * z + c) % z = c := by
    rw [Int.add_comm, Int.add_mul_emod_self_right]; exact Int.emod_eq_of_lt c0 c1
  have e3 : (a * y + b) / y = a := by
    rw [Int.add_comm, Int.add_mul_ediv_right _ _ (by omega), Int.ediv_eq_zero_of_lt b0 b1]; omega
  have e4 : (a * y + b) % y = b := by
    rw [Int.add_comm, Int.add_mul_emod_self_right]; exact Int.emod_eq_of_lt b0 b1
  have p0 : 0 ≤ a * y := Int.mul_nonneg a0 (by omega)
  have p1 : 0 ≤ (a * y + b) * z := Int.mul_nonneg (by omega) (by omega)
  have q1 : (a + 1) * y ≤ x * y := Int.mul_le_mul_of_nonneg_right (by omega) (by omega)
  have q2 : (a * y + b + 1) * z ≤ x * y * z := Int.mul_le_mul_of_nonneg_right (by rw [Int.add_mul] at q1; omega) (by omega)
  rw [Int.add_mul] at q2
  rw [e1, e2, e3, e4]
  refine ⟨by omega, by omega, rfl, rfl, rfl⟩

set_option maxRecDepth 100000 in
set_option maxHeartbeats 400000 in
theorem walk_TensorAt (a0_0 a0_1 a0_2 a1_0 a1_1 a1_2 : Int) (w0 : (Lit.int .i64 a0_0).wf = true) (w1 : (Lit.int .i64 a0_1).wf = true) (w2 : (Lit.int .i64 a0_2).wf = true) (w3 : (Lit.int .i64 a1_0).wf = true) (w4 : (Lit.int .i64 a1_1).wf = true) (w5 : (Lit.int .i64 a1_2).wf = true) (w : World) :
    Calls Try.prog 4 #[.agg #[.int .i64 a0_0, .int .i64 a0_1, .int .i64 a0_2], .agg #[.int .i64 a1_0, .int .i64 a1_1, .int .i64 a1_2]] w fun e w' => e = .returned (.bool true) ∧ Below w.heap.size w w' := by
  by_cases h : goodB a0_0 a0_1 a0_2 = true ∧ inS a0_0 a0_1 a0_2 a1_0 a1_1 a1_2
  · obtain ⟨hg, hi⟩ := h
    obtain ⟨x0, x1, y0, y1, z0, z1, _⟩ := goodB_out hg
    obtain ⟨r0, r1, r2, r3, r4⟩ := at_back ⟨x0, x1⟩ ⟨y0, y1⟩ ⟨z0, z1⟩ hi
    have R2 := Lib.hid r2
    have R3 := Lib.hid r3
    have R4 := Lib.hid r4
    clear r2 r3 r4
    have eq3 := fun (x y z a b c : Int) (w : World) => eqA3 Try.underlying22 Try.underlying3 info3i cells3i x y z a b c w
    go_enter Try.func4, Try.ntmps4
    go_wp2_with fail
    refine (at_yes _ _ _ _ _ _ _ hg hi).mono ?_
    rintro e w1 ⟨rfl, hb⟩
    have c0_0 : w1.cell? ⟨w.heap.size, 0, none⟩ = some (.int .i64 a0_0) := (hb.cell (by first | (simp; done) | (simp; omega))).trans (by first | (simp; done) | (simp [*]; done))
    have c0_1 : w1.cell? ⟨w.heap.size, 1, none⟩ = some (.int .i64 a0_1) := (hb.cell (by first | (simp; done) | (simp; omega))).trans (by first | (simp; done) | (simp [*]; done))
    have c0_2 : w1.cell? ⟨w.heap.size, 2, none⟩ = some (.int .i64 a0_2) := (hb.cell (by first | (simp; done) | (simp; omega))).trans (by first | (simp; done) | (simp [*]; done))
    have c1_0 : w1.cell? ⟨w.heap.size + 1, 0, none⟩ = some (.int .i64 a1_0) := (hb.cell (by first | (simp; done) | (simp; omega))).trans (by first | (simp; done) | (simp [*]; done))
    have c1_1 : w1.cell? ⟨w.heap.size + 1, 1, none⟩ = some (.int .i64 a1_1) := (hb.cell (by first | (simp; done) | (simp; omega))).trans (by first | (simp; done) | (simp [*]; done))
    have c1_2 : w1.cell? ⟨w.heap.size + 1, 2, none⟩ = some (.int .i64 a1_2) := (hb.cell (by first | (simp; done) | (simp; omega))).trans (by first | (simp; done) | (simp [*]; done))
    have hz : w.heap.size + 1 < w1.heap.size := by have := hb.size; simp at this; omega
    have hl0 : w.heap.size < w1.heap.size := by omega
    have hm0 : w.heap.size ≤ w1.heap.size := by omega
    have hn0 : w.heap.size < w1.heap.size + 1 := by omega
    have hp0 : w.heap.size < w1.heap.size + 1 + 1 := by omega
    have hl1 : w.heap.size + 1 < w1.heap.size := by omega
    have hm1 : w.heap.size + 1 ≤ w1.heap.size := by omega
    have hn1 : w.heap.size + 1 < w1.heap.size + 1 := by omega
    have hp1 : w.heap.size + 1 < w1.heap.size + 1 + 1 := by omega
    have hB : Below w.heap.size w w1 := Below.trans (by go_grown) (hb.mono (by first | (simp; done) | (simp; omega)))
    clear hb
    go_wp2_with fail
    refine (ref_at_yes _ _ _ _ _ _ _ hg hi).mono ?_
    rintro e w2 ⟨rfl, hb⟩
    replace c0_0 : w2.cell? ⟨w.heap.size, 0, none⟩ = some (.int .i64 a0_0) := (hb.cell (by show w.heap.size < _; omega)).trans c0_0
    replace c0_1 : w2.cell? ⟨w.heap.size, 1, none⟩ = some (.int .i64 a0_1) := (hb.cell (by show w.heap.size < _; omega)).trans c0_1
    replace c0_2 : w2.cell? ⟨w.heap.size, 2, none⟩ = some (.int .i64 a0_2) := (hb.cell (by show w.heap.size < _; omega)).trans c0_2
    replace c1_0 : w2.cell? ⟨w.heap.size + 1, 0, none⟩ = some (.int .i64 a1_0) := (hb.cell (by show w.heap.size + 1 < _; omega)).trans c1_0
    replace c1_1 : w2.cell? ⟨w.heap.size + 1, 1, none⟩ = some (.int .i64 a1_1) := (hb.cell (by show w.heap.size + 1 < _; omega)).trans c1_1
    replace c1_2 : w2.cell? ⟨w.heap.size + 1, 2, none⟩ = some (.int .i64 a1_2) := (hb.cell (by show w.heap.size + 1 < _; omega)).trans c1_2
    replace hB : Below w.heap.size w w2 := hB.trans (hb.mono (by omega))
    replace hz : w.heap.size + 1 < w2.heap.size := by have := hb.size; omega
    clear hb
    go_wp2_with fail
    refine (of_yes _ _ _ _ _ hg (by omega) (by omega)).mono ?_
    rw [R2.out, R3.out, R4.out]
    rintro e w3 ⟨rfl, hb⟩
    replace c0_0 : w3.cell? ⟨w.heap.size, 0, none⟩ = some (.int .i64 a0_0) := (hb.cell (by show w.heap.size < _; omega)).trans c0_0
    replace c0_1 : w3.cell? ⟨w.heap.size, 1, none⟩ = some (.int .i64 a0_1) := (hb.cell (by show w.heap.size < _; omega)).trans c0_1
    replace c0_2 : w3.cell? ⟨w.heap.size, 2, none⟩ = some (.int .i64 a0_2) := (hb.cell (by show w.heap.size < _; omega)).trans c0_2
    replace c1_0 : w3.cell? ⟨w.heap.size + 1, 0, none⟩ = some (.int .i64 a1_0) := (hb.cell (by show w.heap.size + 1 < _; omega)).trans c1_0
    replace c1_1 : w3.cell? ⟨w.heap.size + 1, 1, none⟩ = some (.int .i64 a1_1) := (hb.cell (by show w.heap.size + 1 < _; omega)).trans c1_1
    replace c1_2 : w3.cell? ⟨w.heap.size + 1, 2, none⟩ = some (.int .i64 a1_2) := (hb.cell (by show w.heap.size + 1 < _; omega)).trans c1_2
    replace hB : Below w.heap.size w w3 := hB.trans (hb.mono (by omega))
    replace hz : w.heap.size + 1 < w3.heap.size := by have := hb.size; omega
    clear hb
    go_wp2_with (go_at_call 19; refine (law21_lives _).mono ?_; rintro e w' ⟨rfl, hbl⟩)
    go_ret
    exact ⟨rfl, below_trans (Below.alloc hB (by omega) _) (hbl.mono (by simp))⟩
  · have H := Lib.hid h
    clear h
    go_enter Try.func4, Try.ntmps4
    go_wp2_with fail
    refine (at_no _ _ _ _ _ _ _ H.out).mono ?_
    rintro e w1 ⟨rfl, hb⟩
    have c0_0 : w1.cell? ⟨w.heap.size, 0, none⟩ = some (.int .i64 a0_0) := (hb.cell (by first | (simp; done) | (simp; omega))).trans (by first | (simp; done) | (simp [*]; done))
    have c0_1 : w1.cell? ⟨w.heap.size, 1, none⟩ = some (.int .i64 a0_1) := (hb.cell (by first | (simp; done) | (simp; omega))).trans (by first | (simp; done) | (simp [*]; done))
    have c0_2 : w1.cell? ⟨w.heap.size, 2, none⟩ = some (.int .i64 a0_2) := (hb.cell (by first | (simp; done) | (simp; omega))).trans (by first | (simp; done) | (simp [*]; done))
    have c1_0 : w1.cell? ⟨w.heap.size + 1, 0, none⟩ = some (.int .i64 a1_0) := (hb.cell (by first | (simp; done) | (simp; omega))).trans (by first | (simp; done) | (simp [*]; done))
    have c1_1 : w1.cell? ⟨w.heap.size + 1, 1, none⟩ = some (.int .i64 a1_1) := (hb.cell (by first | (simp; done) | (simp; omega))).trans (by first | (simp; done) | (simp [*]; done))
    have c1_2 : w1.cell? ⟨w.heap.size + 1, 2, none⟩ = some (.int .i64 a1_2) := (hb.cell (by first | (simp; done) | (simp; omega))).trans (by first | (simp; done) | (simp [*]; done))
    have hz : w.heap.size + 1 < w1.heap.size := by have := hb.size; simp at this; omega
    have hl0 : w.heap.size < w1.heap.size := by omega
    have hm0 : w.heap.size ≤ w1.heap.size := by omega
    have hn0 : w.heap.size < w1.heap.size + 1 := by omega
    have hp0 : w.heap.size < w1.heap.size + 1 + 1 := by omega
    have hl1 : w.heap.size + 1 < w1.heap.size := by omega
    have hm1 : w.heap.size + 1 ≤ w1.heap.size := by omega
    have hn1 : w.heap.size + 1 < w1.heap.size + 1 := by omega
    have hp1 : w.heap.size + 1 < w1.heap.size + 1 + 1 := by omega
    have hB : Below w.heap.size w w1 := Below.trans (by go_grown) (hb.mono (by first | (simp; done) | (simp; omega)))
    clear hb
    go_wp2_with fail
    refine (ref_at_no _ _ _ _ _ _ _ H.out).mono ?_
    rintro e w2 ⟨rfl, hb⟩
    replace c0_0 : w2.cell? ⟨w.heap.size, 0, none⟩ = some (.int .i64 a0_0) := (hb.cell (by show w.heap.size < _; omega)).trans c0_0
    replace c0_1 : w2.cell? ⟨w.heap.size, 1, none⟩ = some (.int .i64 a0_1) := (hb.cell (by show w.heap.size < _; omega)).trans c0_1
    replace c0_2 : w2.cell? ⟨w.heap.size, 2, none⟩ = some (.int .i64 a0_2) := (hb.cell (by show w.heap.size < _; omega)).trans c0_2
    replace c1_0 : w2.cell? ⟨w.heap.size + 1, 0, none⟩ = some (.int .i64 a1_0) := (hb.cell (by show w.heap.size + 1 < _; omega)).trans c1_0
    replace c1_1 : w2.cell? ⟨w.heap.size + 1, 1, none⟩ = some (.int .i64 a1_1) := (hb.cell (by show w.heap.size + 1 < _; omega)).trans c1_1
    replace c1_2 : w2.cell? ⟨w.heap.size + 1, 2, none⟩ = some (.int .i64 a1_2) := (hb.cell (by show w.heap.size + 1 < _; omega)).trans c1_2
    replace hB : Below w.heap.size w w2 := hB.trans (hb.mono (by omega))
    replace hz : w.heap.size + 1 < w2.heap.size := by have := hb.size; omega
    clear hb
    go_wp2_with (go_at_call 19; refine (law21_lives _).mono ?_; rintro e w' ⟨rfl, hbl⟩)
    go_ret
    exact ⟨rfl, below_trans hB hbl⟩

theorem of_back {x y z i : Int} (hx : 1 ≤ x ∧ x ≤ 64) (hy : 1 ≤ y ∧ y ≤ 64) (hz : 1 ≤ z ∧ z ≤ 64) (h0 : 0 ≤ i) (h1 : i < x * y * z) :
    inS x y z (i / z / y) (i / z % y) (i % z) ∧ (i / z / y * y + i / z % y) * z + i % z = i := by
  have e1 : i / z / y * y + i / z % y = i / z := by have := Int.ediv_mul_add_emod (i / z) y; omega
  have e2 : i / z * z + i % z = i := by have := Int.ediv_mul_add_emod i z; omega
  have p0 : 0 ≤ i / z := Int.ediv_nonneg h0 (by omega)
  have q1 : i / z < x * y := Int.ediv_lt_of_lt_mul (by omega) h1
  have q2 : i / z / y < x := Int.ediv_lt_of_lt_mul (by omega) q1
  rw [e1, e2]
  exact ⟨⟨Int.ediv_nonneg p0 (by omega), q2, Int.emod_nonneg _ (by omega), Int.emod_lt_of_pos _ (by omega), Int.emod_nonneg _ (by omega), Int.emod_lt_of_pos _ (by omega)⟩, rfl⟩

theorem sizeS_some {x y z i : Int} (h : 0 ≤ i ∧ i < sizeS x y z) : goodB x y z = true ∧ sizeS x y z = x * y * z := by
  unfold sizeS at *
  cases g : goodB x y z
  · rw [g] at h; simp at h; omega
  · exact ⟨rfl, by simp⟩

set_option maxRecDepth 100000 in
set_option maxHeartbeats 400000 in
theorem walk_TensorOf (a0_0 a0_1 a0_2 a1 : Int) (w0 : (Lit.int .i64 a0_0).wf = true) (w1 : (Lit.int .i64 a0_1).wf = true) (w2 : (Lit.int .i64 a0_2).wf = true) (w3 : (Lit.int .i64 a1).wf = true) (w : World) :
    Calls Try.prog 5 #[.agg #[.int .i64 a0_0, .int .i64 a0_1, .int .i64 a0_2], .int .i64 a1] w fun e w' => e = .returned (.bool true) ∧ Below w.heap.size w w' := by
  have eq3 := fun (x y z a b c : Int) (w : World) => eqA3 Try.underlying22 Try.underlying3 info3i cells3i x y z a b c w
  by_cases h : 0 ≤ a1 ∧ a1 < sizeS a0_0 a0_1 a0_2
  · obtain ⟨hg, hs⟩ := sizeS_some h
    obtain ⟨x0, x1, y0, y1, z0, z1, _⟩ := goodB_out hg
    rw [hs] at h
    obtain ⟨hi, hv⟩ := of_back ⟨x0, x1⟩ ⟨y0, y1⟩ ⟨z0, z1⟩ h.1 h.2
    have HI := Lib.hid hi
    have HV := Lib.hid hv
    have HS := Lib.hid hs
    obtain ⟨h0, h1⟩ := h
    clear hi hv hs
    go_enter Try.func5, Try.ntmps5
    go_wp2_with fail
    refine (of_yes _ _ _ _ _ hg h0 h1).mono ?_
    rintro e w1 ⟨rfl, hb⟩
    have c0_0 : w1.cell? ⟨w.heap.size, 0, none⟩ = some (.int .i64 a0_0) := (hb.cell (by first | (simp; done) | (simp; omega))).trans (by first | (simp; done) | (simp [*]; done))
    have c0_1 : w1.cell? ⟨w.heap.size, 1, none⟩ = some (.int .i64 a0_1) := (hb.cell (by first | (simp; done) | (simp; omega))).trans (by first | (simp; done) | (simp [*]; done))
    have c0_2 : w1.cell? ⟨w.heap.size, 2, none⟩ = some (.int .i64 a0_2) := (hb.cell (by first | (simp; done) | (simp; omega))).trans (by first | (simp; done) | (simp [*]; done))
    have hz : w.heap.size < w1.heap.size := by have := hb.size; simp at this; omega
    have hl0 : w.heap.size < w1.heap.size := by omega
    have hm0 : w.heap.size ≤ w1.heap.size := by omega
    have hn0 : w.heap.size < w1.heap.size + 1 := by omega
    have hp0 : w.heap.size < w1.heap.size + 1 + 1 := by omega
    have hB : Below w.heap.size w w1 := Below.trans (by go_grown) (hb.mono (by first | (simp; done) | (simp; omega)))
    clear hb
    go_wp2_with fail
    refine (ref_size_b _ _ _ _).mono ?_
    rw [HS.out]
    rintro e w3 ⟨rfl, hb⟩
    have d0 : w3.cell? ⟨w1.heap.size, 0, none⟩ = some (.int .i64 (a1 / a0_2 / a0_1)) := (hb.cell (by simp)).trans (by simp)
    have d1 : w3.cell? ⟨w1.heap.size, 1, none⟩ = some (.int .i64 (a1 / a0_2 % a0_1)) := (hb.cell (by simp)).trans (by simp)
    have d2 : w3.cell? ⟨w1.heap.size, 2, none⟩ = some (.int .i64 (a1 % a0_2)) := (hb.cell (by simp)).trans (by simp)
    replace c0_0 : w3.cell? ⟨w.heap.size, 0, none⟩ = some (.int .i64 a0_0) := (hb.cell (by simp; omega)).trans ((World.cell?_alloc_past (w := w1) _ _ _ hz).trans c0_0)
    replace c0_1 : w3.cell? ⟨w.heap.size, 1, none⟩ = some (.int .i64 a0_1) := (hb.cell (by simp; omega)).trans ((World.cell?_alloc_past (w := w1) _ _ _ hz).trans c0_1)
    replace c0_2 : w3.cell? ⟨w.heap.size, 2, none⟩ = some (.int .i64 a0_2) := (hb.cell (by simp; omega)).trans ((World.cell?_alloc_past (w := w1) _ _ _ hz).trans c0_2)
    have hB3 : Below w.heap.size w w3 := (Below.alloc hB (by omega) _).trans (hb.mono (by simp; omega))
    have hz3 : w1.heap.size < w3.heap.size := by have := hb.size; simp at this; omega
    clear hb hB
    go_wp2_with fail
    refine (ref_at_yes _ _ _ _ _ _ _ hg HI.out).mono ?_
    rw [HV.out]
    rintro e w4 ⟨rfl, hb⟩
    go_wp2_with (go_at_call 19; refine (law21_lives _).mono ?_; rintro e w' ⟨rfl, hbl⟩)
    go_ret
    exact ⟨rfl, below_trans (below_trans hB3 hb) hbl⟩
  · have hq := Lib.hid h
    by_cases hn : a1 < 0
    · clear h
      go_enter Try.func5, Try.ntmps5
      go_wp2_with fail
      refine (of_no _ _ _ _ _ hq.out).mono ?_
      rintro e w1 ⟨rfl, hb⟩
      have c0_0 : w1.cell? ⟨w.heap.size, 0, none⟩ = some (.int .i64 a0_0) := (hb.cell (by first | (simp; done) | (simp; omega))).trans (by first | (simp; done) | (simp [*]; done))
      have c0_1 : w1.cell? ⟨w.heap.size, 1, none⟩ = some (.int .i64 a0_1) := (hb.cell (by first | (simp; done) | (simp; omega))).trans (by first | (simp; done) | (simp [*]; done))
      have c0_2 : w1.cell? ⟨w.heap.size, 2, none⟩ = some (.int .i64 a0_2) := (hb.cell (by first | (simp; done) | (simp; omega))).trans (by first | (simp; done) | (simp [*]; done))
      have hz : w.heap.size < w1.heap.size := by have := hb.size; simp at this; omega
      have hl0 : w.heap.size < w1.heap.size := by omega
      have hm0 : w.heap.size ≤ w1.heap.size := by omega
      have hn0 : w.heap.size < w1.heap.size + 1 := by omega
      have hp0 : w.heap.size < w1.heap.size + 1 + 1 := by omega
      have hB : Below w.heap.size w w1 := Below.trans (by go_grown) (hb.mono (by first | (simp; done) | (simp; omega)))
      clear hb
      go_wp2_with (first | (go_at_call 18; refine (ref_size_b _ _ _ _).mono ?_; rintro e w' ⟨rfl, hbs⟩) | (go_at_call 19; refine (law21_lives _).mono ?_; rintro e w' ⟨rfl, hbl⟩))
      go_ret
      exact ⟨rfl, below_trans (Below.alloc hB (by omega) _) (hbl.mono (by simp))⟩
    · have hs : sizeS a0_0 a0_1 a0_2 ≤ a1 := by omega
      have hn : 0 ≤ a1 := by omega
      clear h
      go_enter Try.func5, Try.ntmps5
      go_wp2_with fail
      refine (of_no _ _ _ _ _ hq.out).mono ?_
      rintro e w1 ⟨rfl, hb⟩
      have c0_0 : w1.cell? ⟨w.heap.size, 0, none⟩ = some (.int .i64 a0_0) := (hb.cell (by first | (simp; done) | (simp; omega))).trans (by first | (simp; done) | (simp [*]; done))
      have c0_1 : w1.cell? ⟨w.heap.size, 1, none⟩ = some (.int .i64 a0_1) := (hb.cell (by first | (simp; done) | (simp; omega))).trans (by first | (simp; done) | (simp [*]; done))
      have c0_2 : w1.cell? ⟨w.heap.size, 2, none⟩ = some (.int .i64 a0_2) := (hb.cell (by first | (simp; done) | (simp; omega))).trans (by first | (simp; done) | (simp [*]; done))
      have hz : w.heap.size < w1.heap.size := by have := hb.size; simp at this; omega
      have hl0 : w.heap.size < w1.heap.size := by omega
      have hm0 : w.heap.size ≤ w1.heap.size := by omega
      have hn0 : w.heap.size < w1.heap.size + 1 := by omega
      have hp0 : w.heap.size < w1.heap.size + 1 + 1 := by omega
      have hB : Below w.heap.size w w1 := Below.trans (by go_grown) (hb.mono (by first | (simp; done) | (simp; omega)))
      clear hb
      go_wp2_with fail
      refine (ref_size_b _ _ _ _).mono ?_
      rintro e w3 ⟨rfl, hb⟩
      have d0 : w3.cell? ⟨w1.heap.size, 0, none⟩ = some (.int .i64 0) := (hb.cell (by simp)).trans (by simp)
      have d1 : w3.cell? ⟨w1.heap.size, 1, none⟩ = some (.int .i64 0) := (hb.cell (by simp)).trans (by simp)
      have d2 : w3.cell? ⟨w1.heap.size, 2, none⟩ = some (.int .i64 0) := (hb.cell (by simp)).trans (by simp)
      have hB3 : Below w.heap.size w w3 := (Below.alloc hB (by omega) _).trans (hb.mono (by simp; omega))
      clear hb hB
      go_wp2_with (go_at_call 19; refine (law21_lives _).mono ?_; rintro e w' ⟨rfl, hbl⟩)
      go_ret
      exact ⟨rfl, below_trans hB3 hbl⟩

set_option maxRecDepth 100000 in
set_option maxHeartbeats 1000000 in
theorem walk_TensorJoins (a0_0 a0_1 a0_2 a1_0 a1_1 a1_2 : Int) (w0 : (Lit.int .i64 a0_0).wf = true) (w1 : (Lit.int .i64 a0_1).wf = true) (w2 : (Lit.int .i64 a0_2).wf = true) (w3 : (Lit.int .i64 a1_0).wf = true) (w4 : (Lit.int .i64 a1_1).wf = true) (w5 : (Lit.int .i64 a1_2).wf = true) (w : World) :
    Calls Try.prog 6 #[.agg #[.int .i64 a0_0, .int .i64 a0_1, .int .i64 a0_2], .agg #[.int .i64 a1_0, .int .i64 a1_1, .int .i64 a1_2]] w fun e w' => e = .returned (.bool true) ∧ Below w.heap.size w w' := by
  have eq3 := fun (x y z a b c : Int) (w : World) => eqA3 Try.underlying22 Try.underlying3 info3i cells3i x y z a b c w
  by_cases h : goodB a0_0 a0_1 a0_2 = true ∧ goodB a1_0 a1_1 a1_2 = true ∧ a0_0 = a1_0 ∧ a0_1 = a1_1 ∧ goodB a0_0 a0_1 (a0_2 + a1_2) = true
  · obtain ⟨g1, g2, rfl, rfl, g3⟩ := h
    obtain ⟨s0, s1⟩ := good_add g1 g2
    go_enter Try.func6, Try.ntmps6
    go_wp2_with fail
    refine (join_yes _ _ _ _ _ g1 g2 g3).mono ?_
    rintro e w1 ⟨rfl, hb⟩
    have c0_0 : w1.cell? ⟨w.heap.size, 0, none⟩ = some (.int .i64 a0_0) := (hb.cell (by first | (simp; done) | (simp; omega))).trans (by first | (simp; done) | (simp [*]; done))
    have c0_1 : w1.cell? ⟨w.heap.size, 1, none⟩ = some (.int .i64 a0_1) := (hb.cell (by first | (simp; done) | (simp; omega))).trans (by first | (simp; done) | (simp [*]; done))
    have c0_2 : w1.cell? ⟨w.heap.size, 2, none⟩ = some (.int .i64 a0_2) := (hb.cell (by first | (simp; done) | (simp; omega))).trans (by first | (simp; done) | (simp [*]; done))
    have c1_0 : w1.cell? ⟨w.heap.size + 1, 0, none⟩ = some (.int .i64 a0_0) := (hb.cell (by first | (simp; done) | (simp; omega))).trans (by first | (simp; done) | (simp [*]; done))
    have c1_1 : w1.cell? ⟨w.heap.size + 1, 1, none⟩ = some (.int .i64 a0_1) := (hb.cell (by first | (simp; done) | (simp; omega))).trans (by first | (simp; done) | (simp [*]; done))
    have c1_2 : w1.cell? ⟨w.heap.size + 1, 2, none⟩ = some (.int .i64 a1_2) := (hb.cell (by first | (simp; done) | (simp; omega))).trans (by first | (simp; done) | (simp [*]; done))
    have hz : w.heap.size + 1 < w1.heap.size := by have := hb.size; simp at this; omega
    have hl0 : w.heap.size < w1.heap.size := by omega
    have hm0 : w.heap.size ≤ w1.heap.size := by omega
    have hn0 : w.heap.size < w1.heap.size + 1 := by omega
    have hp0 : w.heap.size < w1.heap.size + 1 + 1 := by omega
    have hl1 : w.heap.size + 1 < w1.heap.size := by omega
    have hm1 : w.heap.size + 1 ≤ w1.heap.size := by omega
    have hn1 : w.heap.size + 1 < w1.heap.size + 1 := by omega
    have hp1 : w.heap.size + 1 < w1.heap.size + 1 + 1 := by omega
    have hB : Below w.heap.size w w1 := Below.trans (by go_grown) (hb.mono (by first | (simp; done) | (simp; omega)))
    clear hb
    go_wp2_with (first | (go_at_call 16; refine (ref_good _ _ _ _).mono ?_; rintro e w' ⟨rfl, rfl⟩) | (go_at_call 19; refine (law21_lives _).mono ?_; rintro e w' ⟨rfl, hbl⟩))
    go_ret
    exact ⟨rfl, below_trans (by go_grown) hbl⟩
  · have H := Lib.hid h
    have z0 : goodB 0 0 0 = false := by decide
    by_cases g1 : goodB a0_0 a0_1 a0_2 = true
    · by_cases g2 : goodB a1_0 a1_1 a1_2 = true
      · by_cases e0 : a0_0 = a1_0
        · subst e0
          by_cases e1 : a0_1 = a1_1
          · subst e1
            have g3 : goodB a0_0 a0_1 (a0_2 + a1_2) = false := by
              cases g : goodB a0_0 a0_1 (a0_2 + a1_2)
              · rfl
              · exact absurd ⟨g1, g2, rfl, rfl, g⟩ h
            obtain ⟨s0, s1⟩ := good_add g1 g2
            clear h
            go_enter Try.func6, Try.ntmps6
            go_wp2_with fail
            refine (join_no _ _ _ _ _ _ _ (by simpa using H.out)).mono ?_
            rintro e w1 ⟨rfl, hb⟩
            have c0_0 : w1.cell? ⟨w.heap.size, 0, none⟩ = some (.int .i64 a0_0) := (hb.cell (by first | (simp; done) | (simp; omega))).trans (by first | (simp; done) | (simp [*]; done))
            have c0_1 : w1.cell? ⟨w.heap.size, 1, none⟩ = some (.int .i64 a0_1) := (hb.cell (by first | (simp; done) | (simp; omega))).trans (by first | (simp; done) | (simp [*]; done))
            have c0_2 : w1.cell? ⟨w.heap.size, 2, none⟩ = some (.int .i64 a0_2) := (hb.cell (by first | (simp; done) | (simp; omega))).trans (by first | (simp; done) | (simp [*]; done))
            have c1_0 : w1.cell? ⟨w.heap.size + 1, 0, none⟩ = some (.int .i64 a0_0) := (hb.cell (by first | (simp; done) | (simp; omega))).trans (by first | (simp; done) | (simp [*]; done))
            have c1_1 : w1.cell? ⟨w.heap.size + 1, 1, none⟩ = some (.int .i64 a0_1) := (hb.cell (by first | (simp; done) | (simp; omega))).trans (by first | (simp; done) | (simp [*]; done))
            have c1_2 : w1.cell? ⟨w.heap.size + 1, 2, none⟩ = some (.int .i64 a1_2) := (hb.cell (by first | (simp; done) | (simp; omega))).trans (by first | (simp; done) | (simp [*]; done))
            have hz : w.heap.size + 1 < w1.heap.size := by have := hb.size; simp at this; omega
            have hl0 : w.heap.size < w1.heap.size := by omega
            have hm0 : w.heap.size ≤ w1.heap.size := by omega
            have hn0 : w.heap.size < w1.heap.size + 1 := by omega
            have hp0 : w.heap.size < w1.heap.size + 1 + 1 := by omega
            have hl1 : w.heap.size + 1 < w1.heap.size := by omega
            have hm1 : w.heap.size + 1 ≤ w1.heap.size := by omega
            have hn1 : w.heap.size + 1 < w1.heap.size + 1 := by omega
            have hp1 : w.heap.size + 1 < w1.heap.size + 1 + 1 := by omega
            have hB : Below w.heap.size w w1 := Below.trans (by go_grown) (hb.mono (by first | (simp; done) | (simp; omega)))
            clear hb
            go_wp2_with (first | (go_at_call 16; refine (ref_good _ _ _ _).mono ?_; rintro e w' ⟨rfl, rfl⟩) | (go_at_call 19; refine (law21_lives _).mono ?_; rintro e w' ⟨rfl, hbl⟩))
            go_ret
            exact ⟨rfl, below_trans (by go_grown) hbl⟩
          · have e1 : (a0_1 == a1_1) = false := by simpa using e1
            clear h
            go_enter Try.func6, Try.ntmps6
            go_wp2_with fail
            refine (join_no _ _ _ _ _ _ _ (by simpa using H.out)).mono ?_
            rintro e w1 ⟨rfl, hb⟩
            have c0_0 : w1.cell? ⟨w.heap.size, 0, none⟩ = some (.int .i64 a0_0) := (hb.cell (by first | (simp; done) | (simp; omega))).trans (by first | (simp; done) | (simp [*]; done))
            have c0_1 : w1.cell? ⟨w.heap.size, 1, none⟩ = some (.int .i64 a0_1) := (hb.cell (by first | (simp; done) | (simp; omega))).trans (by first | (simp; done) | (simp [*]; done))
            have c0_2 : w1.cell? ⟨w.heap.size, 2, none⟩ = some (.int .i64 a0_2) := (hb.cell (by first | (simp; done) | (simp; omega))).trans (by first | (simp; done) | (simp [*]; done))
            have c1_0 : w1.cell? ⟨w.heap.size + 1, 0, none⟩ = some (.int .i64 a0_0) := (hb.cell (by first | (simp; done) | (simp; omega))).trans (by first | (simp; done) | (simp [*]; done))
            have c1_1 : w1.cell? ⟨w.heap.size + 1, 1, none⟩ = some (.int .i64 a1_1) := (hb.cell (by first | (simp; done) | (simp; omega))).trans (by first | (simp; done) | (simp [*]; done))
            have c1_2 : w1.cell? ⟨w.heap.size + 1, 2, none⟩ = some (.int .i64 a1_2) := (hb.cell (by first | (simp; done) | (simp; omega))).trans (by first | (simp; done) | (simp [*]; done))
            have hz : w.heap.size + 1 < w1.heap.size := by have := hb.size; simp at this; omega
            have hl0 : w.heap.size < w1.heap.size := by omega
            have hm0 : w.heap.size ≤ w1.heap.size := by omega
            have hn0 : w.heap.size < w1.heap.size + 1 := by omega
            have hp0 : w.heap.size < w1.heap.size + 1 + 1 := by omega
            have hl1 : w.heap.size + 1 < w1.heap.size := by omega
            have hm1 : w.heap.size + 1 ≤ w1.heap.size := by omega
            have hn1 : w.heap.size + 1 < w1.heap.size + 1 := by omega
            have hp1 : w.heap.size + 1 < w1.heap.size + 1 + 1 := by omega
            have hB : Below w.heap.size w w1 := Below.trans (by go_grown) (hb.mono (by first | (simp; done) | (simp; omega)))
            clear hb
            go_wp2_with (first | (go_at_call 16; refine (ref_good _ _ _ _).mono ?_; rintro e w' ⟨rfl, rfl⟩) | (go_at_call 19; refine (law21_lives _).mono ?_; rintro e w' ⟨rfl, hbl⟩))
            go_ret
            exact ⟨rfl, below_trans (by go_grown) hbl⟩
        · have e0 : (a0_0 == a1_0) = false := by simpa using e0
          clear h
          go_enter Try.func6, Try.ntmps6
          go_wp2_with fail
          refine (join_no _ _ _ _ _ _ _ (by simpa using H.out)).mono ?_
          rintro e w1 ⟨rfl, hb⟩
          have c0_0 : w1.cell? ⟨w.heap.size, 0, none⟩ = some (.int .i64 a0_0) := (hb.cell (by first | (simp; done) | (simp; omega))).trans (by first | (simp; done) | (simp [*]; done))
          have c0_1 : w1.cell? ⟨w.heap.size, 1, none⟩ = some (.int .i64 a0_1) := (hb.cell (by first | (simp; done) | (simp; omega))).trans (by first | (simp; done) | (simp [*]; done))
          have c0_2 : w1.cell? ⟨w.heap.size, 2, none⟩ = some (.int .i64 a0_2) := (hb.cell (by first | (simp; done) | (simp; omega))).trans (by first | (simp; done) | (simp [*]; done))
          have c1_0 : w1.cell? ⟨w.heap.size + 1, 0, none⟩ = some (.int .i64 a1_0) := (hb.cell (by first | (simp; done) | (simp; omega))).trans (by first | (simp; done) | (simp [*]; done))
          have c1_1 : w1.cell? ⟨w.heap.size + 1, 1, none⟩ = some (.int .i64 a1_1) := (hb.cell (by first | (simp; done) | (simp; omega))).trans (by first | (simp; done) | (simp [*]; done))
          have c1_2 : w1.cell? ⟨w.heap.size + 1, 2, none⟩ = some (.int .i64 a1_2) := (hb.cell (by first | (simp; done) | (simp; omega))).trans (by first | (simp; done) | (simp [*]; done))
          have hz : w.heap.size + 1 < w1.heap.size := by have := hb.size; simp at this; omega
          have hl0 : w.heap.size < w1.heap.size := by omega
          have hm0 : w.heap.size ≤ w1.heap.size := by omega
          have hn0 : w.heap.size < w1.heap.size + 1 := by omega
          have hp0 : w.heap.size < w1.heap.size + 1 + 1 := by omega
          have hl1 : w.heap.size + 1 < w1.heap.size := by omega
          have hm1 : w.heap.size + 1 ≤ w1.heap.size := by omega
          have hn1 : w.heap.size + 1 < w1.heap.size + 1 := by omega
          have hp1 : w.heap.size + 1 < w1.heap.size + 1 + 1 := by omega
          have hB : Below w.heap.size w w1 := Below.trans (by go_grown) (hb.mono (by first | (simp; done) | (simp; omega)))
          clear hb
          go_wp2_with (first | (go_at_call 16; refine (ref_good _ _ _ _).mono ?_; rintro e w' ⟨rfl, rfl⟩) | (go_at_call 19; refine (law21_lives _).mono ?_; rintro e w' ⟨rfl, hbl⟩))
          go_ret
          exact ⟨rfl, below_trans (by go_grown) hbl⟩
      · have g2 : goodB a1_0 a1_1 a1_2 = false := by simpa using g2
        clear h
        go_enter Try.func6, Try.ntmps6
        go_wp2_with fail
        refine (join_no _ _ _ _ _ _ _ (by simpa using H.out)).mono ?_
        rintro e w1 ⟨rfl, hb⟩
        have c0_0 : w1.cell? ⟨w.heap.size, 0, none⟩ = some (.int .i64 a0_0) := (hb.cell (by first | (simp; done) | (simp; omega))).trans (by first | (simp; done) | (simp [*]; done))
        have c0_1 : w1.cell? ⟨w.heap.size, 1, none⟩ = some (.int .i64 a0_1) := (hb.cell (by first | (simp; done) | (simp; omega))).trans (by first | (simp; done) | (simp [*]; done))
        have c0_2 : w1.cell? ⟨w.heap.size, 2, none⟩ = some (.int .i64 a0_2) := (hb.cell (by first | (simp; done) | (simp; omega))).trans (by first | (simp; done) | (simp [*]; done))
        have c1_0 : w1.cell? ⟨w.heap.size + 1, 0, none⟩ = some (.int .i64 a1_0) := (hb.cell (by first | (simp; done) | (simp; omega))).trans (by first | (simp; done) | (simp [*]; done))
        have c1_1 : w1.cell? ⟨w.heap.size + 1, 1, none⟩ = some (.int .i64 a1_1) := (hb.cell (by first | (simp; done) | (simp; omega))).trans (by first | (simp; done) | (simp [*]; done))
        have c1_2 : w1.cell? ⟨w.heap.size + 1, 2, none⟩ = some (.int .i64 a1_2) := (hb.cell (by first | (simp; done) | (simp; omega))).trans (by first | (simp; done) | (simp [*]; done))
        have hz : w.heap.size + 1 < w1.heap.size := by have := hb.size; simp at this; omega
        have hl0 : w.heap.size < w1.heap.size := by omega
        have hm0 : w.heap.size ≤ w1.heap.size := by omega
        have hn0 : w.heap.size < w1.heap.size + 1 := by omega
        have hp0 : w.heap.size < w1.heap.size + 1 + 1 := by omega
        have hl1 : w.heap.size + 1 < w1.heap.size := by omega
        have hm1 : w.heap.size + 1 ≤ w1.heap.size := by omega
        have hn1 : w.heap.size + 1 < w1.heap.size + 1 := by omega
        have hp1 : w.heap.size + 1 < w1.heap.size + 1 + 1 := by omega
        have hB : Below w.heap.size w w1 := Below.trans (by go_grown) (hb.mono (by first | (simp; done) | (simp; omega)))
        clear hb
        go_wp2_with (first | (go_at_call 16; refine (ref_good _ _ _ _).mono ?_; rintro e w' ⟨rfl, rfl⟩) | (go_at_call 19; refine (law21_lives _).mono ?_; rintro e w' ⟨rfl, hbl⟩))
        go_ret
        exact ⟨rfl, below_trans (by go_grown) hbl⟩
    · have g1 : goodB a0_0 a0_1 a0_2 = false := by simpa using g1
      clear h
      go_enter Try.func6, Try.ntmps6
      go_wp2_with fail
      refine (join_no _ _ _ _ _ _ _ (by simpa using H.out)).mono ?_
      rintro e w1 ⟨rfl, hb⟩
      have c0_0 : w1.cell? ⟨w.heap.size, 0, none⟩ = some (.int .i64 a0_0) := (hb.cell (by first | (simp; done) | (simp; omega))).trans (by first | (simp; done) | (simp [*]; done))
      have c0_1 : w1.cell? ⟨w.heap.size, 1, none⟩ = some (.int .i64 a0_1) := (hb.cell (by first | (simp; done) | (simp; omega))).trans (by first | (simp; done) | (simp [*]; done))
      have c0_2 : w1.cell? ⟨w.heap.size, 2, none⟩ = some (.int .i64 a0_2) := (hb.cell (by first | (simp; done) | (simp; omega))).trans (by first | (simp; done) | (simp [*]; done))
      have c1_0 : w1.cell? ⟨w.heap.size + 1, 0, none⟩ = some (.int .i64 a1_0) := (hb.cell (by first | (simp; done) | (simp; omega))).trans (by first | (simp; done) | (simp [*]; done))
      have c1_1 : w1.cell? ⟨w.heap.size + 1, 1, none⟩ = some (.int .i64 a1_1) := (hb.cell (by first | (simp; done) | (simp; omega))).trans (by first | (simp; done) | (simp [*]; done))
      have c1_2 : w1.cell? ⟨w.heap.size + 1, 2, none⟩ = some (.int .i64 a1_2) := (hb.cell (by first | (simp; done) | (simp; omega))).trans (by first | (simp; done) | (simp [*]; done))
      have hz : w.heap.size + 1 < w1.heap.size := by have := hb.size; simp at this; omega
      have hl0 : w.heap.size < w1.heap.size := by omega
      have hm0 : w.heap.size ≤ w1.heap.size := by omega
      have hn0 : w.heap.size < w1.heap.size + 1 := by omega
      have hp0 : w.heap.size < w1.heap.size + 1 + 1 := by omega
      have hl1 : w.heap.size + 1 < w1.heap.size := by omega
      have hm1 : w.heap.size + 1 ≤ w1.heap.size := by omega
      have hn1 : w.heap.size + 1 < w1.heap.size + 1 := by omega
      have hp1 : w.heap.size + 1 < w1.heap.size + 1 + 1 := by omega
      have hB : Below w.heap.size w w1 := Below.trans (by go_grown) (hb.mono (by first | (simp; done) | (simp; omega)))
      clear hb
      go_wp2_with (first | (go_at_call 16; refine (ref_good _ _ _ _).mono ?_; rintro e w' ⟨rfl, rfl⟩) | (go_at_call 19; refine (law21_lives _).mono ?_; rintro e w' ⟨rfl, hbl⟩))
      go_ret
      exact ⟨rfl, below_trans (by go_grown) hbl⟩

theorem own : ownKnob Try.prog.godebug = none := by kernel_rfl
theorem laidOut : laidOutB Try.prog = true := by kernel_rfl
set_option maxRecDepth 100000 in
theorem lifted_TensorSizes (os : Os) (started : os.Started) (H : Type) (enc : TypeId × Value → H) :
    ReturnsInHanded {} Try.checked os 3 .any (Rows.tensorSizesSpec.pre6 enc Try.prog Try.f3 Rows.tensorSizesRow.domain false) (Rows.tensorSizesSpec.post enc Try.prog Try.f3 false true false false) := by
  refine returnsInHanded_of_change (C := Try.checked) own started (by kernel_rfl) Try.func3
    (ChangeSpec.witness6 (enc := enc) (C := Try.checked) false ⟨#[], #[.agg #[.int .i64 0, .int .i64 0, .int .i64 0]], []⟩ 8 (by kernel_rfl) (by kernel_rfl) (by kernel_rfl) (by kernel_rfl)) ?_
  intro W base args ds gs before hval0 hW hcnd _
  have hval : ∀ (j : Nat) t v, Try.f3.params[j]? = some t → args[j]? = some v → Value.okWide Try.prog W .any base t v := hval0
  have hW' := hW
  obtain ⟨p, q, hA0, hV, rfl, hfz, hnd⟩ := hW
  have hA : DataW.TrodAll enc Try.prog W 0 (fun _ => true) true Try.f3.params.toList args.toList ds p := hA0
  rw [Try.params3] at hA hval
  obtain ⟨v0, vs0, d0, ds0, p0, q0, hargs, rfl, rfl, h0, r0⟩ := trodAll_cons hA
  obtain ⟨rfl, rfl, rfl⟩ := trodAll_nil r0
  obtain rfl : args = #[v0] := by cases args; simp_all
  obtain ⟨rfl, rfl⟩ := trodVars_none hV
  have k0 := h0
  have lt0 : ∀ x ∈ p0, x.block < W.heap.size := by obtain ⟨m, hm⟩ := k0; exact DataW.trod_lt m _ _ _ hm
  obtain ⟨zs0, zl0, rfl, zw0⟩ := flat_ints [.i64, .i64, .i64] (ts := [3, 3, 3]) (Or.inr ⟨_, _, Try.underlying22⟩) (by kernel_rfl) (by kernel_rfl) (by kernel_rfl) (hval 0 22 v0 rfl rfl)
  obtain ⟨a0_0, a0_1, a0_2, rfl⟩ := len3 zl0
  clear hA0 hval0
  refine (walk_TensorSizes a0_0 a0_1 a0_2 (zw0 0 .i64 _ rfl rfl) (zw0 1 .i64 _ rfl rfl) (zw0 2 .i64 _ rfl rfl) W).mono fun e W' ⟨he, bel⟩ => ?_
  subst he
  exact ⟨_, rfl, _, _, _, [], _, [], hW', trodAll_mk1 (shut_bool Try.underlying4 _), (trodAll_cons_mk (Below.trod laidOut (by kernel_rfl) (of_decide_eq_true (by kernel_rfl)) k0 bel lt0) trodAll_mk0), rfl, bel.frame _, fun h => by cases h⟩

theorem holds_TensorSizes : Rows.TensorSizesSaid :=
  OpenClaim.holds_of_wide 3 Try.f3 rfl rfl rfl rfl rfl rfl rfl ⟨rfl, rfl, rfl, rfl, rfl⟩ rfl rfl rfl rfl rfl (by kernel_rfl) Try.func3 (by kernel_rfl)
    (of_decide_eq_true (by kernel_rfl)) (by unfold Func.isWrapper; first | (rw [if_pos (by decide +kernel)]; kernel_rfl) | (rw [if_neg (by decide +kernel)]; exact ⟨rfl, rfl⟩))
    (fun os started H enc _ => lifted_TensorSizes os started H enc)

set_option maxRecDepth 100000 in
theorem lifted_TensorAt (os : Os) (started : os.Started) (H : Type) (enc : TypeId × Value → H) :
    ReturnsInHanded {} Try.checked os 4 .any (Rows.tensorAtSpec.pre6 enc Try.prog Try.f4 Rows.tensorAtRow.domain false) (Rows.tensorAtSpec.post enc Try.prog Try.f4 false true false false) := by
  refine returnsInHanded_of_change (C := Try.checked) own started (by kernel_rfl) Try.func4
    (ChangeSpec.witness6 (enc := enc) (C := Try.checked) false ⟨#[], #[.agg #[.int .i64 0, .int .i64 0, .int .i64 0], .agg #[.int .i64 0, .int .i64 0, .int .i64 0]], []⟩ 8 (by kernel_rfl) (by kernel_rfl) (by kernel_rfl) (by kernel_rfl)) ?_
  intro W base args ds gs before hval0 hW hcnd _
  have hval : ∀ (j : Nat) t v, Try.f4.params[j]? = some t → args[j]? = some v → Value.okWide Try.prog W .any base t v := hval0
  have hW' := hW
  obtain ⟨p, q, hA0, hV, rfl, hfz, hnd⟩ := hW
  have hA : DataW.TrodAll enc Try.prog W 0 (fun _ => true) true Try.f4.params.toList args.toList ds p := hA0
  rw [Try.params4] at hA hval
  obtain ⟨v0, vs0, d0, ds0, p0, q0, hargs, rfl, rfl, h0, r0⟩ := trodAll_cons hA
  obtain ⟨v1, vs1, d1, ds1, p1, q1, rfl, rfl, rfl, h1, r1⟩ := trodAll_cons r0
  obtain ⟨rfl, rfl, rfl⟩ := trodAll_nil r1
  obtain rfl : args = #[v0, v1] := by cases args; simp_all
  obtain ⟨rfl, rfl⟩ := trodVars_none hV
  have k0 := h0
  have lt0 : ∀ x ∈ p0, x.block < W.heap.size := by obtain ⟨m, hm⟩ := k0; exact DataW.trod_lt m _ _ _ hm
  obtain ⟨zs0, zl0, rfl, zw0⟩ := flat_ints [.i64, .i64, .i64] (ts := [3, 3, 3]) (Or.inr ⟨_, _, Try.underlying22⟩) (by kernel_rfl) (by kernel_rfl) (by kernel_rfl) (hval 0 22 v0 rfl rfl)
  obtain ⟨a0_0, a0_1, a0_2, rfl⟩ := len3 zl0
  have k1 := h1
  have lt1 : ∀ x ∈ p1, x.block < W.heap.size := by obtain ⟨m, hm⟩ := k1; exact DataW.trod_lt m _ _ _ hm
  obtain ⟨zs1, zl1, rfl, zw1⟩ := flat_ints [.i64, .i64, .i64] (ts := [3, 3, 3]) (Or.inr ⟨_, _, Try.underlying22⟩) (by kernel_rfl) (by kernel_rfl) (by kernel_rfl) (hval 1 22 v1 rfl rfl)
  obtain ⟨a1_0, a1_1, a1_2, rfl⟩ := len3 zl1
  clear hA0 hval0
  refine (walk_TensorAt a0_0 a0_1 a0_2 a1_0 a1_1 a1_2 (zw0 0 .i64 _ rfl rfl) (zw0 1 .i64 _ rfl rfl) (zw0 2 .i64 _ rfl rfl) (zw1 0 .i64 _ rfl rfl) (zw1 1 .i64 _ rfl rfl) (zw1 2 .i64 _ rfl rfl) W).mono fun e W' ⟨he, bel⟩ => ?_
  subst he
  exact ⟨_, rfl, _, _, _, [], _, [], hW', trodAll_mk1 (shut_bool Try.underlying4 _), (trodAll_cons_mk (Below.trod laidOut (by kernel_rfl) (of_decide_eq_true (by kernel_rfl)) k0 bel lt0) (trodAll_cons_mk (Below.trod laidOut (by kernel_rfl) (of_decide_eq_true (by kernel_rfl)) k1 bel lt1) trodAll_mk0)), rfl, bel.frame _, fun h => by cases h⟩

theorem holds_TensorAt : Rows.TensorAtSaid :=
  OpenClaim.holds_of_wide 4 Try.f4 rfl rfl rfl rfl rfl rfl rfl ⟨rfl, rfl, rfl, rfl, rfl⟩ rfl rfl rfl rfl rfl (by kernel_rfl) Try.func4 (by kernel_rfl)
    (of_decide_eq_true (by kernel_rfl)) (by unfold Func.isWrapper; first | (rw [if_pos (by decide +kernel)]; kernel_rfl) | (rw [if_neg (by decide +kernel)]; exact ⟨rfl, rfl⟩))
    (fun os started H enc _ => lifted_TensorAt os started H enc)

set_option maxRecDepth 100000 in
theorem lifted_TensorOf (os : Os) (started : os.Started) (H : Type) (enc : TypeId × Value → H) :
    ReturnsInHanded {} Try.checked os 5 .any (Rows.tensorOfSpec.pre6 enc Try.prog Try.f5 Rows.tensorOfRow.domain false) (Rows.tensorOfSpec.post enc Try.prog Try.f5 false true false false) := by
  refine returnsInHanded_of_change (C := Try.checked) own started (by kernel_rfl) Try.func5
    (ChangeSpec.witness6 (enc := enc) (C := Try.checked) false ⟨#[], #[.agg #[.int .i64 0, .int .i64 0, .int .i64 0], .int .i64 0], []⟩ 8 (by kernel_rfl) (by kernel_rfl) (by kernel_rfl) (by kernel_rfl)) ?_
  intro W base args ds gs before hval0 hW hcnd _
  have hval : ∀ (j : Nat) t v, Try.f5.params[j]? = some t → args[j]? = some v → Value.okWide Try.prog W .any base t v := hval0
  have hW' := hW
  obtain ⟨p, q, hA0, hV, rfl, hfz, hnd⟩ := hW
  have hA : DataW.TrodAll enc Try.prog W 0 (fun _ => true) true Try.f5.params.toList args.toList ds p := hA0
  rw [Try.params5] at hA hval
  obtain ⟨v0, vs0, d0, ds0, p0, q0, hargs, rfl, rfl, h0, r0⟩ := trodAll_cons hA
  obtain ⟨v1, vs1, d1, ds1, p1, q1, rfl, rfl, rfl, h1, r1⟩ := trodAll_cons r0
  obtain ⟨rfl, rfl, rfl⟩ := trodAll_nil r1
  obtain rfl : args = #[v0, v1] := by cases args; simp_all
  obtain ⟨rfl, rfl⟩ := trodVars_none hV
  have k0 := h0
  have lt0 : ∀ x ∈ p0, x.block < W.heap.size := by obtain ⟨m, hm⟩ := k0; exact DataW.trod_lt m _ _ _ hm
  obtain ⟨zs0, zl0, rfl, zw0⟩ := flat_ints [.i64, .i64, .i64] (ts := [3, 3, 3]) (Or.inr ⟨_, _, Try.underlying22⟩) (by kernel_rfl) (by kernel_rfl) (by kernel_rfl) (hval 0 22 v0 rfl rfl)
  obtain ⟨a0_0, a0_1, a0_2, rfl⟩ := len3 zl0
  obtain ⟨a1, rfl, rfl, rfl, w1⟩ := open_int Try.underlying3 (hval 1 3 v1 rfl rfl) h1
  clear hA0 hval0
  refine (walk_TensorOf a0_0 a0_1 a0_2 a1 (zw0 0 .i64 _ rfl rfl) (zw0 1 .i64 _ rfl rfl) (zw0 2 .i64 _ rfl rfl) w1 W).mono fun e W' ⟨he, bel⟩ => ?_
  subst he
  exact ⟨_, rfl, _, _, _, [], _, [], hW', trodAll_mk1 (shut_bool Try.underlying4 _), (trodAll_cons_mk (Below.trod laidOut (by kernel_rfl) (of_decide_eq_true (by kernel_rfl)) k0 bel lt0) (trodAll_cons_mk (shut_int Try.underlying3 w1) trodAll_mk0)), rfl, bel.frame _, fun h => by cases h⟩

theorem holds_TensorOf : Rows.TensorOfSaid :=
  OpenClaim.holds_of_wide 5 Try.f5 rfl rfl rfl rfl rfl rfl rfl ⟨rfl, rfl, rfl, rfl, rfl⟩ rfl rfl rfl rfl rfl (by kernel_rfl) Try.func5 (by kernel_rfl)
    (of_decide_eq_true (by kernel_rfl)) (by unfold Func.isWrapper; first | (rw [if_pos (by decide +kernel)]; kernel_rfl) | (rw [if_neg (by decide +kernel)]; exact ⟨rfl, rfl⟩))
    (fun os started H enc _ => lifted_TensorOf os started H enc)

set_option maxRecDepth 100000 in
theorem lifted_TensorJoins (os : Os) (started : os.Started) (H : Type) (enc : TypeId × Value → H) :
    ReturnsInHanded {} Try.checked os 6 .any (Rows.tensorJoinsSpec.pre6 enc Try.prog Try.f6 Rows.tensorJoinsRow.domain false) (Rows.tensorJoinsSpec.post enc Try.prog Try.f6 false true false false) := by
  refine returnsInHanded_of_change (C := Try.checked) own started (by kernel_rfl) Try.func6
    (ChangeSpec.witness6 (enc := enc) (C := Try.checked) false ⟨#[], #[.agg #[.int .i64 0, .int .i64 0, .int .i64 0], .agg #[.int .i64 0, .int .i64 0, .int .i64 0]], []⟩ 8 (by kernel_rfl) (by kernel_rfl) (by kernel_rfl) (by kernel_rfl)) ?_
  intro W base args ds gs before hval0 hW hcnd _
  have hval : ∀ (j : Nat) t v, Try.f6.params[j]? = some t → args[j]? = some v → Value.okWide Try.prog W .any base t v := hval0
  have hW' := hW
  obtain ⟨p, q, hA0, hV, rfl, hfz, hnd⟩ := hW
  have hA : DataW.TrodAll enc Try.prog W 0 (fun _ => true) true Try.f6.params.toList args.toList ds p := hA0
  rw [Try.params6] at hA hval
  obtain ⟨v0, vs0, d0, ds0, p0, q0, hargs, rfl, rfl, h0, r0⟩ := trodAll_cons hA
  obtain ⟨v1, vs1, d1, ds1, p1, q1, rfl, rfl, rfl, h1, r1⟩ := trodAll_cons r0
  obtain ⟨rfl, rfl, rfl⟩ := trodAll_nil r1
  obtain rfl : args = #[v0, v1] := by cases args; simp_all
  obtain ⟨rfl, rfl⟩ := trodVars_none hV
  have k0 := h0
  have lt0 : ∀ x ∈ p0, x.block < W.heap.size := by obtain ⟨m, hm⟩ := k0; exact DataW.trod_lt m _ _ _ hm
  obtain ⟨zs0, zl0, rfl, zw0⟩ := flat_ints [.i64, .i64, .i64] (ts := [3, 3, 3]) (Or.inr ⟨_, _, Try.underlying22⟩) (by kernel_rfl) (by kernel_rfl) (by kernel_rfl) (hval 0 22 v0 rfl rfl)
  obtain ⟨a0_0, a0_1, a0_2, rfl⟩ := len3 zl0
  have k1 := h1
  have lt1 : ∀ x ∈ p1, x.block < W.heap.size := by obtain ⟨m, hm⟩ := k1; exact DataW.trod_lt m _ _ _ hm
  obtain ⟨zs1, zl1, rfl, zw1⟩ := flat_ints [.i64, .i64, .i64] (ts := [3, 3, 3]) (Or.inr ⟨_, _, Try.underlying22⟩) (by kernel_rfl) (by kernel_rfl) (by kernel_rfl) (hval 1 22 v1 rfl rfl)
  obtain ⟨a1_0, a1_1, a1_2, rfl⟩ := len3 zl1
  clear hA0 hval0
  refine (walk_TensorJoins a0_0 a0_1 a0_2 a1_0 a1_1 a1_2 (zw0 0 .i64 _ rfl rfl) (zw0 1 .i64 _ rfl rfl) (zw0 2 .i64 _ rfl rfl) (zw1 0 .i64 _ rfl rfl) (zw1 1 .i64 _ rfl rfl) (zw1 2 .i64 _ rfl rfl) W).mono fun e W' ⟨he, bel⟩ => ?_
  subst he
  exact ⟨_, rfl, _, _, _, [], _, [], hW', trodAll_mk1 (shut_bool Try.underlying4 _), (trodAll_cons_mk (Below.trod laidOut (by kernel_rfl) (of_decide_eq_true (by kernel_rfl)) k0 bel lt0) (trodAll_cons_mk (Below.trod laidOut (by kernel_rfl) (of_decide_eq_true (by kernel_rfl)) k1 bel lt1) trodAll_mk0)), rfl, bel.frame _, fun h => by cases h⟩

theorem holds_TensorJoins : Rows.TensorJoinsSaid :=
  OpenClaim.holds_of_wide 6 Try.f6 rfl rfl rfl rfl rfl rfl rfl ⟨rfl, rfl, rfl, rfl, rfl⟩ rfl rfl rfl rfl rfl (by kernel_rfl) Try.func6 (by kernel_rfl)
    (of_decide_eq_true (by kernel_rfl)) (by unfold Func.isWrapper; first | (rw [if_pos (by decide +kernel)]; kernel_rfl) | (rw [if_neg (by decide +kernel)]; exact ⟨rfl, rfl⟩))
    (fun os started H enc _ => lifted_TensorJoins os started H enc)

end Go.Proofs.Ytedfekgacmfjkaa
