/- Tidy on the three steps of the law's own lives. -/
import Derived.Test.YtedfekgacmfjkaaPeepC
namespace Go.Proofs.Ytedfekgacmfjkaa
open Go Go.RowKit
set_option linter.unusedVariables false

theorem own5_form {w : World} {B g cap : Nat} {e : TypeId} {x : Q5} (own : w.ownsRow B e 5 (.slice (some ⟨g, 0, none⟩) 1 cap) 1 x.cells) : g < w.heap.size ∧ 1 ≤ cap ∧ cap ≤ 9223372036854775807 := by
  rcases own.2 with ⟨h, _⟩ | ⟨g', cap', cur, h', hb, hg, hnc, hcm, hcs, _⟩
  · simp at h
  · simp at h'
    obtain ⟨rfl, rfl⟩ := h'
    exact ⟨lt_of_block hg, hnc, by simpa [maxLen] using hcm⟩
def lv39 : List Q5 := [⟨13, 1, 1, 0, 2⟩, ⟨13, 1, 1, 0, -2⟩, ⟨1, 0, 0, 0, 3⟩]
theorem lv39_ends : endsS lv39 = some [-1, -1, -1] := by rfl
theorem lv39_check : checkS lv39 = 0 := by decide
set_option maxRecDepth 100000 in
set_option maxHeartbeats 1000000 in
theorem tidy_lv (w : World) : Calls Try.prog 59 #[.slice (some ⟨w.heap.size, 0, none⟩) 3 3] (w.alloc (.cells (flat lv39).toArray 58)) fun e w' => ∃ g cap, e = .returned (.tuple #[.slice (some ⟨g, 0, none⟩) 1 cap, .int .i64 2, .int .i64 0]) ∧ Below w.heap.size w w' := by
  have L0 := Lib.hid (l5_lit w 58 lv39 (flat lv39).toArray rfl w.heap.size rfl (by decide))
  go_enter Try.func59, Try.ntmps59
  go_wp2_with fail
  refine (check_any (some ⟨w.heap.size, 0, none⟩) 3 lv39 _ L0.out).mono ?_
  rw [lv39_check]
  rintro e w1 ⟨rfl, hb1⟩
  have L1 := Lib.hid (L0.out.later hb1)
  have HB1 := Lib.hid (Below.trans (show Below w.heap.size w (w.alloc (.cells (flat lv39).toArray 58)) by go_grown) (hb1.mono (by simp)))
  clear hb1
  go_wp2_with fail
  refine (ends_any (some ⟨w.heap.size, 0, none⟩) 3 lv39 _ L1.out).mono ?_
  unfold EndsPost
  rw [lv39_ends]
  rintro e w2 ⟨⟨v, rfl, hown⟩, hb2⟩
  obtain ⟨a1, c1, rfl, l1⟩ := own_i hown (by simp)
  have L2 := Lib.hid (L1.out.later hb2)
  have HB2 := Lib.hid (HB1.out.trans (hb2.mono HB1.out.size))
  have hz2 := hb2.size
  clear hown hb2 l1
  obtain ⟨_, hnil | ⟨bb, off, hbo, hbb, hc⟩⟩ := L2.out
  · cases hnil
  cases hbo
  obtain ⟨p0, p1, p2, p3, p4⟩ := hc 0 _ rfl
  obtain ⟨q0, q1, q2, q3, q4⟩ := hc 1 _ rfl
  obtain ⟨r0, r1, r2, r3, r4⟩ := hc 2 _ rfl
  clear hc
  simp only [Nat.zero_mul, Nat.one_mul, Nat.zero_add, Nat.add_zero] at p0 p1 p2 p3 p4 q0 q1 q2 q3 q4 r0 r1 r2 r3 r4
  have HK := Lib.hid hbb
  go_wp2_with fail
  refine wp_loop_rounds 4 ?_
  rw [rounds_succ]
  go_wp2_with fail
  refine Calls.mono (put_append w2.heap.size (w2.heap.size + 1) w2.heap.size none 0 13 1 1 0 2 _ (by first | (simp; done) | (simp; omega)) (Nat.le_refl _) (by omega) (by first | (simp; done) | (simp; omega)) (by simp) (by simp) (World.ownsRow_nil _ _ _ _) (by simp [Value.ownBlock]) (by rfl)) ?_
  rintro e w3 ⟨rfl, g, cap, cT, fT, own, hgT, hb3⟩
  have o3 : w3.ownsRow (w2.heap.size + 1) 58 5 (.slice (some ⟨g, 0, none⟩) 1 cap) 1 (Q5.cells ⟨13, 1, 1, 0, 2⟩) := own
  obtain ⟨hg3, hc1, hc2⟩ := own5_form o3
  have O3 := Lib.hid o3
  have hk3 : Below w2.heap.size w2 w3 := Below.trans (b := ((w2.alloc (.cells #[.slice none 0 0] 100)).alloc (.cells #[.int .i64 13, .int .i64 1, .int .i64 1, .int .i64 0, .int .i32 2] 58))) (by go_grown) hb3
  have hz3 : w2.heap.size + 2 ≤ w3.heap.size := by have := hb3.size; simp at this; omega
  have cT3 : w3.cell? ⟨w2.heap.size, 0, none⟩ = some (.slice (some ⟨g, 0, none⟩) 1 cap) := cT
  have HK3 := Lib.hid hk3
  replace q0 := (hk3.cell (p := ⟨w.heap.size, _, none⟩) (by show w.heap.size < w2.heap.size; exact hbb)).trans q0
  replace q1 := (hk3.cell (p := ⟨w.heap.size, _, none⟩) (by show w.heap.size < w2.heap.size; exact hbb)).trans q1
  replace q2 := (hk3.cell (p := ⟨w.heap.size, _, none⟩) (by show w.heap.size < w2.heap.size; exact hbb)).trans q2
  replace q3 := (hk3.cell (p := ⟨w.heap.size, _, none⟩) (by show w.heap.size < w2.heap.size; exact hbb)).trans q3
  replace q4 := (hk3.cell (p := ⟨w.heap.size, _, none⟩) (by show w.heap.size < w2.heap.size; exact hbb)).trans q4
  replace r0 := (hk3.cell (p := ⟨w.heap.size, _, none⟩) (by show w.heap.size < w2.heap.size; exact hbb)).trans r0
  replace r1 := (hk3.cell (p := ⟨w.heap.size, _, none⟩) (by show w.heap.size < w2.heap.size; exact hbb)).trans r1
  replace r2 := (hk3.cell (p := ⟨w.heap.size, _, none⟩) (by show w.heap.size < w2.heap.size; exact hbb)).trans r2
  replace r3 := (hk3.cell (p := ⟨w.heap.size, _, none⟩) (by show w.heap.size < w2.heap.size; exact hbb)).trans r3
  replace r4 := (hk3.cell (p := ⟨w.heap.size, _, none⟩) (by show w.heap.size < w2.heap.size; exact hbb)).trans r4
  clear own o3 hb3 hk3 p0 p1 p2 p3 p4 cT
  go_wp2_with fail
  rw [rounds_succ]
  go_wp2_with fail
  refine Calls.mono (put_joined w2.heap.size (w2.heap.size + 1) w2.heap.size g cap _ (by simp; omega) (Nat.le_refl _) (by simp; omega) hgT hc1 hc2 ((World.cell?_alloc_past _ _ _ (by show w2.heap.size < w3.heap.size; omega)).trans cT3) ((((Below.refl w3.heap.size w3).alloc (Nat.le_refl _) _).frozen (p := ⟨w2.heap.size, 0, none⟩) (by show w2.heap.size < w3.heap.size; omega)).trans fT) (O3.out.alloc _)) ?_
  rintro e w4 ⟨rfl, cT4, fT4, o4, hb4⟩
  have O4 := Lib.hid o4
  have hk4 : Below w2.heap.size w2 w4 := Below.trans (b := (w3.alloc (.cells #[.int .i64 13, .int .i64 1, .int .i64 1, .int .i64 0, .int .i32 (-2)] 58))) (HK3.out.alloc (by omega) _) hb4
  have hz4 : w3.heap.size + 1 ≤ w4.heap.size := by have := hb4.size; simp at this; omega
  have HK4 := Lib.hid hk4
  replace r0 := (hb4.cell (p := ⟨w.heap.size, _, none⟩) (by show w.heap.size < w2.heap.size; exact hbb)).trans ((World.cell?_alloc_past _ _ _ (by show w.heap.size < w3.heap.size; omega)).trans r0)
  replace r1 := (hb4.cell (p := ⟨w.heap.size, _, none⟩) (by show w.heap.size < w2.heap.size; exact hbb)).trans ((World.cell?_alloc_past _ _ _ (by show w.heap.size < w3.heap.size; omega)).trans r1)
  replace r2 := (hb4.cell (p := ⟨w.heap.size, _, none⟩) (by show w.heap.size < w2.heap.size; exact hbb)).trans ((World.cell?_alloc_past _ _ _ (by show w.heap.size < w3.heap.size; omega)).trans r2)
  replace r3 := (hb4.cell (p := ⟨w.heap.size, _, none⟩) (by show w.heap.size < w2.heap.size; exact hbb)).trans ((World.cell?_alloc_past _ _ _ (by show w.heap.size < w3.heap.size; omega)).trans r3)
  replace r4 := (hb4.cell (p := ⟨w.heap.size, _, none⟩) (by show w.heap.size < w2.heap.size; exact hbb)).trans ((World.cell?_alloc_past _ _ _ (by show w.heap.size < w3.heap.size; omega)).trans r4)
  clear o4 hb4 hk4 q0 q1 q2 q3 q4 cT3 fT
  go_wp2_with fail
  rw [rounds_succ]
  go_wp2_with fail
  refine Calls.mono (put_append w2.heap.size (w2.heap.size + 1) w2.heap.size (some ⟨g, 0, none⟩) cap 1 0 0 0 3 _ (by simp; omega) (Nat.le_refl _) (by omega) (by simp; omega) ((World.cell?_alloc_past _ _ _ (by show w2.heap.size < w4.heap.size; omega)).trans cT4) ((((Below.refl w4.heap.size w4).alloc (Nat.le_refl _) _).frozen (p := ⟨w2.heap.size, 0, none⟩) (by show w2.heap.size < w4.heap.size; omega)).trans fT4) (O4.out.alloc _) (by simp [Value.ownBlock]; exact hgT) (by rfl)) ?_
  rintro e w5 ⟨rfl, g5, cap5, cT, fT, own, hgT5, hb5⟩
  have cT5 : w5.cell? ⟨w2.heap.size, 0, none⟩ = some (.slice (some ⟨g5, 0, none⟩) 1 cap5) := cT
  have HK5 := Lib.hid (show Below w2.heap.size w2 w5 from Below.trans (b := (w4.alloc (.cells #[.int .i64 1, .int .i64 0, .int .i64 0, .int .i64 0, .int .i32 3] 58))) (HK4.out.alloc (by omega) _) hb5)
  clear own hb5 cT
  go_wp2_with fail
  rw [rounds_succ]
  go_wp2_with fail
  clear r0 r1 r2 r3 r4 cT4 fT4
  have HBE := Lib.hid (HB2.out.trans (HK5.out.mono HB2.out.size))
  go_region
  all_goals
    go_wp2_with fail
    go_returns
    exact ⟨g5, cap5, rfl, by first | exact HBE.out.drew | exact HBE.out⟩
end Go.Proofs.Ytedfekgacmfjkaa
