/- The statement InstRegs of layer 3 (instructions as words). -/
import Derived.Test.YtjlihimjknnaiaaDoorLawI
import Derived.Test.YtjlihimjknnaiaaDoorInstV
import Derived.Deep.RegionHeld3
-- theorem own and theorem laidOut stand in LawI
namespace Go.Proofs.YtjlihimjknnaiaaDoor
open Go Go.RowKit Go.ChangeShapes Go.WideShapes Go.ChangeAt Pl
set_option linter.unusedVariables false

set_option maxHeartbeats 2000000 in
theorem regs_no (o d a b i : Int) (i0 : -2147483648 ≤ i) (i1 : i ≤ 2147483647) (w : World) (ht : T3 w) (hC : canI ⟨o, d, a, b, i⟩ = false) :
    Calls Tryd.prog 7 #[.agg #[.int .i64 o, .int .i64 d, .int .i64 a, .int .i64 b, .int .i32 i]] w fun e w' => e = .returned (.bool true) ∧ Below w.heap.size w w' := by
  have WI := Lib.hid (show writesI ⟨o, d, a, b, i⟩ = 0 by unfold writesI; rw [hC]; rfl)
  have RN := Lib.hid (renc_is' o d a b i false · i0 i1 hC)
  have OF := Lib.hid (of_all o)
  have LN := Lib.hid (ireads_len ⟨o, d, a, b, i⟩)
  have HT := Lib.hid ht
  clear hC ht
  go_enter Tryd.func7, Tryd.ntmps7
  go_wp2_with fail
  have hw := Lib.hid (show Below w.heap.size w (w.alloc (.cells #[.int .i64 o, .int .i64 d, .int .i64 a, .int .i64 b, .int .i32 i] 23)) by go_grown)
  refine (RN.out _).mono ?_
  rintro e w1 ⟨rfl, b1⟩
  obtain ⟨p0, p1, p2, p3, p4, p5⟩ := (boxI_new w o d a b i 23).later b1
  have B1 := Lib.hid (below_trans hw.out b1)
  have HP := Lib.hid (show BoxI w.heap.size o d a b i w1 from ⟨p0, p1, p2, p3, p4, p5⟩)
  clear b1
  go_wp2_with fail
  refine (OF.out _).mono ?_
  rintro e w2 ⟨⟨L, T, S, G, K, rfl⟩, b2⟩
  clear p0 p1 p2 p3 p4 p5
  have B2 := Lib.hid (below_trans B1.out b2)
  have HS := Lib.hid (HP.out.later b2)
  clear b2
  obtain ⟨w3, hw3⟩ : ∃ w3, w3 = w2.alloc (.cells #[.int .u32 L, .int .u32 T, .int .u32 S, .int .i64 G, .bool (rD o), .bool (rA o), .bool (rB o)] 33) := ⟨_, rfl⟩
  have HW3 := Lib.hid hw3
  have hS : w3.cell? ⟨w.heap.size, 0, none⟩ = some (.int .i64 o) ∧ w3.cell? ⟨w.heap.size, 1, none⟩ = some (.int .i64 d) ∧ w3.cell? ⟨w.heap.size, 2, none⟩ = some (.int .i64 a) ∧ w3.cell? ⟨w.heap.size, 3, none⟩ = some (.int .i64 b) ∧ w3.cell? ⟨w.heap.size, 4, none⟩ = some (.int .i32 i) ∧ w.heap.size < w3.heap.size ∧ Below w.heap.size w w3 := by
    subst hw3
    have bb : Below w2.heap.size w2 (w2.alloc (.cells #[.int .u32 L, .int .u32 T, .int .u32 S, .int .i64 G, .bool (rD o), .bool (rA o), .bool (rB o)] 33)) := by go_grown
    obtain ⟨q0, q1, q2, q3, q4, q5⟩ := HS.out.later bb
    exact ⟨q0, q1, q2, q3, q4, q5, below_trans B2.out bb⟩
  have d4 : w3.cell? ⟨w2.heap.size, 4, none⟩ = some (.bool (rD o)) := by rw [hw3, World.cell?_alloc_new]; rfl
  have c1 := hS.2.1
  have e1 := HS.out.2.1
  have e5 := HS.out.2.2.2.2.2
  have HH := Lib.hid hS
  clear hw3 hS
  go_wp2_with fail
  rw [← HW3.out]
  go_wp2_with fail
  have hS := HH.out
  clear e1
  have c0 := hS.1
  have c2 := hS.2.2.1
  have c3 := hS.2.2.2.1
  have c4 := hS.2.2.2.2.1
  have hz := hS.2.2.2.2.2.1
  go_region_held3 (fun w' => w'.cell? ⟨w.heap.size, 0, none⟩ = some (.int .i64 o) ∧ w'.cell? ⟨w.heap.size, 1, none⟩ = some (.int .i64 d) ∧ w'.cell? ⟨w.heap.size, 2, none⟩ = some (.int .i64 a) ∧ w'.cell? ⟨w.heap.size, 3, none⟩ = some (.int .i64 b) ∧ w'.cell? ⟨w.heap.size, 4, none⟩ = some (.int .i32 i) ∧ w.heap.size < w'.heap.size ∧ Below w.heap.size w w')
    (first | (with_reducible assumption) | (obtain ⟨s0, s1, s2, s3, s4, s5, s6⟩ := ‹_ ∧ _ ∧ _ ∧ _ ∧ _ ∧ _ ∧ Below w.heap.size w _›; exact ⟨(hbl.cell (by show w.heap.size < _; omega)).trans s0, (hbl.cell (by show w.heap.size < _; omega)).trans s1, (hbl.cell (by show w.heap.size < _; omega)).trans s2, (hbl.cell (by show w.heap.size < _; omega)).trans s3, (hbl.cell (by show w.heap.size < _; omega)).trans s4, Nat.lt_of_lt_of_le s5 hbl.size, s6.trans (hbl.mono s6.size)⟩) | (obtain ⟨s0, s1, s2, s3, s4, s5, s6⟩ := ‹_ ∧ _ ∧ _ ∧ _ ∧ _ ∧ _ ∧ Below w.heap.size w _›; exact ⟨(World.cell?_alloc_past _ _ _ (by omega)).trans s0, (World.cell?_alloc_past _ _ _ (by omega)).trans s1, (World.cell?_alloc_past _ _ _ (by omega)).trans s2, (World.cell?_alloc_past _ _ _ (by omega)).trans s3, (World.cell?_alloc_past _ _ _ (by omega)).trans s4, Nat.lt_of_lt_of_le s5 (by simp), s6.alloc s6.size _⟩) | (obtain ⟨s0, s1, s2, s3, s4, s5, s6⟩ := ‹_ ∧ _ ∧ _ ∧ _ ∧ _ ∧ _ ∧ Below w.heap.size w _›; exact ⟨s0, s1, s2, s3, s4, s5, s6.drew⟩) | (obtain ⟨s0, s1, s2, s3, s4, s5, s6⟩ := ‹_ ∧ _ ∧ _ ∧ _ ∧ _ ∧ _ ∧ Below w.heap.size w _›; exact ⟨(World.cell?_alloc_past _ _ _ (by omega)).trans s0, (World.cell?_alloc_past _ _ _ (by omega)).trans s1, (World.cell?_alloc_past _ _ _ (by omega)).trans s2, (World.cell?_alloc_past _ _ _ (by omega)).trans s3, (World.cell?_alloc_past _ _ _ (by omega)).trans s4, Nat.lt_of_lt_of_le s5 (by simp), (s6.alloc s6.size _).drew⟩) | (obtain ⟨s0, s1, s2, s3, s4, s5, s6⟩ := ‹_ ∧ _ ∧ _ ∧ _ ∧ _ ∧ _ ∧ Below w.heap.size w _›; exact ⟨s0, s1, s2, s3, s4, s5, s6⟩))
    (first
    | (go_at_call 17; refine (ireads_any _ _ _ _ _ _ i0 i1).mono ?_; rintro e w1 ⟨v1, rfl, o1, hbl⟩; obtain ⟨a1, c1, rfl, l1⟩ := own_i o1 LN.out; clear o1)
    | (go_at_call 18; refine (rreads_any _ _ _ _ _ _ i0 i1).mono ?_; rintro e w1 ⟨v1, rfl, o1, hbl⟩; obtain ⟨a2, c2, rfl, l2⟩ := own_i o1 LN.out; clear o1; replace l1 := l1.later hbl)
    | (go_at_call 16; refine (ints_eq _ _ _ _ _ _ l1 l2).mono ?_; rintro e w9 ⟨rfl, hbl⟩; replace hbl := below_draw hbl; clear l1 l2)
    | (go_at_call 19; refine (iwrites_any _ _ _ _ _ _ i0 i1).mono ?_; unfold WrP; rw [WI.out]; rintro e w1 ⟨rfl, hbl⟩)
    | (go_at_call 12; obtain ⟨_, _, _, _, _, _, q6⟩ := ‹_ ∧ _ ∧ _ ∧ _ ∧ _ ∧ _ ∧ Below w.heap.size w _›; refine (law3_lives _ (HT.out.later q6)).mono ?_; clear q6; rintro e w1 ⟨rfl, hbl⟩))
  obtain ⟨_, _, _, _, _, _, hB⟩ := ‹_ ∧ _ ∧ _ ∧ _ ∧ _ ∧ _ ∧ Below w.heap.size w _›
  go_wp2
  go_ret
  exact ⟨rfl, hB⟩

set_option maxHeartbeats 2000000 in
theorem regs_d (o d a b i : Int) (i0 : -2147483648 ≤ i) (i1 : i ≤ 2147483647) (w : World) (ht : T3 w) (hC : canI ⟨o, d, a, b, i⟩ = true) (hD : rD o = true) :
    Calls Tryd.prog 7 #[.agg #[.int .i64 o, .int .i64 d, .int .i64 a, .int .i64 b, .int .i32 i]] w fun e w' => e = .returned (.bool true) ∧ Below w.heap.size w w' := by
  have WI := Lib.hid (show writesI ⟨o, d, a, b, i⟩ = d by unfold writesI; rw [hC]; rfl)
  have RN := Lib.hid (renc_is' o d a b i true · i0 i1 hC)
  have OF := Lib.hid (of_all o)
  have LN := Lib.hid (ireads_len ⟨o, d, a, b, i⟩)
  have HT := Lib.hid ht
  have HD := Lib.hid hD
  clear hC ht hD
  go_enter Tryd.func7, Tryd.ntmps7
  go_wp2_with fail
  have hw := Lib.hid (show Below w.heap.size w (w.alloc (.cells #[.int .i64 o, .int .i64 d, .int .i64 a, .int .i64 b, .int .i32 i] 23)) by go_grown)
  refine (RN.out _).mono ?_
  rintro e w1 ⟨rfl, b1⟩
  obtain ⟨p0, p1, p2, p3, p4, p5⟩ := (boxI_new w o d a b i 23).later b1
  have B1 := Lib.hid (below_trans hw.out b1)
  have HP := Lib.hid (show BoxI w.heap.size o d a b i w1 from ⟨p0, p1, p2, p3, p4, p5⟩)
  clear b1
  go_wp2_with fail
  refine (OF.out _).mono ?_
  rw [HD.out]
  rintro e w2 ⟨⟨L, T, S, G, K, rfl⟩, b2⟩
  clear p0 p1 p2 p3 p4 p5
  have B2 := Lib.hid (below_trans B1.out b2)
  have HS := Lib.hid (HP.out.later b2)
  clear b2
  obtain ⟨w3, hw3⟩ : ∃ w3, w3 = w2.alloc (.cells #[.int .u32 L, .int .u32 T, .int .u32 S, .int .i64 G, .bool true, .bool (rA o), .bool (rB o)] 33) := ⟨_, rfl⟩
  have HW3 := Lib.hid hw3
  have hS : w3.cell? ⟨w.heap.size, 0, none⟩ = some (.int .i64 o) ∧ w3.cell? ⟨w.heap.size, 1, none⟩ = some (.int .i64 d) ∧ w3.cell? ⟨w.heap.size, 2, none⟩ = some (.int .i64 a) ∧ w3.cell? ⟨w.heap.size, 3, none⟩ = some (.int .i64 b) ∧ w3.cell? ⟨w.heap.size, 4, none⟩ = some (.int .i32 i) ∧ w.heap.size < w3.heap.size ∧ Below w.heap.size w w3 := by
    subst hw3
    have bb : Below w2.heap.size w2 (w2.alloc (.cells #[.int .u32 L, .int .u32 T, .int .u32 S, .int .i64 G, .bool true, .bool (rA o), .bool (rB o)] 33)) := by go_grown
    obtain ⟨q0, q1, q2, q3, q4, q5⟩ := HS.out.later bb
    exact ⟨q0, q1, q2, q3, q4, q5, below_trans B2.out bb⟩
  have d4 : w3.cell? ⟨w2.heap.size, 4, none⟩ = some (.bool true) := by rw [hw3, World.cell?_alloc_new]; rfl
  have c1 := hS.2.1
  have e1 := HS.out.2.1
  have e5 := HS.out.2.2.2.2.2
  have HH := Lib.hid hS
  clear hw3 hS
  go_wp2_with fail
  rw [← HW3.out]
  go_wp2_with fail
  have hS := HH.out
  clear e1
  have c0 := hS.1
  have c2 := hS.2.2.1
  have c3 := hS.2.2.2.1
  have c4 := hS.2.2.2.2.1
  have hz := hS.2.2.2.2.2.1
  go_region_held3 (fun w' => w'.cell? ⟨w.heap.size, 0, none⟩ = some (.int .i64 o) ∧ w'.cell? ⟨w.heap.size, 1, none⟩ = some (.int .i64 d) ∧ w'.cell? ⟨w.heap.size, 2, none⟩ = some (.int .i64 a) ∧ w'.cell? ⟨w.heap.size, 3, none⟩ = some (.int .i64 b) ∧ w'.cell? ⟨w.heap.size, 4, none⟩ = some (.int .i32 i) ∧ w.heap.size < w'.heap.size ∧ Below w.heap.size w w')
    (first | (with_reducible assumption) | (obtain ⟨s0, s1, s2, s3, s4, s5, s6⟩ := ‹_ ∧ _ ∧ _ ∧ _ ∧ _ ∧ _ ∧ Below w.heap.size w _›; exact ⟨(hbl.cell (by show w.heap.size < _; omega)).trans s0, (hbl.cell (by show w.heap.size < _; omega)).trans s1, (hbl.cell (by show w.heap.size < _; omega)).trans s2, (hbl.cell (by show w.heap.size < _; omega)).trans s3, (hbl.cell (by show w.heap.size < _; omega)).trans s4, Nat.lt_of_lt_of_le s5 hbl.size, s6.trans (hbl.mono s6.size)⟩) | (obtain ⟨s0, s1, s2, s3, s4, s5, s6⟩ := ‹_ ∧ _ ∧ _ ∧ _ ∧ _ ∧ _ ∧ Below w.heap.size w _›; exact ⟨(World.cell?_alloc_past _ _ _ (by omega)).trans s0, (World.cell?_alloc_past _ _ _ (by omega)).trans s1, (World.cell?_alloc_past _ _ _ (by omega)).trans s2, (World.cell?_alloc_past _ _ _ (by omega)).trans s3, (World.cell?_alloc_past _ _ _ (by omega)).trans s4, Nat.lt_of_lt_of_le s5 (by simp), s6.alloc s6.size _⟩) | (obtain ⟨s0, s1, s2, s3, s4, s5, s6⟩ := ‹_ ∧ _ ∧ _ ∧ _ ∧ _ ∧ _ ∧ Below w.heap.size w _›; exact ⟨s0, s1, s2, s3, s4, s5, s6.drew⟩) | (obtain ⟨s0, s1, s2, s3, s4, s5, s6⟩ := ‹_ ∧ _ ∧ _ ∧ _ ∧ _ ∧ _ ∧ Below w.heap.size w _›; exact ⟨(World.cell?_alloc_past _ _ _ (by omega)).trans s0, (World.cell?_alloc_past _ _ _ (by omega)).trans s1, (World.cell?_alloc_past _ _ _ (by omega)).trans s2, (World.cell?_alloc_past _ _ _ (by omega)).trans s3, (World.cell?_alloc_past _ _ _ (by omega)).trans s4, Nat.lt_of_lt_of_le s5 (by simp), (s6.alloc s6.size _).drew⟩) | (obtain ⟨s0, s1, s2, s3, s4, s5, s6⟩ := ‹_ ∧ _ ∧ _ ∧ _ ∧ _ ∧ _ ∧ Below w.heap.size w _›; exact ⟨s0, s1, s2, s3, s4, s5, s6⟩))
    (first
    | (go_at_call 17; refine (ireads_any _ _ _ _ _ _ i0 i1).mono ?_; rintro e w1 ⟨v1, rfl, o1, hbl⟩; obtain ⟨a1, c1, rfl, l1⟩ := own_i o1 LN.out; clear o1)
    | (go_at_call 18; refine (rreads_any _ _ _ _ _ _ i0 i1).mono ?_; rintro e w1 ⟨v1, rfl, o1, hbl⟩; obtain ⟨a2, c2, rfl, l2⟩ := own_i o1 LN.out; clear o1; replace l1 := l1.later hbl)
    | (go_at_call 16; refine (ints_eq _ _ _ _ _ _ l1 l2).mono ?_; rintro e w9 ⟨rfl, hbl⟩; replace hbl := below_draw hbl; clear l1 l2)
    | (go_at_call 19; refine (iwrites_any _ _ _ _ _ _ i0 i1).mono ?_; unfold WrP; rw [WI.out]; rintro e w1 ⟨rfl, hbl⟩)
    | (go_at_call 12; obtain ⟨_, _, _, _, _, _, q6⟩ := ‹_ ∧ _ ∧ _ ∧ _ ∧ _ ∧ _ ∧ Below w.heap.size w _›; refine (law3_lives _ (HT.out.later q6)).mono ?_; clear q6; rintro e w1 ⟨rfl, hbl⟩))
  obtain ⟨_, _, _, _, _, _, hB⟩ := ‹_ ∧ _ ∧ _ ∧ _ ∧ _ ∧ _ ∧ Below w.heap.size w _›
  go_wp2
  go_ret
  exact ⟨rfl, hB⟩

set_option maxHeartbeats 2000000 in
theorem regs_x (o d a b i : Int) (i0 : -2147483648 ≤ i) (i1 : i ≤ 2147483647) (w : World) (ht : T3 w) (hC : canI ⟨o, d, a, b, i⟩ = true) (hD : rD o = false) :
    Calls Tryd.prog 7 #[.agg #[.int .i64 o, .int .i64 d, .int .i64 a, .int .i64 b, .int .i32 i]] w fun e w' => e = .returned (.bool true) ∧ Below w.heap.size w w' := by
  have WI := Lib.hid (show writesI ⟨o, d, a, b, i⟩ = 0 by unfold writesI; rw [hC]; exact (canI_out hC).hd0 hD)
  have RN := Lib.hid (renc_is' o d a b i true · i0 i1 hC)
  have OF := Lib.hid (of_all o)
  have LN := Lib.hid (ireads_len ⟨o, d, a, b, i⟩)
  have HT := Lib.hid ht
  have HD := Lib.hid hD
  clear hC ht hD
  go_enter Tryd.func7, Tryd.ntmps7
  go_wp2_with fail
  have hw := Lib.hid (show Below w.heap.size w (w.alloc (.cells #[.int .i64 o, .int .i64 d, .int .i64 a, .int .i64 b, .int .i32 i] 23)) by go_grown)
  refine (RN.out _).mono ?_
  rintro e w1 ⟨rfl, b1⟩
  obtain ⟨p0, p1, p2, p3, p4, p5⟩ := (boxI_new w o d a b i 23).later b1
  have B1 := Lib.hid (below_trans hw.out b1)
  have HP := Lib.hid (show BoxI w.heap.size o d a b i w1 from ⟨p0, p1, p2, p3, p4, p5⟩)
  clear b1
  go_wp2_with fail
  refine (OF.out _).mono ?_
  rw [HD.out]
  rintro e w2 ⟨⟨L, T, S, G, K, rfl⟩, b2⟩
  clear p0 p1 p2 p3 p4 p5
  have B2 := Lib.hid (below_trans B1.out b2)
  have HS := Lib.hid (HP.out.later b2)
  clear b2
  obtain ⟨w3, hw3⟩ : ∃ w3, w3 = w2.alloc (.cells #[.int .u32 L, .int .u32 T, .int .u32 S, .int .i64 G, .bool false, .bool (rA o), .bool (rB o)] 33) := ⟨_, rfl⟩
  have HW3 := Lib.hid hw3
  have hS : w3.cell? ⟨w.heap.size, 0, none⟩ = some (.int .i64 o) ∧ w3.cell? ⟨w.heap.size, 1, none⟩ = some (.int .i64 d) ∧ w3.cell? ⟨w.heap.size, 2, none⟩ = some (.int .i64 a) ∧ w3.cell? ⟨w.heap.size, 3, none⟩ = some (.int .i64 b) ∧ w3.cell? ⟨w.heap.size, 4, none⟩ = some (.int .i32 i) ∧ w.heap.size < w3.heap.size ∧ Below w.heap.size w w3 := by
    subst hw3
    have bb : Below w2.heap.size w2 (w2.alloc (.cells #[.int .u32 L, .int .u32 T, .int .u32 S, .int .i64 G, .bool false, .bool (rA o), .bool (rB o)] 33)) := by go_grown
    obtain ⟨q0, q1, q2, q3, q4, q5⟩ := HS.out.later bb
    exact ⟨q0, q1, q2, q3, q4, q5, below_trans B2.out bb⟩
  have d4 : w3.cell? ⟨w2.heap.size, 4, none⟩ = some (.bool false) := by rw [hw3, World.cell?_alloc_new]; rfl
  have c1 := hS.2.1
  have e1 := HS.out.2.1
  have e5 := HS.out.2.2.2.2.2
  have HH := Lib.hid hS
  clear hw3 hS
  go_wp2_with fail
  rw [← HW3.out]
  go_wp2_with fail
  have hS := HH.out
  clear e1
  have c0 := hS.1
  have c2 := hS.2.2.1
  have c3 := hS.2.2.2.1
  have c4 := hS.2.2.2.2.1
  have hz := hS.2.2.2.2.2.1
  go_region_held3 (fun w' => w'.cell? ⟨w.heap.size, 0, none⟩ = some (.int .i64 o) ∧ w'.cell? ⟨w.heap.size, 1, none⟩ = some (.int .i64 d) ∧ w'.cell? ⟨w.heap.size, 2, none⟩ = some (.int .i64 a) ∧ w'.cell? ⟨w.heap.size, 3, none⟩ = some (.int .i64 b) ∧ w'.cell? ⟨w.heap.size, 4, none⟩ = some (.int .i32 i) ∧ w.heap.size < w'.heap.size ∧ Below w.heap.size w w')
    (first | (with_reducible assumption) | (obtain ⟨s0, s1, s2, s3, s4, s5, s6⟩ := ‹_ ∧ _ ∧ _ ∧ _ ∧ _ ∧ _ ∧ Below w.heap.size w _›; exact ⟨(hbl.cell (by show w.heap.size < _; omega)).trans s0, (hbl.cell (by show w.heap.size < _; omega)).trans s1, (hbl.cell (by show w.heap.size < _; omega)).trans s2, (hbl.cell (by show w.heap.size < _; omega)).trans s3, (hbl.cell (by show w.heap.size < _; omega)).trans s4, Nat.lt_of_lt_of_le s5 hbl.size, s6.trans (hbl.mono s6.size)⟩) | (obtain ⟨s0, s1, s2, s3, s4, s5, s6⟩ := ‹_ ∧ _ ∧ _ ∧ _ ∧ _ ∧ _ ∧ Below w.heap.size w _›; exact ⟨(World.cell?_alloc_past _ _ _ (by omega)).trans s0, (World.cell?_alloc_past _ _ _ (by omega)).trans s1, (World.cell?_alloc_past _ _ _ (by omega)).trans s2, (World.cell?_alloc_past _ _ _ (by omega)).trans s3, (World.cell?_alloc_past _ _ _ (by omega)).trans s4, Nat.lt_of_lt_of_le s5 (by simp), s6.alloc s6.size _⟩) | (obtain ⟨s0, s1, s2, s3, s4, s5, s6⟩ := ‹_ ∧ _ ∧ _ ∧ _ ∧ _ ∧ _ ∧ Below w.heap.size w _›; exact ⟨s0, s1, s2, s3, s4, s5, s6.drew⟩) | (obtain ⟨s0, s1, s2, s3, s4, s5, s6⟩ := ‹_ ∧ _ ∧ _ ∧ _ ∧ _ ∧ _ ∧ Below w.heap.size w _›; exact ⟨(World.cell?_alloc_past _ _ _ (by omega)).trans s0, (World.cell?_alloc_past _ _ _ (by omega)).trans s1, (World.cell?_alloc_past _ _ _ (by omega)).trans s2, (World.cell?_alloc_past _ _ _ (by omega)).trans s3, (World.cell?_alloc_past _ _ _ (by omega)).trans s4, Nat.lt_of_lt_of_le s5 (by simp), (s6.alloc s6.size _).drew⟩) | (obtain ⟨s0, s1, s2, s3, s4, s5, s6⟩ := ‹_ ∧ _ ∧ _ ∧ _ ∧ _ ∧ _ ∧ Below w.heap.size w _›; exact ⟨s0, s1, s2, s3, s4, s5, s6⟩))
    (first
    | (go_at_call 17; refine (ireads_any _ _ _ _ _ _ i0 i1).mono ?_; rintro e w1 ⟨v1, rfl, o1, hbl⟩; obtain ⟨a1, c1, rfl, l1⟩ := own_i o1 LN.out; clear o1)
    | (go_at_call 18; refine (rreads_any _ _ _ _ _ _ i0 i1).mono ?_; rintro e w1 ⟨v1, rfl, o1, hbl⟩; obtain ⟨a2, c2, rfl, l2⟩ := own_i o1 LN.out; clear o1; replace l1 := l1.later hbl)
    | (go_at_call 16; refine (ints_eq _ _ _ _ _ _ l1 l2).mono ?_; rintro e w9 ⟨rfl, hbl⟩; replace hbl := below_draw hbl; clear l1 l2)
    | (go_at_call 19; refine (iwrites_any _ _ _ _ _ _ i0 i1).mono ?_; unfold WrP; rw [WI.out]; rintro e w1 ⟨rfl, hbl⟩)
    | (go_at_call 12; obtain ⟨_, _, _, _, _, _, q6⟩ := ‹_ ∧ _ ∧ _ ∧ _ ∧ _ ∧ _ ∧ Below w.heap.size w _›; refine (law3_lives _ (HT.out.later q6)).mono ?_; clear q6; rintro e w1 ⟨rfl, hbl⟩))
  obtain ⟨_, _, _, _, _, _, hB⟩ := ‹_ ∧ _ ∧ _ ∧ _ ∧ _ ∧ _ ∧ Below w.heap.size w _›
  go_wp2
  go_ret
  exact ⟨rfl, hB⟩

theorem walk_InstRegs (o d a b i : Int) (w0 : (Lit.int .i64 o).wf = true) (w1 : (Lit.int .i64 d).wf = true) (w2 : (Lit.int .i64 a).wf = true) (w3 : (Lit.int .i64 b).wf = true) (w4 : (Lit.int .i32 i).wf = true) (w : World) (ht : T3 w) :
    Calls Tryd.prog 7 #[.agg #[.int .i64 o, .int .i64 d, .int .i64 a, .int .i64 b, .int .i32 i]] w fun e w' => e = .returned (.bool true) ∧ Below w.heap.size w w' := by
  obtain ⟨i0, i1⟩ := bd_i32 w4
  cases hC : canI ⟨o, d, a, b, i⟩
  · exact regs_no o d a b i i0 i1 w ht hC
  · cases hD : rD o
    · exact regs_x o d a b i i0 i1 w ht hC hD
    · exact regs_d o d a b i i0 i1 w ht hC hD

set_option maxRecDepth 100000 in
theorem lifted_InstRegs (os : Os) (started : os.Started) (H : Type) (enc : TypeId × Value → H) :
    ReturnsInHanded {} Tryd.checked os 7 .any (fun w args => (Rows.instRegsSpec.pre enc Tryd.prog Tryd.f7 [] false w args ∧ laidMetH Tryd.prog laid3 w) ∧ sizedMet enc Tryd.prog Tryd.f7 (OpenSpec.ofChange Rows.instRegsSpec) false w args)
      (Rows.instRegsSpec.post enc Tryd.prog Tryd.f7 false true false false) := by
  refine returnsInHanded_of_change_and (C := Tryd.checked) (X := fun w _ => laidMetH Tryd.prog laid3 w) (fun _ _ _ hh h => h.of_heap hh) own started (by kernel_rfl) Tryd.func7
    (ChangeSpec.witness_shaped (enc := enc) (C := Tryd.checked) (os := os) (X := fun w _ => laidMetH Tryd.prog laid3 w) false (World.doorLaid Tryd.prog 400 os) #[.agg #[.int .i64 0, .int .i64 0, .int .i64 0, .int .i64 0, .int .i32 0]] 8 rfl (World.shaped_of_RefB (by kernel_rfl) (by kernel_rfl)) (by kernel_rfl) (by kernel_rfl) (by kernel_rfl) (door_met os _)) ?_
  intro W base args ds gs before hval0 hW _ _ hL _
  have hval : ∀ (j : Nat) t v, Tryd.f7.params[j]? = some t → args[j]? = some v → Value.okWide Tryd.prog W .any base t v := hval0
  have hW' := hW
  obtain ⟨p, q, hA0, hV, rfl, hfz, hnd⟩ := hW
  have hA : DataW.TrodAll enc Tryd.prog W 0 (fun _ => true) true Tryd.f7.params.toList args.toList ds p := hA0
  rw [Tryd.params7] at hA hval
  obtain ⟨v0, vs0, d0, ds0, p0, q0, hargs, rfl, rfl, h0, r0⟩ := trodAll_cons hA
  obtain ⟨rfl, rfl, rfl⟩ := trodAll_nil r0
  obtain rfl : args = #[v0] := by cases args; simp_all
  obtain ⟨rfl, rfl⟩ := trodVars_none hV
  have k0 := h0
  have lt0 : ∀ x ∈ p0, x.block < W.heap.size := by obtain ⟨m, hm⟩ := k0; exact DataW.trod_lt m _ _ _ hm
  obtain ⟨zs0, zl0, rfl, zw0⟩ := flat_ints [.i64, .i64, .i64, .i64, .i32] (ts := [3, 3, 3, 3, 21]) (Or.inl ⟨_, Tryd.underlying23⟩) (by kernel_rfl) (by kernel_rfl) (by kernel_rfl) (hval 0 23 v0 rfl rfl)
  obtain ⟨a0_0, a0_1, a0_2, a0_3, a0_4, rfl⟩ := len5 zl0
  clear hA0 hval0
  refine (walk_InstRegs a0_0 a0_1 a0_2 a0_3 a0_4 (zw0 0 .i64 _ rfl rfl) (zw0 1 .i64 _ rfl rfl) (zw0 2 .i64 _ rfl rfl) (zw0 3 .i64 _ rfl rfl) (zw0 4 .i32 _ rfl rfl) W (t3_of hL)).mono fun e W' ⟨he, bel⟩ => ?_
  subst he
  exact ⟨_, rfl, _, _, _, [], _, [], hW', trodAll_mk1 (shut_bool Tryd.underlying4 _), (trodAll_cons_mk (Below.trod laidOut (by kernel_rfl) (of_decide_eq_true (by kernel_rfl)) k0 bel lt0) trodAll_mk0), rfl, bel.frame _, fun h => by cases h⟩

theorem row_InstRegs : Rows.InstRegsSaid :=
  OpenClaim.holds_of_wide 7 Tryd.f7 rfl rfl rfl rfl rfl rfl rfl ⟨rfl, rfl, rfl, rfl, rfl⟩ rfl rfl rfl rfl rfl (by kernel_rfl) Tryd.func7 (by kernel_rfl)
    (of_decide_eq_true (by kernel_rfl)) (by unfold Func.isWrapper; first | (rw [if_pos (by decide +kernel)]; kernel_rfl) | (rw [if_neg (by decide +kernel)]; exact ⟨rfl, rfl⟩))
    (fun os started H enc _ => lifted_InstRegs os started H enc)
theorem holds_InstRegs : Rows.InstRegsCardSaid :=
  Claim7.holds_tied_plain_at .later [] [.data] true _ false
    row_InstRegs (fun _ h => by cases h) (by kernel_rfl) (fun _ h => by cases h) instRegs_row_tie rfl ⟨rfl, rfl⟩ (by kernel_rfl) rfl
    (fun f fn hf hfn => by
      obtain rfl : f = 7 := Option.some.inj ((show Tryd.prog.funcNamed "pintle/pintlelaw03.InstRegs" = some 7 by kernel_rfl).symm.trans hf) |>.symm
      obtain rfl : fn = Tryd.f7 := (Option.some.inj (Tryd.func7.symm.trans hfn)).symm
      exact ⟨by kernel_rfl, fun j t ht => by
        rw [Tryd.params7] at ht
        have hm : t ∈ [23] := by simpa using Array.mem_of_getElem? ht
        have hall : ([23].all fun u => !Tryd.prog.wantsStandIn u) = true := by kernel_rfl
        exact (show Tryd.prog.wantsStandIn t = false by simpa using List.all_eq_true.1 hall t hm)⟩)
    (by kernel_rfl)

end Go.Proofs.YtjlihimjknnaiaaDoor
