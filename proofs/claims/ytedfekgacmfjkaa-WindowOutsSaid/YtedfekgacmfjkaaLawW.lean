/- The statement WindowOuts of layer 22 (where kernels lie): it returns true for all inputs. -/
import Derived.Test.YtedfekgacmfjkaaRows
import Derived.Test.YtedfekgacmfjkaaWinL
import Derived.Test.YtedfekgacmfjkaaOpen
import Derived.Deep.RegionHeld3
namespace Go.Proofs.Ytedfekgacmfjkaa
open Go Go.RowKit Go.ChangeShapes Go.WideShapes Go.ChangeAt
set_option linter.unusedVariables false

theorem eqA2 {P : Program} {t e : TypeId} {i : TypeInfo} (hu : P.underlying t = some (.array 2 e)) (he : P.underlying e = some (.int .i64)) (hi : P.info? e = some i) (hC : P.cellsOf e = 1) (x y a b : Int) (w : World) :
    (Op.equalIn 10000 t (.agg #[.int .i64 x, .int .i64 y]) (.agg #[.int .i64 a, .int .i64 b])).run P w = .ok (x == a && y == b) w := by
  rw [run_equalIn_array w 9999 _ _ hu hi, hC, show List.range 2 = [0, 1] from rfl]
  have pe : ∀ u v : Int, (Op.equalIn 9999 e (.int .i64 u) (.int .i64 v)).run P w = .ok (u == v) w := fun u v => run_equalIn_int w 9998 e .i64 .i64 u v he
  have p0 := fun (x y : Int) => part0 he #[.int .i64 x, .int .i64 y] (0 * 1) (.int .i64 x) rfl w
  have p1 := fun (x y : Int) => part0 he #[.int .i64 x, .int .i64 y] (1 * 1) (.int .i64 y) rfl w
  simp only [Op.eqItems, Sem.run_bind, p0, p1, pe, Result.andThen_ok, Sem.run_ite, Sem.run_pure]
  cases h1 : (x == a) <;> cases h2 : (y == b) <;> simp
theorem eqA4 {P : Program} {t e : TypeId} {i : TypeInfo} (hu : P.underlying t = some (.array 4 e)) (he : P.underlying e = some (.int .i64)) (hi : P.info? e = some i) (hC : P.cellsOf e = 1) (x y z u a b c d : Int) (w : World) :
    (Op.equalIn 10000 t (.agg #[.int .i64 x, .int .i64 y, .int .i64 z, .int .i64 u]) (.agg #[.int .i64 a, .int .i64 b, .int .i64 c, .int .i64 d])).run P w = .ok (x == a && (y == b && (z == c && u == d))) w := by
  rw [run_equalIn_array w 9999 _ _ hu hi, hC, show List.range 4 = [0, 1, 2, 3] from rfl]
  have pe : ∀ u v : Int, (Op.equalIn 9999 e (.int .i64 u) (.int .i64 v)).run P w = .ok (u == v) w := fun u v => run_equalIn_int w 9998 e .i64 .i64 u v he
  have p0 := fun (x y z u : Int) => part0 he #[.int .i64 x, .int .i64 y, .int .i64 z, .int .i64 u] (0 * 1) (.int .i64 x) rfl w
  have p1 := fun (x y z u : Int) => part0 he #[.int .i64 x, .int .i64 y, .int .i64 z, .int .i64 u] (1 * 1) (.int .i64 y) rfl w
  have p2 := fun (x y z u : Int) => part0 he #[.int .i64 x, .int .i64 y, .int .i64 z, .int .i64 u] (2 * 1) (.int .i64 z) rfl w
  have p3 := fun (x y z u : Int) => part0 he #[.int .i64 x, .int .i64 y, .int .i64 z, .int .i64 u] (3 * 1) (.int .i64 u) rfl w
  simp only [Op.eqItems, Sem.run_bind, p0, p1, p2, p3, pe, Result.andThen_ok, Sem.run_ite, Sem.run_pure]
  cases h1 : (x == a) <;> cases h2 : (y == b) <;> cases h3 : (z == c) <;> cases h4 : (u == d) <;> simp
theorem cellsW : Try.prog.cellsOf 3 = 1 := by kernel_rfl
theorem infoW : Try.prog.info? 3 = some (Try.prog.info? 3).get! := by kernel_rfl
theorem btW {w a b : World} (h : Below w.heap.size w a) (k : Below a.heap.size a b) : Below w.heap.size w b := h.trans (k.mono h.size)
theorem cells_lit {w w1 : World} {cs : Array Value} {t : TypeId} (hb : Below (w.alloc (.cells cs t)).heap.size (w.alloc (.cells cs t)) w1) : ∀ j v, cs[j]? = some v → w1.cell? ⟨w.heap.size, j, none⟩ = some v := fun j v hv =>
  (hb.cell (p := ⟨w.heap.size, j, none⟩) (by simp)).trans (by rw [World.cell?_alloc_new]; exact hv)
set_option maxHeartbeats 1000000 in
theorem law22_lives (w : World) : Calls Try.prog 45 #[] w fun e w' => e = .returned (.bool true) ∧ Below w.heap.size w w' := by
  have eq2 := fun (x y a b : Int) (w : World) => eqA2 Try.underlying60 Try.underlying3 infoW cellsW x y a b w
  have eq4 := fun (x y z u a b c d : Int) (w : World) => eqA4 Try.underlying61 Try.underlying3 infoW cellsW x y z u a b c d w
  go_enter Try.func45, Try.ntmps45
  go_wp2_with fail
  refine (out_live _).mono ?_
  rintro e w1 ⟨rfl, b1⟩
  have B1 := Lib.hid b1
  clear b1
  go_wp2_with fail
  refine (inside_live _).mono ?_
  rintro e w2 ⟨rfl, b2⟩
  have hz : w1.heap.size < w2.heap.size := by have := b2.size; simp at this; omega
  have c0 := cells_lit b2 0 (.int .i64 5) rfl
  have c1 := cells_lit b2 1 (.int .i64 5) rfl
  have B2 := Lib.hid (btW B1.out (Below.trans (show Below w1.heap.size w1 (w1.alloc (.cells #[.int .i64 5, .int .i64 5] 60)) by go_grown) (b2.mono (by simp))))
  clear b2
  go_wp2_with fail
  go_ret
  exact ⟨rfl, btW B2.out (by go_grown)⟩

/-- a window in a block of its own -/
def BoxW (B : Nat) (n0 n1 k0 k1 s0 s1 p0 p1 q0 q1 : Int) (w : World) : Prop := w.cell? ⟨B, 0, none⟩ = some (.int .i64 n0) ∧ w.cell? ⟨B, 1, none⟩ = some (.int .i64 n1) ∧ w.cell? ⟨B, 2, none⟩ = some (.int .i64 k0) ∧ w.cell? ⟨B, 3, none⟩ = some (.int .i64 k1) ∧ w.cell? ⟨B, 4, none⟩ = some (.int .i64 s0) ∧ w.cell? ⟨B, 5, none⟩ = some (.int .i64 s1) ∧ w.cell? ⟨B, 6, none⟩ = some (.int .i64 p0) ∧ w.cell? ⟨B, 7, none⟩ = some (.int .i64 p1) ∧ w.cell? ⟨B, 8, none⟩ = some (.int .i64 q0) ∧ w.cell? ⟨B, 9, none⟩ = some (.int .i64 q1) ∧ B < w.heap.size
theorem BoxW.later {B : Nat} {n0 n1 k0 k1 s0 s1 p0 p1 q0 q1 : Int} {w w' : World} (h : BoxW B n0 n1 k0 k1 s0 s1 p0 p1 q0 q1 w) (hb : Below w.heap.size w w') : BoxW B n0 n1 k0 k1 s0 s1 p0 p1 q0 q1 w' := by
  obtain ⟨h0, h1, h2, h3, h4, h5, h6, h7, h8, h9, hl⟩ := h
  exact ⟨(hb.cell hl).trans h0, (hb.cell hl).trans h1, (hb.cell hl).trans h2, (hb.cell hl).trans h3, (hb.cell hl).trans h4, (hb.cell hl).trans h5, (hb.cell hl).trans h6, (hb.cell hl).trans h7, (hb.cell hl).trans h8, (hb.cell hl).trans h9, Nat.lt_of_lt_of_le hl hb.size⟩
theorem boxW_new (w : World) (n0 n1 k0 k1 s0 s1 p0 p1 q0 q1 : Int) (t : TypeId) : BoxW w.heap.size n0 n1 k0 k1 s0 s1 p0 p1 q0 q1 (w.alloc (.cells #[.int .i64 n0, .int .i64 n1, .int .i64 k0, .int .i64 k1, .int .i64 s0, .int .i64 s1, .int .i64 p0, .int .i64 p1, .int .i64 q0, .int .i64 q1] t)) := by
  refine ⟨?_, ?_, ?_, ?_, ?_, ?_, ?_, ?_, ?_, ?_, by simp⟩ <;> (rw [World.cell?_alloc_new]; rfl)
set_option maxHeartbeats 2000000 in
theorem outs_no (n0 n1 k0 k1 s0 s1 p0 p1 q0 q1 : Int) (w : World) (hg : (gdW n0 k0 s0 p0 q0 && gdW n1 k1 s1 p1 q1) = false) :
    Calls Try.prog 14 #[.agg #[.int .i64 n0, .int .i64 n1, .int .i64 k0, .int .i64 k1, .int .i64 s0, .int .i64 s1, .int .i64 p0, .int .i64 p1, .int .i64 q0, .int .i64 q1]] w fun e w' => e = .returned (.bool true) ∧ Below w.heap.size w w' := by
  have OA := Lib.hid (out_any n0 n1 k0 k1 s0 s1 p0 p1 q0 q1)
  have GA := Lib.hid (good_any n0 n1 k0 k1 s0 s1 p0 p1 q0 q1)
  have HG := Lib.hid hg
  clear hg
  have eq2 := fun (x y a b : Int) (w : World) => eqA2 Try.underlying60 Try.underlying3 infoW cellsW x y a b w
  go_enter Try.func14, Try.ntmps14
  go_wp2_with fail
  refine (OA.out _).mono ?_
  unfold OutP
  rw [HG.out]
  simp only [Bool.false_eq_true, if_false]
  rintro e w1 ⟨rfl, b1⟩
  have BX := Lib.hid ((boxW_new w n0 n1 k0 k1 s0 s1 p0 p1 q0 q1 63).later b1)
  have B1 := Lib.hid (btW (show Below w.heap.size w (w.alloc (.cells #[.int .i64 n0, .int .i64 n1, .int .i64 k0, .int .i64 k1, .int .i64 s0, .int .i64 s1, .int .i64 p0, .int .i64 p1, .int .i64 q0, .int .i64 q1] 63)) by go_grown) b1)
  clear b1
  obtain ⟨h0, h1, h2, h3, h4, h5, h6, h7, h8, h9, hl⟩ := BX.out
  go_wp2_with fail
  refine (GA.out _).mono ?_
  rw [HG.out]
  rintro e w2 ⟨rfl, b2⟩
  have hz : w1.heap.size < w2.heap.size := by have := b2.size; simp at this; omega
  have c0 := cells_lit b2 0 (.int .i64 0) rfl
  have c1 := cells_lit b2 1 (.int .i64 0) rfl
  have B2 := Lib.hid (btW B1.out (Below.trans (show Below w1.heap.size w1 (w1.alloc (.cells #[.int .i64 0, .int .i64 0] 60)) by go_grown) (b2.mono (by simp))))
  clear b2 h0 h1 h2 h3 h4 h5 h6 h7 h8 h9
  go_wp2_with fail
  refine (law22_lives _).mono ?_
  rintro e w3 ⟨rfl, b3⟩
  have B3 := Lib.hid (btW B2.out b3)
  clear b3
  go_wp2_with fail
  go_ret
  exact ⟨rfl, B3.out⟩
set_option maxHeartbeats 4000000 in
theorem outs_yes (n0 n1 k0 k1 s0 s1 p0 p1 q0 q1 : Int) (w : World) (hg0 : gdW n0 k0 s0 p0 q0 = true) (hg1 : gdW n1 k1 s1 p1 q1 = true) :
    Calls Try.prog 14 #[.agg #[.int .i64 n0, .int .i64 n1, .int .i64 k0, .int .i64 k1, .int .i64 s0, .int .i64 s1, .int .i64 p0, .int .i64 p1, .int .i64 q0, .int .i64 q1]] w fun e w' => e = .returned (.bool true) ∧ Below w.heap.size w w' := by
  have OA := Lib.hid (out_any n0 n1 k0 k1 s0 s1 p0 p1 q0 q1)
  have GA := Lib.hid (good_any n0 n1 k0 k1 s0 s1 p0 p1 q0 q1)
  have RA := Lib.hid (rout_any n0 n1 k0 k1 s0 s1 p0 p1 q0 q1 · hg0 hg1)
  have HG := Lib.hid (show (gdW n0 k0 s0 p0 q0 && gdW n1 k1 s1 p1 q1) = true by rw [hg0, hg1]; rfl)
  obtain ⟨D0, hD0⟩ : ∃ D, odW n0 k0 s0 p0 q0 = D := ⟨_, rfl⟩
  obtain ⟨D1, hD1⟩ : ∃ D, odW n1 k1 s1 p1 q1 = D := ⟨_, rfl⟩
  rw [hD0, hD1] at OA RA
  clear hg0 hg1 hD0 hD1
  have eq2 := fun (x y a b : Int) (w : World) => eqA2 Try.underlying60 Try.underlying3 infoW cellsW x y a b w
  go_enter Try.func14, Try.ntmps14
  go_wp2_with fail
  refine (OA.out _).mono ?_
  unfold OutP
  rw [HG.out]
  simp only [if_true]
  rintro e w1 ⟨rfl, b1⟩
  have BX := Lib.hid ((boxW_new w n0 n1 k0 k1 s0 s1 p0 p1 q0 q1 63).later b1)
  have B1 := Lib.hid (btW (show Below w.heap.size w (w.alloc (.cells #[.int .i64 n0, .int .i64 n1, .int .i64 k0, .int .i64 k1, .int .i64 s0, .int .i64 s1, .int .i64 p0, .int .i64 p1, .int .i64 q0, .int .i64 q1] 63)) by go_grown) b1)
  clear b1
  obtain ⟨h0, h1, h2, h3, h4, h5, h6, h7, h8, h9, hl⟩ := BX.out
  go_wp2_with fail
  refine (GA.out _).mono ?_
  rw [HG.out]
  rintro e w2 ⟨rfl, b2⟩
  have bb := Below.trans (show Below w1.heap.size w1 (w1.alloc (.cells #[.int .i64 D0, .int .i64 D1] 60)) by go_grown) (b2.mono (by simp))
  have hS : w2.cell? ⟨w.heap.size, 0, none⟩ = some (.int .i64 n0) ∧ w2.cell? ⟨w.heap.size, 1, none⟩ = some (.int .i64 n1) ∧ w2.cell? ⟨w.heap.size, 2, none⟩ = some (.int .i64 k0) ∧ w2.cell? ⟨w.heap.size, 3, none⟩ = some (.int .i64 k1) ∧ w2.cell? ⟨w.heap.size, 4, none⟩ = some (.int .i64 s0) ∧ w2.cell? ⟨w.heap.size, 5, none⟩ = some (.int .i64 s1) ∧ w2.cell? ⟨w.heap.size, 6, none⟩ = some (.int .i64 p0) ∧ w2.cell? ⟨w.heap.size, 7, none⟩ = some (.int .i64 p1) ∧ w2.cell? ⟨w.heap.size, 8, none⟩ = some (.int .i64 q0) ∧ w2.cell? ⟨w.heap.size, 9, none⟩ = some (.int .i64 q1) ∧ w2.cell? ⟨w1.heap.size, 0, none⟩ = some (.int .i64 D0) ∧ w2.cell? ⟨w1.heap.size, 1, none⟩ = some (.int .i64 D1) ∧ w.heap.size < w2.heap.size ∧ w1.heap.size < w2.heap.size ∧ Below w.heap.size w w2 := by
    obtain ⟨x0, x1, x2, x3, x4, x5, x6, x7, x8, x9, xl⟩ := BX.out.later bb
    exact ⟨x0, x1, x2, x3, x4, x5, x6, x7, x8, x9, cells_lit b2 0 (.int .i64 D0) rfl, cells_lit b2 1 (.int .i64 D1) rfl, xl, by have := b2.size; simp at this; omega, btW B1.out bb⟩
  clear b2 bb h0 h1 h2 h3 h4 h5 h6 h7 h8 h9 hl
  have HS := Lib.hid hS
  obtain ⟨h0, h1, h2, h3, h4, h5, h6, h7, h8, h9, c0, c1, z0, z1, hB⟩ := hS
  have hS := HS.out
  clear hB
  go_wp2_with fail
  go_region_held3 (fun w' => w'.cell? ⟨w.heap.size, 0, none⟩ = some (.int .i64 n0) ∧ w'.cell? ⟨w.heap.size, 1, none⟩ = some (.int .i64 n1) ∧ w'.cell? ⟨w.heap.size, 2, none⟩ = some (.int .i64 k0) ∧ w'.cell? ⟨w.heap.size, 3, none⟩ = some (.int .i64 k1) ∧ w'.cell? ⟨w.heap.size, 4, none⟩ = some (.int .i64 s0) ∧ w'.cell? ⟨w.heap.size, 5, none⟩ = some (.int .i64 s1) ∧ w'.cell? ⟨w.heap.size, 6, none⟩ = some (.int .i64 p0) ∧ w'.cell? ⟨w.heap.size, 7, none⟩ = some (.int .i64 p1) ∧ w'.cell? ⟨w.heap.size, 8, none⟩ = some (.int .i64 q0) ∧ w'.cell? ⟨w.heap.size, 9, none⟩ = some (.int .i64 q1) ∧ w'.cell? ⟨w1.heap.size, 0, none⟩ = some (.int .i64 D0) ∧ w'.cell? ⟨w1.heap.size, 1, none⟩ = some (.int .i64 D1) ∧ w.heap.size < w'.heap.size ∧ w1.heap.size < w'.heap.size ∧ Below w.heap.size w w')
    (first | (with_reducible assumption) | (obtain ⟨s0, s1, s2, s3, s4, s5, s6, s7, s8, s9, s10, s11, s12, s13, s14⟩ := ‹_ ∧ _ ∧ _ ∧ _ ∧ _ ∧ _ ∧ _ ∧ _ ∧ _ ∧ _ ∧ _ ∧ _ ∧ _ ∧ _ ∧ Below w.heap.size w _›; exact ⟨(hbl.cell (by show w.heap.size < _; omega)).trans s0, (hbl.cell (by show w.heap.size < _; omega)).trans s1, (hbl.cell (by show w.heap.size < _; omega)).trans s2, (hbl.cell (by show w.heap.size < _; omega)).trans s3, (hbl.cell (by show w.heap.size < _; omega)).trans s4, (hbl.cell (by show w.heap.size < _; omega)).trans s5, (hbl.cell (by show w.heap.size < _; omega)).trans s6, (hbl.cell (by show w.heap.size < _; omega)).trans s7, (hbl.cell (by show w.heap.size < _; omega)).trans s8, (hbl.cell (by show w.heap.size < _; omega)).trans s9, (hbl.cell (by show w1.heap.size < _; omega)).trans s10, (hbl.cell (by show w1.heap.size < _; omega)).trans s11, Nat.lt_of_lt_of_le s12 hbl.size, Nat.lt_of_lt_of_le s13 hbl.size, s14.trans (hbl.mono s14.size)⟩) | (obtain ⟨s0, s1, s2, s3, s4, s5, s6, s7, s8, s9, s10, s11, s12, s13, s14⟩ := ‹_ ∧ _ ∧ _ ∧ _ ∧ _ ∧ _ ∧ _ ∧ _ ∧ _ ∧ _ ∧ _ ∧ _ ∧ _ ∧ _ ∧ Below w.heap.size w _›; exact ⟨(World.cell?_alloc_past _ _ _ (by omega)).trans s0, (World.cell?_alloc_past _ _ _ (by omega)).trans s1, (World.cell?_alloc_past _ _ _ (by omega)).trans s2, (World.cell?_alloc_past _ _ _ (by omega)).trans s3, (World.cell?_alloc_past _ _ _ (by omega)).trans s4, (World.cell?_alloc_past _ _ _ (by omega)).trans s5, (World.cell?_alloc_past _ _ _ (by omega)).trans s6, (World.cell?_alloc_past _ _ _ (by omega)).trans s7, (World.cell?_alloc_past _ _ _ (by omega)).trans s8, (World.cell?_alloc_past _ _ _ (by omega)).trans s9, (World.cell?_alloc_past _ _ _ (by omega)).trans s10, (World.cell?_alloc_past _ _ _ (by omega)).trans s11, Nat.lt_of_lt_of_le s12 (by simp), Nat.lt_of_lt_of_le s13 (by simp), s14.alloc s14.size _⟩) | (obtain ⟨s0, s1, s2, s3, s4, s5, s6, s7, s8, s9, s10, s11, s12, s13, s14⟩ := ‹_ ∧ _ ∧ _ ∧ _ ∧ _ ∧ _ ∧ _ ∧ _ ∧ _ ∧ _ ∧ _ ∧ _ ∧ _ ∧ _ ∧ Below w.heap.size w _›; exact ⟨s0, s1, s2, s3, s4, s5, s6, s7, s8, s9, s10, s11, s12, s13, s14.drew⟩) | (obtain ⟨s0, s1, s2, s3, s4, s5, s6, s7, s8, s9, s10, s11, s12, s13, s14⟩ := ‹_ ∧ _ ∧ _ ∧ _ ∧ _ ∧ _ ∧ _ ∧ _ ∧ _ ∧ _ ∧ _ ∧ _ ∧ _ ∧ _ ∧ Below w.heap.size w _›; exact ⟨(World.cell?_alloc_past _ _ _ (by omega)).trans s0, (World.cell?_alloc_past _ _ _ (by omega)).trans s1, (World.cell?_alloc_past _ _ _ (by omega)).trans s2, (World.cell?_alloc_past _ _ _ (by omega)).trans s3, (World.cell?_alloc_past _ _ _ (by omega)).trans s4, (World.cell?_alloc_past _ _ _ (by omega)).trans s5, (World.cell?_alloc_past _ _ _ (by omega)).trans s6, (World.cell?_alloc_past _ _ _ (by omega)).trans s7, (World.cell?_alloc_past _ _ _ (by omega)).trans s8, (World.cell?_alloc_past _ _ _ (by omega)).trans s9, (World.cell?_alloc_past _ _ _ (by omega)).trans s10, (World.cell?_alloc_past _ _ _ (by omega)).trans s11, Nat.lt_of_lt_of_le s12 (by simp), Nat.lt_of_lt_of_le s13 (by simp), (s14.alloc s14.size _).drew⟩) | (obtain ⟨s0, s1, s2, s3, s4, s5, s6, s7, s8, s9, s10, s11, s12, s13, s14⟩ := ‹_ ∧ _ ∧ _ ∧ _ ∧ _ ∧ _ ∧ _ ∧ _ ∧ _ ∧ _ ∧ _ ∧ _ ∧ _ ∧ _ ∧ Below w.heap.size w _›; exact ⟨s0, s1, s2, s3, s4, s5, s6, s7, s8, s9, s10, s11, s12, s13, s14⟩))
    (first
    | (go_at_call 46; refine (RA.out _).mono ?_; rintro e w9 ⟨rfl, hbl⟩)
    | (go_at_call 45; refine (law22_lives _).mono ?_; rintro e w9 ⟨rfl, hbl⟩))
  obtain ⟨_, _, _, _, _, _, _, _, _, _, _, _, _, _, hB⟩ := ‹_ ∧ _ ∧ _ ∧ _ ∧ _ ∧ _ ∧ _ ∧ _ ∧ _ ∧ _ ∧ _ ∧ _ ∧ _ ∧ _ ∧ Below w.heap.size w _›
  go_wp2
  go_ret
  exact ⟨rfl, hB⟩
theorem walk_WindowOuts (a0 a1 a2 a3 a4 a5 a6 a7 a8 a9 : Int) (w0 : (Lit.int .i64 a0).wf = true) (w1 : (Lit.int .i64 a1).wf = true) (w2 : (Lit.int .i64 a2).wf = true) (w3 : (Lit.int .i64 a3).wf = true) (w4 : (Lit.int .i64 a4).wf = true) (w5 : (Lit.int .i64 a5).wf = true) (w6 : (Lit.int .i64 a6).wf = true) (w7 : (Lit.int .i64 a7).wf = true) (w8 : (Lit.int .i64 a8).wf = true) (w9 : (Lit.int .i64 a9).wf = true) (w : World) :
    Calls Try.prog 14 #[.agg #[.int .i64 a0, .int .i64 a1, .int .i64 a2, .int .i64 a3, .int .i64 a4, .int .i64 a5, .int .i64 a6, .int .i64 a7, .int .i64 a8, .int .i64 a9]] w fun e w' => e = .returned (.bool true) ∧ Below w.heap.size w w' := by
  cases h0 : gdW a0 a2 a4 a6 a8
  · exact outs_no a0 a1 a2 a3 a4 a5 a6 a7 a8 a9 w (by rw [h0]; rfl)
  cases h1 : gdW a1 a3 a5 a7 a9
  · exact outs_no a0 a1 a2 a3 a4 a5 a6 a7 a8 a9 w (by rw [h1, Bool.and_false])
  exact outs_yes a0 a1 a2 a3 a4 a5 a6 a7 a8 a9 w h0 h1

theorem own : ownKnob Try.prog.godebug = none := by kernel_rfl
theorem laidOut : laidOutB Try.prog = true := by kernel_rfl
set_option maxRecDepth 100000 in
theorem lifted_WindowOuts (os : Os) (started : os.Started) (H : Type) (enc : TypeId × Value → H) :
    ReturnsInHanded {} Try.checked os 14 .any (Rows.windowOutsSpec.pre6 enc Try.prog Try.f14 Rows.windowOutsRow.domain false) (Rows.windowOutsSpec.post enc Try.prog Try.f14 false true false false) := by
  refine returnsInHanded_of_change (C := Try.checked) own started (by kernel_rfl) Try.func14
    (ChangeSpec.witness6 (enc := enc) (C := Try.checked) false ⟨#[], #[.agg #[.int .i64 0, .int .i64 0, .int .i64 0, .int .i64 0, .int .i64 0, .int .i64 0, .int .i64 0, .int .i64 0, .int .i64 0, .int .i64 0]], []⟩ 8 (by kernel_rfl) (by kernel_rfl) (by kernel_rfl) (by kernel_rfl)) ?_
  intro W base args ds gs before hval0 hW hcnd _
  have hval : ∀ (j : Nat) t v, Try.f14.params[j]? = some t → args[j]? = some v → Value.okWide Try.prog W .any base t v := hval0
  have hW' := hW
  obtain ⟨p, q, hA0, hV, rfl, hfz, hnd⟩ := hW
  have hA : DataW.TrodAll enc Try.prog W 0 (fun _ => true) true Try.f14.params.toList args.toList ds p := hA0
  rw [Try.params14] at hA hval
  obtain ⟨v0, vs0, d0, ds0, p0, q0, hargs, rfl, rfl, h0, r0⟩ := trodAll_cons hA
  obtain ⟨rfl, rfl, rfl⟩ := trodAll_nil r0
  obtain rfl : args = #[v0] := by cases args; simp_all
  obtain ⟨rfl, rfl⟩ := trodVars_none hV
  have k0 := h0
  have lt0 : ∀ x ∈ p0, x.block < W.heap.size := by obtain ⟨m, hm⟩ := k0; exact DataW.trod_lt m _ _ _ hm
  obtain ⟨zs0, zl0, rfl, zw0⟩ := flat_ints [.i64, .i64, .i64, .i64, .i64, .i64, .i64, .i64, .i64, .i64] (ts := [3, 3, 3, 3, 3, 3, 3, 3, 3, 3]) (Or.inl ⟨_, Try.underlying63⟩) (by kernel_rfl) (by kernel_rfl) (by kernel_rfl) (hval 0 63 v0 rfl rfl)
  obtain ⟨a0_0, a0_1, a0_2, a0_3, a0_4, a0_5, a0_6, a0_7, a0_8, a0_9, rfl⟩ := len10 zl0
  clear hA0 hval0
  refine (walk_WindowOuts a0_0 a0_1 a0_2 a0_3 a0_4 a0_5 a0_6 a0_7 a0_8 a0_9 (zw0 0 .i64 _ rfl rfl) (zw0 1 .i64 _ rfl rfl) (zw0 2 .i64 _ rfl rfl) (zw0 3 .i64 _ rfl rfl) (zw0 4 .i64 _ rfl rfl) (zw0 5 .i64 _ rfl rfl) (zw0 6 .i64 _ rfl rfl) (zw0 7 .i64 _ rfl rfl) (zw0 8 .i64 _ rfl rfl) (zw0 9 .i64 _ rfl rfl) W).mono fun e W' ⟨he, bel⟩ => ?_
  subst he
  exact ⟨_, rfl, _, _, _, [], _, [], hW', trodAll_mk1 (shut_bool Try.underlying4 _), (trodAll_cons_mk (Below.trod laidOut (by kernel_rfl) (of_decide_eq_true (by kernel_rfl)) k0 bel lt0) trodAll_mk0), rfl, bel.frame _, fun h => by cases h⟩

theorem holds_WindowOuts : Rows.WindowOutsSaid :=
  OpenClaim.holds_of_wide 14 Try.f14 rfl rfl rfl rfl rfl rfl rfl ⟨rfl, rfl, rfl, rfl, rfl⟩ rfl rfl rfl rfl rfl (by kernel_rfl) Try.func14 (by kernel_rfl)
    (of_decide_eq_true (by kernel_rfl)) (by unfold Func.isWrapper; first | (rw [if_pos (by decide +kernel)]; kernel_rfl) | (rw [if_neg (by decide +kernel)]; exact ⟨rfl, rfl⟩))
    (fun os started H enc _ => lifted_WindowOuts os started H enc)

end Go.Proofs.Ytedfekgacmfjkaa
