/- The statement WindowInside of layer 22 (where kernels lie): it returns true for all inputs. -/
import Derived.Test.YtgemajmimjkgcaaRows
import Derived.Test.YtgemajmimjkgcaaWinL
import Derived.Test.YtgemajmimjkgcaaWinJ
import Derived.Test.YtgemajmimjkgcaaWinT
import Derived.Test.YtgemajmimjkgcaaOpen
import Derived.Deep.RegionHeld3
namespace Go.Proofs.Ytgemajmimjkgcaa
open Pl Go Go.RowKit Go.ChangeShapes Go.WideShapes Go.ChangeAt
set_option linter.unusedVariables false

theorem eqA2 {P : Program} {t e : TypeId} {i : TypeInfo} (hu : P.underlying t = some (.array 2 e)) (he : P.underlying e = some (.int .i64)) (hi : P.info? e = some i) (hC : P.cellsOf e = 1) (x y a b : Int) (w : World) :
    (Op.equalIn 10000 t (.agg #[.int .i64 x, .int .i64 y]) (.agg #[.int .i64 a, .int .i64 b])).run P w = .ok (x == a && y == b) w := by
  rw [run_equalIn_array w 9999 _ _ hu hi, hC, show List.range 2 = [0, 1] from rfl]
  have pe : ∀ u v : Int, (Op.equalIn 9999 e (.int .i64 u) (.int .i64 v)).run P w = .ok (u == v) w := fun u v => run_equalIn_int w 9998 e .i64 .i64 u v he
  have p0 := fun (x y : Int) => part0 he #[.int .i64 x, .int .i64 y] (0 * 1) (.int .i64 x) rfl w
  have p1 := fun (x y : Int) => part0 he #[.int .i64 x, .int .i64 y] (1 * 1) (.int .i64 y) rfl w
  simp only [Op.eqItems, Sem.run_bind, p0, p1, pe, Result.andThen_ok, Sem.run_ite, Sem.run_pure]
  cases h1 : (x == a) <;> cases h2 : (y == b) <;> simp
theorem eqA4 {P : Program} {t e : TypeId} {i : TypeInfo} (hu : P.underlying t = some (.array 4 e)) (he : P.underlying e = some (.int .i64)) (hi : P.info? e = some i) (hC : P.cellsOf e = 1) (x y z u a b c d : Int) (w : World) :
    (Op.equalIn 10000 t (.agg #[.int .i64 x, .int .i64 y, .int .i64 z, .int .i64 u]) (.agg #[.int .i64 a, .int .i64 b, .int .i64 c, .int .i64 d])).run P w = .ok (x == a && (y == b && (z == c && u == d))) w := by
  rw [run_equalIn_array w 9999 _ _ hu hi, hC, show List.range 4 = [0, 1, 2, 3] from rfl]
  have pe : ∀ u v : Int, (Op.equalIn 9999 e (.int .i64 u) (.int .i64 v)).run P w = .ok (u == v) w := fun u v => run_equalIn_int w 9998 e .i64 .i64 u v he
  have p0 := fun (x y z u : Int) => part0 he #[.int .i64 x, .int .i64 y, .int .i64 z, .int .i64 u] (0 * 1) (.int .i64 x) rfl w
  have p1 := fun (x y z u : Int) => part0 he #[.int .i64 x, .int .i64 y, .int .i64 z, .int .i64 u] (1 * 1) (.int .i64 y) rfl w
  have p2 := fun (x y z u : Int) => part0 he #[.int .i64 x, .int .i64 y, .int .i64 z, .int .i64 u] (2 * 1) (.int .i64 z) rfl w
  have p3 := fun (x y z u : Int) => part0 he #[.int .i64 x, .int .i64 y, .int .i64 z, .int .i64 u] (3 * 1) (.int .i64 u) rfl w
  simp only [Op.eqItems, Sem.run_bind, p0, p1, p2, p3, pe, Result.andThen_ok, Sem.run_ite, Sem.run_pure]
  cases h1 : (x == a) <;> cases h2 : (y == b) <;> cases h3 : (z == c) <;> cases h4 : (u == d) <;> simp
theorem cellsW : Try.prog.cellsOf 3 = 1 := by kernel_rfl
theorem infoW : Try.prog.info? 3 = some (Try.prog.info? 3).get! := by kernel_rfl
theorem btW {w a b : World} (h : Below w.heap.size w a) (k : Below a.heap.size a b) : Below w.heap.size w b := h.trans (k.mono h.size)
theorem cells_lit {w w1 : World} {cs : Array Value} {t : TypeId} (hb : Below (w.alloc (.cells cs t)).heap.size (w.alloc (.cells cs t)) w1) : ∀ j v, cs[j]? = some v → w1.cell? ⟨w.heap.size, j, none⟩ = some v := fun j v hv =>
  (hb.cell (p := ⟨w.heap.size, j, none⟩) (by simp)).trans (by rw [World.cell?_alloc_new]; exact hv)
set_option maxHeartbeats 1000000 in
theorem law22_lives (w : World) : Calls Try.prog 17 #[] w fun e w' => e = .returned (.bool true) ∧ Below w.heap.size w w' := by
  have eq2 := fun (x y a b : Int) (w : World) => eqA2 Try.underlying22 Try.underlying3 infoW cellsW x y a b w
  have eq4 := fun (x y z u a b c d : Int) (w : World) => eqA4 Try.underlying23 Try.underlying3 infoW cellsW x y z u a b c d w
  go_enter Try.func17, Try.ntmps17
  go_wp2_with fail
  refine (out_live _).mono ?_
  rintro e w1 ⟨rfl, b1⟩
  have B1 := Lib.hid b1
  clear b1
  go_wp2_with fail
  refine (inside_live _).mono ?_
  rintro e w2 ⟨rfl, b2⟩
  have hz : w1.heap.size < w2.heap.size := by have := b2.size; simp at this; omega
  have c0 := cells_lit b2 0 (.int .i64 5) rfl
  have c1 := cells_lit b2 1 (.int .i64 5) rfl
  have B2 := Lib.hid (btW B1.out (Below.trans (show Below w1.heap.size w1 (w1.alloc (.cells #[.int .i64 5, .int .i64 5] 22)) by go_grown) (b2.mono (by simp))))
  clear b2
  go_wp2_with fail
  go_ret
  exact ⟨rfl, btW B2.out (by go_grown)⟩

/-- a window in a block of its own -/
def BoxW (B : Nat) (n0 n1 k0 k1 s0 s1 p0 p1 q0 q1 : Int) (w : World) : Prop := w.cell? ⟨B, 0, none⟩ = some (.int .i64 n0) ∧ w.cell? ⟨B, 1, none⟩ = some (.int .i64 n1) ∧ w.cell? ⟨B, 2, none⟩ = some (.int .i64 k0) ∧ w.cell? ⟨B, 3, none⟩ = some (.int .i64 k1) ∧ w.cell? ⟨B, 4, none⟩ = some (.int .i64 s0) ∧ w.cell? ⟨B, 5, none⟩ = some (.int .i64 s1) ∧ w.cell? ⟨B, 6, none⟩ = some (.int .i64 p0) ∧ w.cell? ⟨B, 7, none⟩ = some (.int .i64 p1) ∧ w.cell? ⟨B, 8, none⟩ = some (.int .i64 q0) ∧ w.cell? ⟨B, 9, none⟩ = some (.int .i64 q1) ∧ B < w.heap.size
theorem BoxW.later {B : Nat} {n0 n1 k0 k1 s0 s1 p0 p1 q0 q1 : Int} {w w' : World} (h : BoxW B n0 n1 k0 k1 s0 s1 p0 p1 q0 q1 w) (hb : Below w.heap.size w w') : BoxW B n0 n1 k0 k1 s0 s1 p0 p1 q0 q1 w' := by
  obtain ⟨h0, h1, h2, h3, h4, h5, h6, h7, h8, h9, hl⟩ := h
  exact ⟨(hb.cell hl).trans h0, (hb.cell hl).trans h1, (hb.cell hl).trans h2, (hb.cell hl).trans h3, (hb.cell hl).trans h4, (hb.cell hl).trans h5, (hb.cell hl).trans h6, (hb.cell hl).trans h7, (hb.cell hl).trans h8, (hb.cell hl).trans h9, Nat.lt_of_lt_of_le hl hb.size⟩
theorem boxW_new (w : World) (n0 n1 k0 k1 s0 s1 p0 p1 q0 q1 : Int) (t : TypeId) : BoxW w.heap.size n0 n1 k0 k1 s0 s1 p0 p1 q0 q1 (w.alloc (.cells #[.int .i64 n0, .int .i64 n1, .int .i64 k0, .int .i64 k1, .int .i64 s0, .int .i64 s1, .int .i64 p0, .int .i64 p1, .int .i64 q0, .int .i64 q1] t)) := by
  refine ⟨?_, ?_, ?_, ?_, ?_, ?_, ?_, ?_, ?_, ?_, by simp⟩ <;> (rw [World.cell?_alloc_new]; rfl)
set_option maxRecDepth 100000 in
set_option maxHeartbeats 4000000 in
theorem inside_yes (n0 n1 k0 k1 s0 s1 p0 p1 q0 q1 : Int) (w : World) (hg0 : gdW n0 k0 s0 p0 q0 = true) (hg1 : gdW n1 k1 s1 p1 q1 = true) :
    Calls Try.prog 4 #[.agg #[.int .i64 n0, .int .i64 n1, .int .i64 k0, .int .i64 k1, .int .i64 s0, .int .i64 s1, .int .i64 p0, .int .i64 p1, .int .i64 q0, .int .i64 q1]] w fun e w' => e = .returned (.bool true) ∧ Below w.heap.size w w' := by
  have IA := Lib.hid (ins_good n0 n1 k0 k1 s0 s1 p0 p1 q0 q1 · hg0 hg1)
  have GA := Lib.hid (good_any n0 n1 k0 k1 s0 s1 p0 p1 q0 q1)
  have RA := Lib.hid (rout_any n0 n1 k0 k1 s0 s1 p0 p1 q0 q1 · hg0 hg1)
  have HG := Lib.hid (show (gdW n0 k0 s0 p0 q0 && gdW n1 k1 s1 p1 q1) = true by rw [hg0, hg1]; rfl)
  have f0 := gdW_o hg0
  have f1 := gdW_o hg1
  have x0 := od_bd hg0
  have x1 := od_bd hg1
  have TA := Lib.hid (fun y x w hy hx => rtaps_any n0 n1 k0 k1 s0 s1 p0 p1 q0 q1 y x w (by omega) (by omega) (by omega) (by omega) (by omega) (by omega) hy hx)
  have KB := kk_bd (k0 := k0) (k1 := k1) (by omega) (by omega)
  have uK := IntWalk.i64_in (k0 * k1) (by omega)
  obtain ⟨D0, hD0⟩ : ∃ D, odW n0 k0 s0 p0 q0 = D := ⟨_, rfl⟩
  obtain ⟨D1, hD1⟩ : ∃ D, odW n1 k1 s1 p1 q1 = D := ⟨_, rfl⟩
  rw [hD0] at IA RA x0
  rw [hD1] at IA RA x1
  have DB : 1 ≤ D0 * D1 ∧ D0 * D1 ≤ 1002001 := by
    have p := Int.mul_le_mul x0.1 x1.1 (by omega) (by omega)
    have q := Int.mul_le_mul x0.2 x1.2 (by omega) (by omega)
    omega
  have uD := IntWalk.i64_in (D0 * D1) (by omega)
  obtain ⟨M, hM⟩ : ∃ M : Nat, D0 * D1 = M := ⟨(D0 * D1).toNat, by omega⟩
  have hMb : 1 ≤ M ∧ M ≤ 1002001 := by omega
  have HM := Lib.hid hM
  have nD1 : (D1 == 0) = false := by simp; omega
  clear hg0 hg1 hD0 hD1 f0 f1 hM
  go_enter Try.func4, Try.ntmps4
  go_wp2_with fail
  refine (IA.out _).mono ?_
  rintro e w1 ⟨⟨a, b, c, d, rfl, hI⟩, b1⟩
  have HI := Lib.hid hI.1
  have hb0 := hI.2.1
  have hd1 := hI.2.2
  have BX := Lib.hid ((boxW_new w n0 n1 k0 k1 s0 s1 p0 p1 q0 q1 25).later b1)
  have B1 := Lib.hid (btW (show Below w.heap.size w (w.alloc (.cells #[.int .i64 n0, .int .i64 n1, .int .i64 k0, .int .i64 k1, .int .i64 s0, .int .i64 s1, .int .i64 p0, .int .i64 p1, .int .i64 q0, .int .i64 q1] 25)) by go_grown) b1)
  clear b1 hI
  obtain ⟨h0, h1, h2, h3, h4, h5, h6, h7, h8, h9, hl⟩ := BX.out
  go_wp2_with fail
  refine (GA.out _).mono ?_
  rw [HG.out]
  rintro e w2 ⟨rfl, b2⟩
  have I0 := Lib.hid (cells_lit b2)
  have bb := Below.trans (show Below w1.heap.size w1 (w1.alloc (.cells #[.int .i64 a, .int .i64 b, .int .i64 c, .int .i64 d] 23)) by go_grown) (b2.mono (by simp))
  have zi : w1.heap.size < w2.heap.size := by have := b2.size; simp at this; omega
  have BX2 := Lib.hid (BX.out.later bb)
  have B2 := Lib.hid (btW B1.out bb)
  clear b2 bb h0 h1 h2 h3 h4 h5 h6 h7 h8 h9 hl
  obtain ⟨h0, h1, h2, h3, h4, h5, h6, h7, h8, h9, hl⟩ := BX2.out
  go_wp2_with fail
  refine (RA.out _).mono ?_
  rintro e w3 ⟨rfl, b3⟩
  have hS : (w3.alloc (.cells #[.int .i64 D0, .int .i64 D1] 22)).cell? ⟨w.heap.size, 0, none⟩ = some (.int .i64 n0) ∧ (w3.alloc (.cells #[.int .i64 D0, .int .i64 D1] 22)).cell? ⟨w.heap.size, 1, none⟩ = some (.int .i64 n1) ∧ (w3.alloc (.cells #[.int .i64 D0, .int .i64 D1] 22)).cell? ⟨w.heap.size, 2, none⟩ = some (.int .i64 k0) ∧ (w3.alloc (.cells #[.int .i64 D0, .int .i64 D1] 22)).cell? ⟨w.heap.size, 3, none⟩ = some (.int .i64 k1) ∧ (w3.alloc (.cells #[.int .i64 D0, .int .i64 D1] 22)).cell? ⟨w.heap.size, 4, none⟩ = some (.int .i64 s0) ∧ (w3.alloc (.cells #[.int .i64 D0, .int .i64 D1] 22)).cell? ⟨w.heap.size, 5, none⟩ = some (.int .i64 s1) ∧ (w3.alloc (.cells #[.int .i64 D0, .int .i64 D1] 22)).cell? ⟨w.heap.size, 6, none⟩ = some (.int .i64 p0) ∧ (w3.alloc (.cells #[.int .i64 D0, .int .i64 D1] 22)).cell? ⟨w.heap.size, 7, none⟩ = some (.int .i64 p1) ∧ (w3.alloc (.cells #[.int .i64 D0, .int .i64 D1] 22)).cell? ⟨w.heap.size, 8, none⟩ = some (.int .i64 q0) ∧ (w3.alloc (.cells #[.int .i64 D0, .int .i64 D1] 22)).cell? ⟨w.heap.size, 9, none⟩ = some (.int .i64 q1) ∧ (w3.alloc (.cells #[.int .i64 D0, .int .i64 D1] 22)).cell? ⟨w1.heap.size, 0, none⟩ = some (.int .i64 a) ∧ (w3.alloc (.cells #[.int .i64 D0, .int .i64 D1] 22)).cell? ⟨w1.heap.size, 1, none⟩ = some (.int .i64 b) ∧ (w3.alloc (.cells #[.int .i64 D0, .int .i64 D1] 22)).cell? ⟨w1.heap.size, 2, none⟩ = some (.int .i64 c) ∧ (w3.alloc (.cells #[.int .i64 D0, .int .i64 D1] 22)).cell? ⟨w1.heap.size, 3, none⟩ = some (.int .i64 d) ∧ (w3.alloc (.cells #[.int .i64 D0, .int .i64 D1] 22)).cell? ⟨w3.heap.size, 0, none⟩ = some (.int .i64 D0) ∧ (w3.alloc (.cells #[.int .i64 D0, .int .i64 D1] 22)).cell? ⟨w3.heap.size, 1, none⟩ = some (.int .i64 D1) ∧ w.heap.size < (w3.alloc (.cells #[.int .i64 D0, .int .i64 D1] 22)).heap.size ∧ w1.heap.size < (w3.alloc (.cells #[.int .i64 D0, .int .i64 D1] 22)).heap.size ∧ w3.heap.size < (w3.alloc (.cells #[.int .i64 D0, .int .i64 D1] 22)).heap.size ∧ Below (w3.alloc (.cells #[.int .i64 D0, .int .i64 D1] 22)).heap.size (w3.alloc (.cells #[.int .i64 D0, .int .i64 D1] 22)) (w3.alloc (.cells #[.int .i64 D0, .int .i64 D1] 22)) := by
    have bl : Below w2.heap.size w2 (w3.alloc (.cells #[.int .i64 D0, .int .i64 D1] 22)) := b3.alloc b3.size _
    obtain ⟨x0, x1, x2, x3, x4, x5, x6, x7, x8, x9, xl⟩ := BX2.out.later bl
    refine ⟨x0, x1, x2, x3, x4, x5, x6, x7, x8, x9, ?_, ?_, ?_, ?_, World.cell?_alloc_new .., World.cell?_alloc_new .., xl, Nat.lt_of_lt_of_le zi bl.size, by simp, Below.refl _ _⟩
    · exact (bl.cell (p := ⟨w1.heap.size, 0, none⟩) zi).trans (I0.out 0 _ rfl)
    · exact (bl.cell (p := ⟨w1.heap.size, 1, none⟩) zi).trans (I0.out 1 _ rfl)
    · exact (bl.cell (p := ⟨w1.heap.size, 2, none⟩) zi).trans (I0.out 2 _ rfl)
    · exact (bl.cell (p := ⟨w1.heap.size, 3, none⟩) zi).trans (I0.out 3 _ rfl)
  have HS := Lib.hid hS
  have FIN := Lib.hid (btW B2.out (show Below w2.heap.size w2 (w3.alloc (.cells #[.int .i64 D0, .int .i64 D1] 22)) from b3.alloc b3.size _))
  have l1 : decide (b ≤ D0) = true := by simp; omega
  have l3 : decide (d ≤ D1) = true := by simp; omega
  have MV := Lib.hid (show ∀ w' : World, Below (w3.alloc (.cells #[.int .i64 D0, .int .i64 D1] 22)).heap.size (w3.alloc (.cells #[.int .i64 D0, .int .i64 D1] 22)) w' → (w'.cell? ⟨w.heap.size, 0, none⟩ = some (.int .i64 n0) ∧ w'.cell? ⟨w.heap.size, 1, none⟩ = some (.int .i64 n1) ∧ w'.cell? ⟨w.heap.size, 2, none⟩ = some (.int .i64 k0) ∧ w'.cell? ⟨w.heap.size, 3, none⟩ = some (.int .i64 k1) ∧ w'.cell? ⟨w.heap.size, 4, none⟩ = some (.int .i64 s0) ∧ w'.cell? ⟨w.heap.size, 5, none⟩ = some (.int .i64 s1) ∧ w'.cell? ⟨w.heap.size, 6, none⟩ = some (.int .i64 p0) ∧ w'.cell? ⟨w.heap.size, 7, none⟩ = some (.int .i64 p1) ∧ w'.cell? ⟨w.heap.size, 8, none⟩ = some (.int .i64 q0) ∧ w'.cell? ⟨w.heap.size, 9, none⟩ = some (.int .i64 q1) ∧ w'.cell? ⟨w1.heap.size, 0, none⟩ = some (.int .i64 a) ∧ w'.cell? ⟨w1.heap.size, 1, none⟩ = some (.int .i64 b) ∧ w'.cell? ⟨w1.heap.size, 2, none⟩ = some (.int .i64 c) ∧ w'.cell? ⟨w1.heap.size, 3, none⟩ = some (.int .i64 d) ∧ w'.cell? ⟨w3.heap.size, 0, none⟩ = some (.int .i64 D0) ∧ w'.cell? ⟨w3.heap.size, 1, none⟩ = some (.int .i64 D1) ∧ w.heap.size < w'.heap.size ∧ w1.heap.size < w'.heap.size ∧ w3.heap.size < w'.heap.size ∧ Below (w3.alloc (.cells #[.int .i64 D0, .int .i64 D1] 22)).heap.size (w3.alloc (.cells #[.int .i64 D0, .int .i64 D1] 22)) w') from fun w' hbl => by
    obtain ⟨v0, v1, v2, v3, v4, v5, v6, v7, v8, v9, v10, v11, v12, v13, v14, v15, v16, v17, v18, v19⟩ := HS.out
    exact ⟨(hbl.cell (by show w.heap.size < _; omega)).trans v0, (hbl.cell (by show w.heap.size < _; omega)).trans v1, (hbl.cell (by show w.heap.size < _; omega)).trans v2, (hbl.cell (by show w.heap.size < _; omega)).trans v3, (hbl.cell (by show w.heap.size < _; omega)).trans v4, (hbl.cell (by show w.heap.size < _; omega)).trans v5, (hbl.cell (by show w.heap.size < _; omega)).trans v6, (hbl.cell (by show w.heap.size < _; omega)).trans v7, (hbl.cell (by show w.heap.size < _; omega)).trans v8, (hbl.cell (by show w.heap.size < _; omega)).trans v9, (hbl.cell (by show w1.heap.size < _; omega)).trans v10, (hbl.cell (by show w1.heap.size < _; omega)).trans v11, (hbl.cell (by show w1.heap.size < _; omega)).trans v12, (hbl.cell (by show w1.heap.size < _; omega)).trans v13, (hbl.cell (by show w3.heap.size < _; omega)).trans v14, (hbl.cell (by show w3.heap.size < _; omega)).trans v15, Nat.lt_of_lt_of_le v16 hbl.size, Nat.lt_of_lt_of_le v17 hbl.size, Nat.lt_of_lt_of_le v18 hbl.size, v19.trans (hbl.mono v19.size)⟩)
  clear b3 h0 h1 h2 h3 h4 h5 h6 h7 h8 h9 hl hS
  go_wp2_with fail
  go_loopw [6] (fun i wr => ∃ k : Nat, k ≤ M ∧ i = .int .i64 k ∧ Below (w3.alloc (.cells #[.int .i64 D0, .int .i64 D1] 22)).heap.size (w3.alloc (.cells #[.int .i64 D0, .int .i64 D1] 22)) wr) (fun i _ => M - (intOf i).toNat)
  case atStart => exact ⟨0, by omega, rfl, Below.refl _ _⟩
  case round =>
    obtain ⟨k, hk, rfl, hb⟩ := hrel
    obtain ⟨c0, c1, c2, c3, c4, c5, c6, c7, c8, c9, c10, c11, c12, c13, c14, c15, z0, z1, z2, hB⟩ := MV.out wr hb
    by_cases hlt : k < M
    · have t0 : decide ((k : Int) < D0 * D1) = true := by rw [HM.out]; simp; omega
      have YB : (0 ≤ (k : Int) / D1 ∧ (k : Int) / D1 < D0) ∧ (0 ≤ (k : Int) % D1 ∧ (k : Int) % D1 < D1) := by
        refine ⟨⟨Int.ediv_nonneg (by omega) (by omega), ?_⟩, Int.emod_nonneg _ (by omega), Int.emod_lt_of_pos _ (by omega)⟩
        exact (Int.ediv_lt_iff_lt_mul (by omega)).2 (by rw [HM.out]; omega)
      have u1 := IntWalk.i64_in ((k : Int) / D1) (by omega)
      have u2 := IntWalk.i64_in ((k : Int) % D1) (by omega)
      have u3 := IntWalk.i64_in ((k : Int) + 1) (by omega)
      have HB := Lib.hid hb
      clear hb hB
      go_wp2_with fail
      go_quiet (fail)
      have hS := MV.out _ (below_drewN HB.out nq)
      have HB3 := Lib.hid (below_drewN HB.out nq)
      generalize wr.drewN nq = W at *
      clear c0 c1 c2 c3 c4 c5 c6 c7 c8 c9 c10 c11 c12 c13 c14 c15 z0 z1 z2
      obtain ⟨c0, c1, c2, c3, c4, c5, c6, c7, c8, c9, c10, c11, c12, c13, c14, c15, z0, z1, z2, hB⟩ := MV.out W HB3.out
      clear hB
      have TY := Lib.hid (TA.out ((k : Int) / D1) ((k : Int) % D1) · (by omega) (by omega))
      have HE := Lib.hid (HI.out ((k : Int) / D1) ((k : Int) % D1) (by omega) (by omega) (by omega) (by omega))
      clear u1 u2
      go_wp2_with fail
      go_region_held3 (fun w' => w'.cell? ⟨w.heap.size, 0, none⟩ = some (.int .i64 n0) ∧ w'.cell? ⟨w.heap.size, 1, none⟩ = some (.int .i64 n1) ∧ w'.cell? ⟨w.heap.size, 2, none⟩ = some (.int .i64 k0) ∧ w'.cell? ⟨w.heap.size, 3, none⟩ = some (.int .i64 k1) ∧ w'.cell? ⟨w.heap.size, 4, none⟩ = some (.int .i64 s0) ∧ w'.cell? ⟨w.heap.size, 5, none⟩ = some (.int .i64 s1) ∧ w'.cell? ⟨w.heap.size, 6, none⟩ = some (.int .i64 p0) ∧ w'.cell? ⟨w.heap.size, 7, none⟩ = some (.int .i64 p1) ∧ w'.cell? ⟨w.heap.size, 8, none⟩ = some (.int .i64 q0) ∧ w'.cell? ⟨w.heap.size, 9, none⟩ = some (.int .i64 q1) ∧ w'.cell? ⟨w1.heap.size, 0, none⟩ = some (.int .i64 a) ∧ w'.cell? ⟨w1.heap.size, 1, none⟩ = some (.int .i64 b) ∧ w'.cell? ⟨w1.heap.size, 2, none⟩ = some (.int .i64 c) ∧ w'.cell? ⟨w1.heap.size, 3, none⟩ = some (.int .i64 d) ∧ w'.cell? ⟨w3.heap.size, 0, none⟩ = some (.int .i64 D0) ∧ w'.cell? ⟨w3.heap.size, 1, none⟩ = some (.int .i64 D1) ∧ w.heap.size < w'.heap.size ∧ w1.heap.size < w'.heap.size ∧ w3.heap.size < w'.heap.size ∧ Below (w3.alloc (.cells #[.int .i64 D0, .int .i64 D1] 22)).heap.size (w3.alloc (.cells #[.int .i64 D0, .int .i64 D1] 22)) w')
        (first | (with_reducible assumption) | (obtain ⟨v0, v1, v2, v3, v4, v5, v6, v7, v8, v9, v10, v11, v12, v13, v14, v15, v16, v17, v18, v19⟩ := ‹_ ∧ _ ∧ _ ∧ _ ∧ _ ∧ _ ∧ _ ∧ _ ∧ _ ∧ _ ∧ _ ∧ _ ∧ _ ∧ _ ∧ _ ∧ _ ∧ _ ∧ _ ∧ _ ∧ Below (w3.alloc (.cells #[.int .i64 D0, .int .i64 D1] 22)).heap.size (w3.alloc (.cells #[.int .i64 D0, .int .i64 D1] 22)) _›; exact ⟨(hbl.cell (by show w.heap.size < _; omega)).trans v0, (hbl.cell (by show w.heap.size < _; omega)).trans v1, (hbl.cell (by show w.heap.size < _; omega)).trans v2, (hbl.cell (by show w.heap.size < _; omega)).trans v3, (hbl.cell (by show w.heap.size < _; omega)).trans v4, (hbl.cell (by show w.heap.size < _; omega)).trans v5, (hbl.cell (by show w.heap.size < _; omega)).trans v6, (hbl.cell (by show w.heap.size < _; omega)).trans v7, (hbl.cell (by show w.heap.size < _; omega)).trans v8, (hbl.cell (by show w.heap.size < _; omega)).trans v9, (hbl.cell (by show w1.heap.size < _; omega)).trans v10, (hbl.cell (by show w1.heap.size < _; omega)).trans v11, (hbl.cell (by show w1.heap.size < _; omega)).trans v12, (hbl.cell (by show w1.heap.size < _; omega)).trans v13, (hbl.cell (by show w3.heap.size < _; omega)).trans v14, (hbl.cell (by show w3.heap.size < _; omega)).trans v15, Nat.lt_of_lt_of_le v16 hbl.size, Nat.lt_of_lt_of_le v17 hbl.size, Nat.lt_of_lt_of_le v18 hbl.size, v19.trans (hbl.mono v19.size)⟩) | (obtain ⟨v0, v1, v2, v3, v4, v5, v6, v7, v8, v9, v10, v11, v12, v13, v14, v15, v16, v17, v18, v19⟩ := ‹_ ∧ _ ∧ _ ∧ _ ∧ _ ∧ _ ∧ _ ∧ _ ∧ _ ∧ _ ∧ _ ∧ _ ∧ _ ∧ _ ∧ _ ∧ _ ∧ _ ∧ _ ∧ _ ∧ Below (w3.alloc (.cells #[.int .i64 D0, .int .i64 D1] 22)).heap.size (w3.alloc (.cells #[.int .i64 D0, .int .i64 D1] 22)) _›; exact ⟨v0, v1, v2, v3, v4, v5, v6, v7, v8, v9, v10, v11, v12, v13, v14, v15, v16, v17, v18, v19.drew⟩) | (obtain ⟨v0, v1, v2, v3, v4, v5, v6, v7, v8, v9, v10, v11, v12, v13, v14, v15, v16, v17, v18, v19⟩ := ‹_ ∧ _ ∧ _ ∧ _ ∧ _ ∧ _ ∧ _ ∧ _ ∧ _ ∧ _ ∧ _ ∧ _ ∧ _ ∧ _ ∧ _ ∧ _ ∧ _ ∧ _ ∧ _ ∧ Below (w3.alloc (.cells #[.int .i64 D0, .int .i64 D1] 22)).heap.size (w3.alloc (.cells #[.int .i64 D0, .int .i64 D1] 22)) _›; exact ⟨v0, v1, v2, v3, v4, v5, v6, v7, v8, v9, v10, v11, v12, v13, v14, v15, v16, v17, v18, v19⟩))
        (first | (go_at_call 20; refine (TY.out _).mono ?_; rintro e w9 ⟨⟨ta, tc, rfl⟩, hbl⟩))
      obtain ⟨v0, v1, v2, v3, v4, v5, v6, v7, v8, v9, v10, v11, v12, v13, v14, v15, v16, v17, v18, v19⟩ := ‹_ ∧ _ ∧ _ ∧ _ ∧ _ ∧ _ ∧ _ ∧ _ ∧ _ ∧ _ ∧ _ ∧ _ ∧ _ ∧ _ ∧ _ ∧ _ ∧ _ ∧ _ ∧ _ ∧ Below (w3.alloc (.cells #[.int .i64 D0, .int .i64 D1] 22)).heap.size (w3.alloc (.cells #[.int .i64 D0, .int .i64 D1] 22)) _›
      clear hS
      cases ha0 : decide (a ≤ (k : Int) / D1)
      · skip
        have he : (((cntB (tapB n0 n1 k1 s0 s1 p0 p1 ((k : Int) / D1) ((k : Int) % D1)) (k0 * k1).toNat : Nat) : Int) == k0 * k1) = false := by rw [HE.out, ha0]; rfl
        go_wp2_with fail
        exact ⟨⟨k + 1, by omega, rfl, v19⟩, by simp [intOf]; omega⟩
      · skip
        cases ha1 : decide ((k : Int) / D1 < b)
        · skip
          have he : (((cntB (tapB n0 n1 k1 s0 s1 p0 p1 ((k : Int) / D1) ((k : Int) % D1)) (k0 * k1).toNat : Nat) : Int) == k0 * k1) = false := by rw [HE.out, ha0, ha1]; rfl
          go_wp2_with fail
          exact ⟨⟨k + 1, by omega, rfl, v19⟩, by simp [intOf]; omega⟩
        · skip
          cases ha2 : decide (c ≤ (k : Int) % D1)
          · skip
            have he : (((cntB (tapB n0 n1 k1 s0 s1 p0 p1 ((k : Int) / D1) ((k : Int) % D1)) (k0 * k1).toNat : Nat) : Int) == k0 * k1) = false := by rw [HE.out, ha0, ha1, ha2]; rfl
            go_wp2_with fail
            exact ⟨⟨k + 1, by omega, rfl, v19⟩, by simp [intOf]; omega⟩
          · skip
            cases ha3 : decide ((k : Int) % D1 < d)
            · skip
              have he : (((cntB (tapB n0 n1 k1 s0 s1 p0 p1 ((k : Int) / D1) ((k : Int) % D1)) (k0 * k1).toNat : Nat) : Int) == k0 * k1) = false := by rw [HE.out, ha0, ha1, ha2, ha3]; rfl
              go_wp2_with fail
              exact ⟨⟨k + 1, by omega, rfl, v19⟩, by simp [intOf]; omega⟩
            · skip
              have he : (((cntB (tapB n0 n1 k1 s0 s1 p0 p1 ((k : Int) / D1) ((k : Int) % D1)) (k0 * k1).toNat : Nat) : Int) == k0 * k1) = true := by rw [HE.out, ha0, ha1, ha2, ha3]; rfl
              go_wp2_with fail
              exact ⟨⟨k + 1, by omega, rfl, v19⟩, by simp [intOf]; omega⟩
    · obtain rfl : M = k := by omega
      have t0 : decide ((M : Int) < D0 * D1) = false := by rw [HM.out]; simp
      have hS := MV.out wr hb
      clear hb hB
      obtain ⟨v0, v1, v2, v3, v4, v5, v6, v7, v8, v9, v10, v11, v12, v13, v14, v15, v16, v17, v18, v19⟩ := hS
      clear c0 c1 c2 c3 c4 c5 c6 c7 c8 c9 c10 c11 c12 c13 c14 c15 z0 z1 z2
      have FB := Lib.hid (FIN.out.trans (v19.mono FIN.out.size))
      clear v19
      go_wp2_with fail
      refine (law22_lives _).mono ?_
      rintro e w9 ⟨rfl, hbl⟩
      have FC := Lib.hid (btW FB.out hbl)
      clear hbl
      go_wp2_with fail
      go_ret
      exact ⟨rfl, FC.out⟩
set_option maxHeartbeats 2000000 in
theorem inside_no (n0 n1 k0 k1 s0 s1 p0 p1 q0 q1 : Int) (w : World) (hg : (gdW n0 k0 s0 p0 q0 && gdW n1 k1 s1 p1 q1) = false) :
    Calls Try.prog 4 #[.agg #[.int .i64 n0, .int .i64 n1, .int .i64 k0, .int .i64 k1, .int .i64 s0, .int .i64 s1, .int .i64 p0, .int .i64 p1, .int .i64 q0, .int .i64 q1]] w fun e w' => e = .returned (.bool true) ∧ Below w.heap.size w w' := by
  have IA := Lib.hid (ins_bad n0 n1 k0 k1 s0 s1 p0 p1 q0 q1 · hg)
  have GA := Lib.hid (good_any n0 n1 k0 k1 s0 s1 p0 p1 q0 q1)
  have HG := Lib.hid hg
  clear hg
  have eq4 := fun (x y z u a b c d : Int) (w : World) => eqA4 Try.underlying23 Try.underlying3 infoW cellsW x y z u a b c d w
  go_enter Try.func4, Try.ntmps4
  go_wp2_with fail
  refine (IA.out _).mono ?_
  rintro e w1 ⟨rfl, b1⟩
  have BX := Lib.hid ((boxW_new w n0 n1 k0 k1 s0 s1 p0 p1 q0 q1 25).later b1)
  have B1 := Lib.hid (btW (show Below w.heap.size w (w.alloc (.cells #[.int .i64 n0, .int .i64 n1, .int .i64 k0, .int .i64 k1, .int .i64 s0, .int .i64 s1, .int .i64 p0, .int .i64 p1, .int .i64 q0, .int .i64 q1] 25)) by go_grown) b1)
  clear b1
  obtain ⟨h0, h1, h2, h3, h4, h5, h6, h7, h8, h9, hl⟩ := BX.out
  go_wp2_with fail
  refine (GA.out _).mono ?_
  rw [HG.out]
  rintro e w2 ⟨rfl, b2⟩
  have hz : w1.heap.size < w2.heap.size := by have := b2.size; simp at this; omega
  have c0 := cells_lit b2 0 (.int .i64 0) rfl
  have c1 := cells_lit b2 1 (.int .i64 0) rfl
  have c2 := cells_lit b2 2 (.int .i64 0) rfl
  have c3 := cells_lit b2 3 (.int .i64 0) rfl
  have B2 := Lib.hid (btW B1.out (Below.trans (show Below w1.heap.size w1 (w1.alloc (.cells #[.int .i64 0, .int .i64 0, .int .i64 0, .int .i64 0] 23)) by go_grown) (b2.mono (by simp))))
  clear b2 h0 h1 h2 h3 h4 h5 h6 h7 h8 h9
  go_wp2_with fail
  refine (law22_lives _).mono ?_
  rintro e w3 ⟨rfl, b3⟩
  have B3 := Lib.hid (btW B2.out b3)
  clear b3
  go_wp2_with fail
  go_ret
  exact ⟨rfl, B3.out⟩
theorem walk_WindowInside (a0 a1 a2 a3 a4 a5 a6 a7 a8 a9 : Int) (w0 : (Lit.int .i64 a0).wf = true) (w1 : (Lit.int .i64 a1).wf = true) (w2 : (Lit.int .i64 a2).wf = true) (w3 : (Lit.int .i64 a3).wf = true) (w4 : (Lit.int .i64 a4).wf = true) (w5 : (Lit.int .i64 a5).wf = true) (w6 : (Lit.int .i64 a6).wf = true) (w7 : (Lit.int .i64 a7).wf = true) (w8 : (Lit.int .i64 a8).wf = true) (w9 : (Lit.int .i64 a9).wf = true) (w : World) :
    Calls Try.prog 4 #[.agg #[.int .i64 a0, .int .i64 a1, .int .i64 a2, .int .i64 a3, .int .i64 a4, .int .i64 a5, .int .i64 a6, .int .i64 a7, .int .i64 a8, .int .i64 a9]] w fun e w' => e = .returned (.bool true) ∧ Below w.heap.size w w' := by
  cases h0 : gdW a0 a2 a4 a6 a8
  · exact inside_no a0 a1 a2 a3 a4 a5 a6 a7 a8 a9 w (by rw [h0]; rfl)
  cases h1 : gdW a1 a3 a5 a7 a9
  · exact inside_no a0 a1 a2 a3 a4 a5 a6 a7 a8 a9 w (by rw [h1, Bool.and_false])
  exact inside_yes a0 a1 a2 a3 a4 a5 a6 a7 a8 a9 w h0 h1

theorem own : ownKnob Try.prog.godebug = none := by kernel_rfl
theorem laidOut : laidOutB Try.prog = true := by kernel_rfl
set_option maxRecDepth 100000 in
theorem lifted_WindowInside (os : Os) (started : os.Started) (H : Type) (enc : TypeId × Value → H) :
    ReturnsInHanded {} Try.checked os 4 .any (Rows.windowInsideSpec.pre6 enc Try.prog Try.f4 Rows.windowInsideRow.domain false) (Rows.windowInsideSpec.post enc Try.prog Try.f4 false true false false) := by
  refine returnsInHanded_of_change (C := Try.checked) own started (by kernel_rfl) Try.func4
    (ChangeSpec.witness6 (enc := enc) (C := Try.checked) false ⟨#[], #[.agg #[.int .i64 0, .int .i64 0, .int .i64 0, .int .i64 0, .int .i64 0, .int .i64 0, .int .i64 0, .int .i64 0, .int .i64 0, .int .i64 0]], []⟩ 8 (by kernel_rfl) (by kernel_rfl) (by kernel_rfl) (by kernel_rfl)) ?_
  intro W base args ds gs before hval0 hW hcnd _
  have hval : ∀ (j : Nat) t v, Try.f4.params[j]? = some t → args[j]? = some v → Value.okWide Try.prog W .any base t v := hval0
  have hW' := hW
  obtain ⟨p, q, hA0, hV, rfl, hfz, hnd⟩ := hW
  have hA : DataW.TrodAll enc Try.prog W 0 (fun _ => true) true Try.f4.params.toList args.toList ds p := hA0
  rw [Try.params4] at hA hval
  obtain ⟨v0, vs0, d0, ds0, p0, q0, hargs, rfl, rfl, h0, r0⟩ := trodAll_cons hA
  obtain ⟨rfl, rfl, rfl⟩ := trodAll_nil r0
  obtain rfl : args = #[v0] := by cases args; simp_all
  obtain ⟨rfl, rfl⟩ := trodVars_none hV
  have k0 := h0
  have lt0 : ∀ x ∈ p0, x.block < W.heap.size := by obtain ⟨m, hm⟩ := k0; exact DataW.trod_lt m _ _ _ hm
  obtain ⟨zs0, zl0, rfl, zw0⟩ := flat_ints [.i64, .i64, .i64, .i64, .i64, .i64, .i64, .i64, .i64, .i64] (ts := [3, 3, 3, 3, 3, 3, 3, 3, 3, 3]) (Or.inl ⟨_, Try.underlying25⟩) (by kernel_rfl) (by kernel_rfl) (by kernel_rfl) (hval 0 25 v0 rfl rfl)
  obtain ⟨a0_0, a0_1, a0_2, a0_3, a0_4, a0_5, a0_6, a0_7, a0_8, a0_9, rfl⟩ := len10 zl0
  clear hA0 hval0
  refine (walk_WindowInside a0_0 a0_1 a0_2 a0_3 a0_4 a0_5 a0_6 a0_7 a0_8 a0_9 (zw0 0 .i64 _ rfl rfl) (zw0 1 .i64 _ rfl rfl) (zw0 2 .i64 _ rfl rfl) (zw0 3 .i64 _ rfl rfl) (zw0 4 .i64 _ rfl rfl) (zw0 5 .i64 _ rfl rfl) (zw0 6 .i64 _ rfl rfl) (zw0 7 .i64 _ rfl rfl) (zw0 8 .i64 _ rfl rfl) (zw0 9 .i64 _ rfl rfl) W).mono fun e W' ⟨he, bel⟩ => ?_
  subst he
  exact ⟨_, rfl, _, _, _, [], _, [], hW', trodAll_mk1 (shut_bool Try.underlying4 _), (trodAll_cons_mk (Below.trod laidOut (by kernel_rfl) (of_decide_eq_true (by kernel_rfl)) k0 bel lt0) trodAll_mk0), rfl, bel.frame _, fun h => by cases h⟩

theorem holds_WindowInside : Rows.WindowInsideSaid :=
  OpenClaim.holds_of_wide 4 Try.f4 rfl rfl rfl rfl rfl rfl rfl ⟨rfl, rfl, rfl, rfl, rfl⟩ rfl rfl rfl rfl rfl (by kernel_rfl) Try.func4 (by kernel_rfl)
    (of_decide_eq_true (by kernel_rfl)) (by unfold Func.isWrapper; first | (rw [if_pos (by decide +kernel)]; kernel_rfl) | (rw [if_neg (by decide +kernel)]; exact ⟨rfl, rfl⟩))
    (fun os started H enc _ => lifted_WindowInside os started H enc)

end Go.Proofs.Ytgemajmimjkgcaa
