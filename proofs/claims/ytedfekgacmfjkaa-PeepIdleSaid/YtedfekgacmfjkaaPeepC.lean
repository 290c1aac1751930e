/- Contracts of the tidier's put where steps go together; of Tidy on the law's own steps. -/
import Derived.Test.YtedfekgacmfjkaaPeepB
namespace Go.Proofs.Ytedfekgacmfjkaa
open Go Go.RowKit
set_option linter.unusedVariables false

set_option maxRecDepth 100000 in
set_option maxHeartbeats 2000000 in
theorem put_idle (T : Nat) (a0 : Option Addr) (c0 : Nat) (o d a b i : Int) (w : World) (hT : T < w.heap.size)
    (cT : w.cell? ⟨T, 0, none⟩ = some (.slice a0 0 c0)) (hi : idleS ⟨o, d, a, b, i⟩ = true) :
    Calls Try.prog 71 #[.pointer (some ⟨T, 0, none⟩), .agg #[.int .i64 o, .int .i64 d, .int .i64 a, .int .i64 b, .int .i32 i]] w fun e w' => e = .returned (.tuple #[]) ∧ Below w.heap.size w w' := by
  have IA := Lib.hid (idle_any o d a b i)
  have IS := Lib.hid hi
  clear hi
  go_enter Try.func71, Try.ntmps71
  go_wp2_with fail
  refine (IA.out _).mono ?_
  rw [IS.out]
  rintro e w1 ⟨rfl, hb⟩
  have HB1 := Lib.hid (show Below w.heap.size w w1 from ((Below.refl w.heap.size w).alloc (Nat.le_refl _) _).trans (hb.mono (by simp)))
  clear hb
  go_wp2_with fail
  exact Go.Great.bodyPost_end0 (by rfl) (by rfl) ⟨rfl, HB1.out⟩

theorem join_lit (w : World) : Calls Try.prog 77 #[.agg #[.int .i64 13, .int .i64 1, .int .i64 1, .int .i64 0, .int .i32 2], .agg #[.int .i64 13, .int .i64 1, .int .i64 1, .int .i64 0, .int .i32 (-2)]] w fun e w' =>
    e = .returned (.tuple #[.agg #[.int .i64 13, .int .i64 1, .int .i64 1, .int .i64 0, .int .i32 0], .bool true]) ∧ Below w.heap.size w w' := by
  go_enter Try.func77, Try.ntmps77
  go_wp2_with fail
  go_returns
  exact ⟨rfl, by go_grown⟩

theorem own_back {w : World} {B g cap : Nat} {e : TypeId} {x : Q5} (own : w.ownsRow B e 5 (.slice (some ⟨g, 0, none⟩) 1 cap) 1 x.cells) : w.ownsRow B e 5 (.slice (some ⟨g, 0, none⟩) 0 cap) 0 [] := by
  rcases own.2 with ⟨h, _⟩ | ⟨g', cap', cur, h', hb, hg, hnc, hcm, hcs, _⟩
  · simp at h
  · simp at h'
    obtain ⟨rfl, rfl⟩ := h'
    exact ⟨rfl, Or.inr ⟨g, cap, cur, rfl, hb, hg, by omega, hcm, hcs, by simp⟩⟩

theorem put_back {T B b0 g cap : Nat} {w W : World} (hT : T < w.heap.size) (hb0 : b0 ≤ T) (hgT : g ≠ T)
    (cT : w.cell? ⟨T, 0, none⟩ = some (.slice (some ⟨g, 0, none⟩) 1 cap)) (fT : w.frozen? ⟨T, 0, none⟩ = false) (own : w.ownsRow B 58 5 (.slice (some ⟨g, 0, none⟩) 0 cap) 0 []) (hW : Below w.heap.size w W) :
    Calls Try.prog 71 #[.pointer (some ⟨T, 0, none⟩), .agg #[.int .i64 13, .int .i64 1, .int .i64 1, .int .i64 0, .int .i32 0]] (W.setCell ⟨T, 0, none⟩ (.slice (some ⟨g, 0, none⟩) 0 cap)) fun e w' => e = .returned (.tuple #[]) ∧
      w'.cell? ⟨T, 0, none⟩ = some (.slice (some ⟨g, 0, none⟩) 0 cap) ∧ w'.frozen? ⟨T, 0, none⟩ = false ∧ w'.ownsRow B 58 5 (.slice (some ⟨g, 0, none⟩) 0 cap) 0 [] ∧ Below b0 w w' := by
  have hs := hW.size
  have cW : W.cell? ⟨T, 0, none⟩ = some (.slice (some ⟨g, 0, none⟩) 1 cap) := (hW.cell (p := ⟨T, 0, none⟩) hT).trans cT
  have fW : W.frozen? ⟨T, 0, none⟩ = false := (hW.frozen (p := ⟨T, 0, none⟩) hT).trans fT
  have hsz : (W.setCell ⟨T, 0, none⟩ (.slice (some ⟨g, 0, none⟩) 0 cap)).heap.size = W.heap.size := by simp
  have cS : (W.setCell ⟨T, 0, none⟩ (.slice (some ⟨g, 0, none⟩) 0 cap)).cell? ⟨T, 0, none⟩ = some (.slice (some ⟨g, 0, none⟩) 0 cap) := by apply World.cell?_setCell_same; exact cW
  refine (put_idle T (some ⟨g, 0, none⟩) cap 13 1 1 0 0 _ (by omega) cS (by rfl)).mono ?_
  rintro e w3 ⟨rfl, hb⟩
  have hS : Below b0 w (W.setCell ⟨T, 0, none⟩ (.slice (some ⟨g, 0, none⟩) 0 cap)) := (hW.mono (by omega)).setCell hb0 _
  exact ⟨rfl, (hb.cell (p := ⟨T, 0, none⟩) (by show T < _; omega)).trans cS, (hb.frozen (p := ⟨T, 0, none⟩) (by show T < _; omega)).trans (by rw [World.frozen?_setCell]; exact fW),
    own_later (ownsRow_setCell_other (own_later own hW) (by simp [Value.ownBlock]; exact hgT) _) hb, hS.trans (hb.mono (by omega))⟩

theorem put_back2 {T B b0 g cap : Nat} {w W : World} {o : Obj} (hT : T < w.heap.size) (hb0 : b0 ≤ T) (hgT : g ≠ T)
    (cT : w.cell? ⟨T, 0, none⟩ = some (.slice (some ⟨g, 0, none⟩) 1 cap)) (fT : w.frozen? ⟨T, 0, none⟩ = false) (own : w.ownsRow B 58 5 (.slice (some ⟨g, 0, none⟩) 0 cap) 0 []) (hW : Below w.heap.size w W) :
    Calls Try.prog 71 #[.pointer (some ⟨T, 0, none⟩), .agg #[.int .i64 13, .int .i64 1, .int .i64 1, .int .i64 0, .int .i32 0]] ((W.setCell ⟨T, 0, none⟩ (.slice (some ⟨g, 0, none⟩) 0 cap)).alloc o) fun e w' => e = .returned (.tuple #[]) ∧
      w'.cell? ⟨T, 0, none⟩ = some (.slice (some ⟨g, 0, none⟩) 0 cap) ∧ w'.frozen? ⟨T, 0, none⟩ = false ∧ w'.ownsRow B 58 5 (.slice (some ⟨g, 0, none⟩) 0 cap) 0 [] ∧ Below b0 w w' := by
  have hs := hW.size
  have cW : W.cell? ⟨T, 0, none⟩ = some (.slice (some ⟨g, 0, none⟩) 1 cap) := (hW.cell (p := ⟨T, 0, none⟩) hT).trans cT
  have fW : W.frozen? ⟨T, 0, none⟩ = false := (hW.frozen (p := ⟨T, 0, none⟩) hT).trans fT
  have cS : (W.setCell ⟨T, 0, none⟩ (.slice (some ⟨g, 0, none⟩) 0 cap)).cell? ⟨T, 0, none⟩ = some (.slice (some ⟨g, 0, none⟩) 0 cap) := by apply World.cell?_setCell_same; exact cW
  have fS : (W.setCell ⟨T, 0, none⟩ (.slice (some ⟨g, 0, none⟩) 0 cap)).frozen? ⟨T, 0, none⟩ = false := by rw [World.frozen?_setCell]; exact fW
  have oS := ownsRow_setCell_other (own_later own hW) (a := ⟨T, 0, none⟩) (by simp [Value.ownBlock]; exact hgT) (.slice (some ⟨g, 0, none⟩) 0 cap)
  have hS : Below b0 w (W.setCell ⟨T, 0, none⟩ (.slice (some ⟨g, 0, none⟩) 0 cap)) := (hW.mono (by omega)).setCell hb0 _
  have hsz : (W.setCell ⟨T, 0, none⟩ (.slice (some ⟨g, 0, none⟩) 0 cap)).heap.size = W.heap.size := by simp
  generalize W.setCell ⟨T, 0, none⟩ (.slice (some ⟨g, 0, none⟩) 0 cap) = V at *
  have hTV : T < V.heap.size := by omega
  have cV : (V.alloc o).cell? ⟨T, 0, none⟩ = some (.slice (some ⟨g, 0, none⟩) 0 cap) := (World.cell?_alloc_past _ _ _ hTV).trans cS
  have fV : (V.alloc o).frozen? ⟨T, 0, none⟩ = false := (((Below.refl V.heap.size V).alloc (Nat.le_refl _) o).frozen (p := ⟨T, 0, none⟩) hTV).trans fS
  refine (put_idle T (some ⟨g, 0, none⟩) cap 13 1 1 0 0 _ (by simp; omega) cV (by rfl)).mono ?_
  rintro e w3 ⟨rfl, hb⟩
  exact ⟨rfl, (hb.cell (p := ⟨T, 0, none⟩) (by show T < (V.alloc o).heap.size; simp; omega)).trans cV, (hb.frozen (p := ⟨T, 0, none⟩) (by show T < (V.alloc o).heap.size; simp; omega)).trans fV,
    own_later (oS.alloc _) hb, (hS.alloc (by omega) _).trans (hb.mono (by simp; omega))⟩

set_option maxRecDepth 100000 in
set_option maxHeartbeats 2000000 in
theorem put_joined (T B b0 g cap : Nat) (w : World) (hT : T < w.heap.size) (hb0 : b0 ≤ T) (hg : g < w.heap.size) (hgT : g ≠ T) (hc1 : 1 ≤ cap) (hcap : cap ≤ 9223372036854775807)
    (cT : w.cell? ⟨T, 0, none⟩ = some (.slice (some ⟨g, 0, none⟩) 1 cap)) (fT : w.frozen? ⟨T, 0, none⟩ = false) (own : w.ownsRow B 58 5 (.slice (some ⟨g, 0, none⟩) 1 cap) 1 (Q5.cells ⟨13, 1, 1, 0, 2⟩)) :
    Calls Try.prog 71 #[.pointer (some ⟨T, 0, none⟩), .agg #[.int .i64 13, .int .i64 1, .int .i64 1, .int .i64 0, .int .i32 (-2)]] w fun e w' => e = .returned (.tuple #[]) ∧ w'.cell? ⟨T, 0, none⟩ = some (.slice (some ⟨g, 0, none⟩) 0 cap) ∧ w'.frozen? ⟨T, 0, none⟩ = false ∧
      w'.ownsRow B 58 5 (.slice (some ⟨g, 0, none⟩) 0 cap) 0 [] ∧ Below b0 w w' := by
  have c0 : w.cell? ⟨g, 0, none⟩ = some (.int .i64 13) := own.cellAt 0 (by omega)
  have c1 : w.cell? ⟨g, 1, none⟩ = some (.int .i64 1) := own.cellAt 1 (by omega)
  have c2 : w.cell? ⟨g, 2, none⟩ = some (.int .i64 1) := own.cellAt 2 (by omega)
  have c3 : w.cell? ⟨g, 3, none⟩ = some (.int .i64 0) := own.cellAt 3 (by omega)
  have c4 : w.cell? ⟨g, 4, none⟩ = some (.int .i32 2) := own.cellAt 4 (by omega)
  have OB := Lib.hid (own_back own)
  have J := Lib.hid join_lit
  clear own
  go_enter Try.func71, Try.ntmps71
  go_wp2_with fail
  obtain ⟨w1, hw1⟩ : ∃ w1, w1 = w.alloc (.cells #[.int .i64 13, .int .i64 1, .int .i64 1, .int .i64 0, .int .i32 (-2)] 58) := ⟨_, rfl⟩
  have hS : w1.cell? ⟨T, 0, none⟩ = some (.slice (some ⟨g, 0, none⟩) 1 cap) ∧ w1.cell? ⟨g, 0, none⟩ = some (.int .i64 13) ∧ w1.cell? ⟨g, 1, none⟩ = some (.int .i64 1) ∧ w1.cell? ⟨g, 2, none⟩ = some (.int .i64 1) ∧ w1.cell? ⟨g, 3, none⟩ = some (.int .i64 0) ∧ w1.cell? ⟨g, 4, none⟩ = some (.int .i32 2) ∧ w1.cell? ⟨w.heap.size, 0, none⟩ = some (.int .i64 13) ∧ w1.cell? ⟨w.heap.size, 1, none⟩ = some (.int .i64 1) ∧ w1.cell? ⟨w.heap.size, 2, none⟩ = some (.int .i64 1) ∧ w1.cell? ⟨w.heap.size, 3, none⟩ = some (.int .i64 0) ∧ w1.cell? ⟨w.heap.size, 4, none⟩ = some (.int .i32 (-2)) ∧ w.heap.size < w1.heap.size ∧ Below w.heap.size w w1 := by
    subst hw1
    exact ⟨(World.cell?_alloc_past _ _ _ hT).trans cT, (World.cell?_alloc_past _ _ _ hg).trans c0, (World.cell?_alloc_past _ _ _ hg).trans c1, (World.cell?_alloc_past _ _ _ hg).trans c2, (World.cell?_alloc_past _ _ _ hg).trans c3, (World.cell?_alloc_past _ _ _ hg).trans c4, by simp, by simp, by simp, by simp, by simp, by simp, by go_grown⟩
  rw [← hw1]
  clear hw1
  obtain ⟨k0, k1, k2, k3, k4, k5, k6, k7, k8, k9, k10, hz, hB⟩ := id hS
  have HB := Lib.hid hB
  clear hB c0 c1 c2 c3 c4
  clear hS
  have hT1 : T < w1.heap.size := by omega
  have hg1 : g < w1.heap.size := by omega
  have hf1 : w1.frozen? ⟨T, 0, none⟩ = false := (HB.out.frozen (p := ⟨T, 0, none⟩) (by show T < w.heap.size; omega)).trans fT
  go_region_with ((first | (go_at_call 77; refine (J.out _).mono ?_; rintro e w2 ⟨rfl, hbl⟩; have q0 : w2.cell? ⟨w1.heap.size, 0, none⟩ = some (.int .i64 0) := (hbl.cell (p := ⟨w1.heap.size, 0, none⟩) (by show w1.heap.size < (w1.alloc _).heap.size; simp)).trans ((World.cell?_alloc_new w1 _ _ _).trans rfl); have q1 : w2.cell? ⟨w1.heap.size, 1, none⟩ = some (.int .i64 0) := (hbl.cell (p := ⟨w1.heap.size, 1, none⟩) (by show w1.heap.size < (w1.alloc _).heap.size; simp)).trans ((World.cell?_alloc_new w1 _ _ _).trans rfl); have q2 : w2.cell? ⟨w1.heap.size, 2, none⟩ = some (.int .i64 0) := (hbl.cell (p := ⟨w1.heap.size, 2, none⟩) (by show w1.heap.size < (w1.alloc _).heap.size; simp)).trans ((World.cell?_alloc_new w1 _ _ _).trans rfl); have q3 : w2.cell? ⟨w1.heap.size, 3, none⟩ = some (.int .i64 0) := (hbl.cell (p := ⟨w1.heap.size, 3, none⟩) (by show w1.heap.size < (w1.alloc _).heap.size; simp)).trans ((World.cell?_alloc_new w1 _ _ _).trans rfl); have q4 : w2.cell? ⟨w1.heap.size, 4, none⟩ = some (.int .i32 0) := (hbl.cell (p := ⟨w1.heap.size, 4, none⟩) (by show w1.heap.size < (w1.alloc _).heap.size; simp)).trans ((World.cell?_alloc_new w1 _ _ _).trans rfl); have qf : ∀ j, w2.frozen? ⟨w1.heap.size, j, none⟩ = false := fun j => (hbl.frozen (p := ⟨w1.heap.size, j, none⟩) (by show w1.heap.size < (w1.alloc _).heap.size; simp)).trans (show (w1.alloc _).frozen? ⟨w1.heap.size, j, none⟩ = false by simp); have u0 : w2.cell? ⟨T, 0, none⟩ = some (.slice (some ⟨g, 0, none⟩) 1 cap) := (hbl.cell (p := ⟨T, 0, none⟩) (by show T < (w1.alloc _).heap.size; simp; omega)).trans ((World.cell?_alloc_past _ _ _ (by omega)).trans k0); have hx : Below w1.heap.size w1 w2 := Below.trans ((Below.refl w1.heap.size w1).alloc (Nat.le_refl _) _) ⟨hbl.os, hbl.tape, hbl.output, hbl.size, fun k hk => hbl.block k (by show k < (w1.alloc _).heap.size; simp; omega)⟩; have hlt2 : w1.heap.size < w2.heap.size := Nat.lt_of_lt_of_le (by show w1.heap.size < (w1.alloc _).heap.size; simp) hbl.size; have tf : w2.frozen? ⟨T, 0, none⟩ = false := (hx.frozen (p := ⟨T, 0, none⟩) (by show T < w1.heap.size; omega)).trans hf1; have hlt1 : w1.heap.size ≤ w2.heap.size := hx.size; have hT2 : T < w2.heap.size := by omega) | (go_at_call 77; refine (J.out _).mono ?_; rintro e w2 ⟨rfl, hbl⟩; have u0 : w2.cell? ⟨T, 0, none⟩ = some (.slice (some ⟨g, 0, none⟩) 1 cap) := (hbl.cell (p := ⟨T, 0, none⟩) (by show T < w1.heap.size; omega)).trans k0; have hx : Below w1.heap.size w1 w2 := ⟨hbl.os, hbl.tape, hbl.output, hbl.size, hbl.block⟩; have tf : w2.frozen? ⟨T, 0, none⟩ = false := (hx.frozen (p := ⟨T, 0, none⟩) (by show T < w1.heap.size; omega)).trans hf1; have hlt1 : w1.heap.size ≤ w2.heap.size := hx.size; have hT2 : T < w2.heap.size := by omega)))
  all_goals go_wp2_with fail
  all_goals
    have hB2 : Below w.heap.size w w2 := HB.out.trans (hx.mono HB.out.size)
    first
    | (refine Calls.mono (put_back hT hb0 hgT cT fT OB.out ?hw) ?_; case hw => go_grown)
    | (refine Calls.mono (put_back2 hT hb0 hgT cT fT OB.out ?hw) ?_; case hw => go_grown)
    rintro e w3 ⟨rfl, h3⟩
    go_wp2_with fail
    first | exact Go.Great.bodyPost_end0 (by rfl) (by rfl) ⟨rfl, h3⟩ | (go_returns; exact ⟨rfl, h3⟩)
end Go.Proofs.Ytedfekgacmfjkaa
