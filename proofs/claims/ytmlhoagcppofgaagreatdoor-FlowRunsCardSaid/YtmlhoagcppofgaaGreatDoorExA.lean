/- Package exec: steps, and the iterator that it makes. -/
import Derived.Test.YtmlhoagcppofgaaGreatDoorGX
import Derived.Test.YtmlhoagcppofgaaGreatDoorGY
namespace Go.Proofs.YtmlhoagcppofgaaGreatDoor
open Go Go.RowKit Go.Shelf Pl
set_option linter.unusedVariables false

/-- the program's machine alone, over what lay before w -/
structure Solo (w : World) (M F R C : Nat) (Fb : List Nat) (s : MSt) (W : World) : Prop where
  mach : MachIs C M s.pc s.r W
  mem : MemIs M F R 4096 2147483648 Fb s.b W
  lf : Fb.length = 256
  ls : s.b.length = 128
  lo : w.heap.size ≤ M ∧ w.heap.size ≤ F ∧ w.heap.size ≤ R ∧ w.heap.size ≤ C
  ne : C ≠ M ∧ C ≠ F ∧ C ≠ R
  bl : Below w.heap.size w W
theorem Solo.out {w : World} {M F R C : Nat} {Fb : List Nat} {s : MSt} {S : Nat → Prop} {W W' : World} (h : Solo w M F R C Fb s W) (ho : Out S W W') (hS : ∀ j, S j → w.heap.size ≤ j ∧ j ≠ M ∧ j ≠ F ∧ j ≠ R ∧ j ≠ C) : Solo w M F R C Fb s W' :=
  { mach := h.mach.out ho (fun g => (hS _ g).2.2.2.2 rfl), mem := h.mem.out ho (fun g => (hS _ g).2.1 rfl) (fun g => (hS _ g).2.2.1 rfl) (fun g => (hS _ g).2.2.2.1 rfl), lf := h.lf, ls := h.ls, lo := h.lo, ne := h.ne, bl := ho.below h.bl (Nat.le_refl _) fun j g => (hS j g).1 }
theorem Solo.below {w : World} {M F R C : Nat} {Fb : List Nat} {s : MSt} {W W' : World} (h : Solo w M F R C Fb s W) (hb : Below W.heap.size W W') : Solo w M F R C Fb s W' := h.out (.of_below (fun _ => False) hb) (fun _ g => g.elim)
theorem Solo.lts {w : World} {M F R C : Nat} {Fb : List Nat} {s : MSt} {W : World} (h : Solo w M F R C Fb s W) : M < W.heap.size ∧ F < W.heap.size ∧ R < W.heap.size ∧ C < W.heap.size := ⟨h.mem.lts.1, h.mem.lts.2.1, h.mem.lts.2.2, h.mach.lt⟩
theorem Solo.step {w : World} {M F R C : Nat} {Fb : List Nat} {s : MSt} {W : World} (h : Solo w M F R C Fb s W) (ht : T3 w) :
    Calls Tryz.prog 35 #[.pointer (some ⟨C, 0, none⟩)] W fun e w' => e = .returned (.tuple #[(stepM 4096 2147483648 Fb s).e.v, .int .i64 (stepM 4096 2147483648 Fb s).t]) ∧ Solo w M F R C Fb (stepM 4096 2147483648 Fb s).s w' ∧ Out (fun j => j = C ∨ j = R) W w' := by
  have hb : Banks 4096 Fb.length 2147483648 s.b.length := by rw [h.lf, h.ls]; exact banks_map
  refine (step_any h.mach h.mem hb h.ne (ht.later h.bl)).mono ?_
  rintro e w' ⟨rfl, k1, k2, k3⟩
  exact ⟨rfl, { mach := k1, mem := k2, lf := h.lf, ls := by rw [stepM_len]; exact h.ls, lo := h.lo, ne := h.ne, bl := k3.below h.bl (Nat.le_refl _) fun j g => by have := h.lo; omega }, k3⟩
/-- a cell that can be written -/
structure CellIs (b : Nat) (v : Value) (W : World) : Prop where
  c : W.cell? ⟨b, 0, none⟩ = some v
  f : W.frozen? ⟨b, 0, none⟩ = false
  lt : b < W.heap.size
theorem CellIs.out {b : Nat} {v : Value} {S : Nat → Prop} {W W' : World} (h : CellIs b v W) (ho : Out S W W') (hb : ¬ S b) : CellIs b v W' :=
  ⟨(ho.cell (p := ⟨b, 0, none⟩) h.lt hb).trans h.c, (World.frozen?_of_block (a := ⟨b, 0, none⟩) (ho.block b h.lt hb)).trans h.f, Nat.lt_of_lt_of_le h.lt ho.size⟩
theorem CellIs.set {b : Nat} {v : Value} {W : World} (h : CellIs b v W) (u : Value) : CellIs b u (W.setCell ⟨b, 0, none⟩ u) :=
  ⟨World.cell?_setCell_same _ _ _ h.c, by rw [World.frozen?_setCell]; exact h.f, by rw [World.size_setCell]; exact h.lt⟩
theorem cellIs_of {b : Nat} {v : Value} {t : TypeId} {W : World} (h : W.heap[b]? = some (.cells #[v] t (0, 0))) : CellIs b v W :=
  ⟨by rw [cell_of_row W b 0 _ _ _ h]; rfl, by unfold World.frozen?; rw [h]; simp, (Array.getElem?_eq_some_iff.1 h).1⟩
set_option maxHeartbeats 1000000 in
theorem steps_make (pc : Value) (fuel : Int) (TB : Nat) (hp : pc.oneCell' = true) (W : World) (hpp : ∃ p, pc = .pointer p) :
    Calls Tryz.prog 19 #[pc, .int .i64 fuel, .pointer (some ⟨TB, 0, none⟩)] W fun e w' => e = .returned (.func (.func 34) #[] #[.pointer (some ⟨W.heap.size + 1, 0, none⟩), .pointer (some ⟨W.heap.size, 0, none⟩), .pointer (some ⟨W.heap.size + 2, 0, none⟩)]) ∧ w'.heap[W.heap.size]? = some (.cells #[pc] 24 (0, 0)) ∧ w'.heap[W.heap.size + 1]? = some (.cells #[.int .i64 fuel] 3 (0, 0)) ∧ w'.heap[W.heap.size + 2]? = some (.cells #[.pointer (some ⟨TB, 0, none⟩)] 68 (0, 0)) ∧ Below W.heap.size W w' ∧ w'.heap.size = W.heap.size + 3 := by
  obtain ⟨p, rfl⟩ := hpp
  go_enter Tryz.func19, Tryz.ntmps19
  go_wp2_with fail
  go_ret
  obtain ⟨g1, g2, g4, g3⟩ := three_alloc W (.cells #[.pointer p] 24) (.cells #[.int .i64 fuel] 3) (.cells #[.pointer (some ⟨TB, 0, none⟩)] 68)
  exact ⟨rfl, g1, g2, g4, g3, by simp⟩
end Go.Proofs.YtmlhoagcppofgaaGreatDoor
