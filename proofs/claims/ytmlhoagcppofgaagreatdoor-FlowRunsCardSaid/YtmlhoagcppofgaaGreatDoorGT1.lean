/- The document's machine: operations with a number. -/
import Derived.Test.YtmlhoagcppofgaaGreatDoorGS4
namespace Go.Proofs.YtmlhoagcppofgaaGreatDoor
open Go Go.RowKit Pl
set_option linter.unusedVariables false

theorem row9 (o : Int) (j : Nat) (hj : o - 19 = (j : Int)) (hj9 : j < 9) : (#[.int .i64 1, .int .i64 4, .int .i64 5, .int .i64 6, .int .i64 9, .int .i64 10, .int .i64 3, .int .i64 7, .int .i64 8] : Array Value)[j]? = some (.int .i64 (ofC o)) := by
  obtain rfl : o = 19 + (j : Int) := by omega
  obtain rfl | rfl | rfl | rfl | rfl | rfl | rfl | rfl | rfl : j = 0 ∨ j = 1 ∨ j = 2 ∨ j = 3 ∨ j = 4 ∨ j = 5 ∨ j = 6 ∨ j = 7 ∨ j = 8 := by omega
  all_goals simp [ofC]
abbrev SevR (b : Nat) (o : Int) (d : Nat) (j : Nat) (x : Int) (w' : World) : Prop := w'.cell? ⟨b + 3, j, none⟩ = some (.int .i64 x) ∧ SevC b o d w'
theorem SevR.like {b : Nat} {o : Int} {d j : Nat} {x : Int} {w w' : World} (h : SevR b o d j x w) (l : LikeG w w') : SevR b o d j x w' := ⟨(l.cell _).trans h.1, h.2.like l⟩
theorem SevR.out {b k : Nat} {o : Int} {d j : Nat} {x : Int} {w w' : World} (h : SevR b o d j x w) (l : Out (· = k) w w') (h1 : b ≠ k) (h2 : b + 2 ≠ k) (h3 : b + 3 ≠ k) : SevR b o d j x w' :=
  ⟨(l.cell (p := ⟨b + 3, j, none⟩) (World.block_lt_of_cell? w _ h.1) h3).trans h.1, h.2.out l h1 h2⟩
theorem SevR.set {b i : Nat} {o : Int} {d j : Nat} {x : Int} {v : Value} {w : World} (h : SevR b o d j x w) : SevR b o d j x (w.setCell ⟨b + 1, i, none⟩ v) := h.out (out_cell _ _ _ _) (by omega) (by omega) (by omega)
end Go.Proofs.YtmlhoagcppofgaaGreatDoor
