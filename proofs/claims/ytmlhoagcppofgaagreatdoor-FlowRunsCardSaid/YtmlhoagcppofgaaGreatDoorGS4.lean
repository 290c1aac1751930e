/- The document's machine: an operation each. -/
import Derived.Test.YtmlhoagcppofgaaGreatDoorGS1
import Derived.Test.YtmlhoagcppofgaaGreatDoorGS2
import Derived.Test.YtmlhoagcppofgaaGreatDoorGS3
import Derived.Test.YtmlhoagcppofgaaGreatDoorGQ
namespace Go.Proofs.YtmlhoagcppofgaaGreatDoor
open Go Go.RowKit Pl
set_option linter.unusedVariables false

/-- what does reads of its own blocks: nothing's event, the operation, the target -/
abbrev SevC (b : Nat) (o : Int) (d : Nat) (w' : World) : Prop := w'.cell? ⟨b + 2, 0, none⟩ = some (.int .u32 ((0 : Nat) : Int)) ∧ w'.cell? ⟨b + 2, 1, none⟩ = some (.int .u32 ((0 : Nat) : Int)) ∧ w'.cell? ⟨b + 2, 2, none⟩ = some (.int .i64 0) ∧ w'.cell? ⟨b + 2, 3, none⟩ = some (.int .u32 ((0 : Nat) : Int)) ∧ w'.cell? ⟨b + 2, 4, none⟩ = some (.int .i64 0) ∧ w'.cell? ⟨b, 0, none⟩ = some (.int .i64 o) ∧ w'.cell? ⟨b, 1, none⟩ = some (.int .i64 (d : Nat))
theorem SevC.like {b : Nat} {o : Int} {d : Nat} {w w' : World} (h : SevC b o d w) (l : LikeG w w') : SevC b o d w' :=
  ⟨(l.cell _).trans h.1, (l.cell _).trans h.2.1, (l.cell _).trans h.2.2.1, (l.cell _).trans h.2.2.2.1, (l.cell _).trans h.2.2.2.2.1, (l.cell _).trans h.2.2.2.2.2.1, (l.cell _).trans h.2.2.2.2.2.2⟩
theorem SevC.out {b k : Nat} {o : Int} {d : Nat} {w w' : World} (h : SevC b o d w) (l : Out (· = k) w w') (h1 : b ≠ k) (h2 : b + 2 ≠ k) : SevC b o d w' := by
  obtain ⟨a0, a1, a2, a3, a4, a5, a6⟩ := h
  have l1 := World.block_lt_of_cell? w _ a0
  have l2 := World.block_lt_of_cell? w _ a5
  exact ⟨(l.cell (p := ⟨b + 2, 0, none⟩) l1 h2).trans a0, (l.cell (p := ⟨b + 2, 1, none⟩) l1 h2).trans a1, (l.cell (p := ⟨b + 2, 2, none⟩) l1 h2).trans a2, (l.cell (p := ⟨b + 2, 3, none⟩) l1 h2).trans a3, (l.cell (p := ⟨b + 2, 4, none⟩) l1 h2).trans a4, (l.cell (p := ⟨b, 0, none⟩) l2 h1).trans a5, (l.cell (p := ⟨b, 1, none⟩) l2 h1).trans a6⟩
theorem SevC.set {b i : Nat} {o : Int} {d : Nat} {v : Value} {w : World} (h : SevC b o d w) : SevC b o d (w.setCell ⟨b + 1, i, none⟩ v) := h.out (out_cell _ _ _ _) (by omega) (by omega)
theorem SevC.ev {b p w0 : Nat} {k : Int} {a : Nat} {s : Int} {o : Int} {d : Nat} {w : World} (h : SevC b o d w) : SevC b o d (setEv w (b + 1) p w0 k a s) := h.out (setEv_out _ _ _ _ _ _ _) (by omega) (by omega)
end Go.Proofs.YtmlhoagcppofgaaGreatDoor
