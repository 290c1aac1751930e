/- The table of three bits among the package-level variables, and the lives of layer 6. -/
import Derived.Test.YtmlhoagcppofgaaGreatDoorRows
import Derived.Test.YtmlhoagcppofgaaGreatDoorCards
import Derived.Test.YtmlhoagcppofgaaGreatDoorTie
import Derived.Test.YtmlhoagcppofgaaGreatDoorGH
import Derived.Test.YtmlhoagcppofgaaGreatDoorGC
import Derived.Test.YtmlhoagcppofgaaGreatDoorChecked
import Derived.ProofKit
import Derived.OpenShut
import Derived.LaidMore
import Derived.Lib.LaidTab
import Derived.Stop.Joined
import Derived.SevenTiedAt
namespace Go.Proofs.YtmlhoagcppofgaaGreatDoor
open Go Go.RowKit Pl
set_option linter.unusedVariables false
theorem own : ownKnob Tryz.prog.godebug = none := by kernel_rfl
theorem laidOut : laidOutB Tryz.prog = true := by kernel_rfl
theorem gTab : Tryz.prog.globalNamed "pintle/inst.funct3" = some 0 := by kernel_rfl
theorem tTab : (Tryz.prog.globals[0]?).map (·.type) = some 143 := by kernel_rfl
def laid3 : List (String × DataW Unit) := [("pintle/inst.funct3", Rows.laid_pintle_inst_funct3)]
theorem door_met (os : Os) (args : Array Value) : laidMetH Tryz.prog laid3 ((World.doorLaid Tryz.prog 400 os).forCall (fun _ _ => 0) ⟨#[], args, []⟩).memory :=
  laidMetH_of_parts3 (fuel := 8) (laidMet_of_run' 8 (by kernel_rfl) (by kernel_rfl)) (by kernel_rfl) (by kernel_rfl)
theorem t3_of {W : World} (h : laidMetH Tryz.prog laid3 W) : T3 W := by
  rw [MakeChecks.laidMetH_plain _ _ _ (by kernel_rfl)] at h
  have hT : Lib.TabIs Tryz.prog W "pintle/inst.funct3" .u32 threeL := Lib.tabIs_of_head (rest := []) gTab tTab Tryz.underlying143 Tryz.underlying37 (by kernel_rfl) (by kernel_rfl) h
  have hc : ∀ i, i < 49 → W.cell? ⟨0, i, none⟩ = some (.int .u32 (threeL.getD i 0)) := fun i hi => hT.cell gTab i hi
  refine ⟨hc, ?_⟩
  exact World.block_lt_of_cell? W ⟨0, 0, none⟩ (hc 0 (by omega))
theorem names_ok : namesOk Tryz.prog = true := by kernel_rfl
theorem mixed_ok : Tryz.prog.follows .mixedOrders = true := by kernel_rfl
end Go.Proofs.YtmlhoagcppofgaaGreatDoor
