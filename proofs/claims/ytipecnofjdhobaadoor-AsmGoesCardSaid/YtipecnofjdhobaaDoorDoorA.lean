/- The table of three bits among the package-level variables. -/
import Derived.Test.YtipecnofjdhobaaDoorRows
import Derived.Test.YtipecnofjdhobaaDoorCards
import Derived.Test.YtipecnofjdhobaaDoorTie
import Derived.Test.YtipecnofjdhobaaDoorInstC
import Derived.Test.YtipecnofjdhobaaDoorChecked
import Derived.ProofKit
import Derived.OpenShut
import Derived.LaidMore
import Derived.Lib.LaidTab
import Derived.Stop.Joined
import Derived.SevenTiedAt
namespace Go.Proofs.YtipecnofjdhobaaDoor
open Go Go.RowKit Pl
set_option linter.unusedVariables false
theorem own : ownKnob Tryd.prog.godebug = none := by kernel_rfl
theorem laidOut : laidOutB Tryd.prog = true := by kernel_rfl
theorem gTab : Tryd.prog.globalNamed "pintle/inst.funct3" = some 0 := by kernel_rfl
theorem tTab : (Tryd.prog.globals[0]?).map (·.type) = some 80 := by kernel_rfl
def laid3 : List (String × DataW Unit) := [("pintle/inst.funct3", Rows.laid_pintle_inst_funct3)]
theorem door_met (os : Os) (args : Array Value) : laidMetH Tryd.prog laid3 ((World.doorLaid Tryd.prog 400 os).forCall (fun _ _ => 0) ⟨#[], args, []⟩).memory :=
  laidMetH_of_parts3 (fuel := 8) (laidMet_of_run' 8 (by kernel_rfl) (by kernel_rfl)) (by kernel_rfl) (by kernel_rfl)
theorem t3_of {W : World} (h : laidMetH Tryd.prog laid3 W) : T3 W := by
  rw [MakeChecks.laidMetH_plain _ _ _ (by kernel_rfl)] at h
  have hT : Lib.TabIs Tryd.prog W "pintle/inst.funct3" .u32 threeL := Lib.tabIs_of_head (rest := []) gTab tTab Tryd.underlying80 Tryd.underlying29 (by kernel_rfl) (by kernel_rfl) h
  have hc : ∀ i, i < 49 → W.cell? ⟨0, i, none⟩ = some (.int .u32 (threeL.getD i 0)) := fun i hi => hT.cell gTab i hi
  refine ⟨hc, ?_⟩
  exact World.block_lt_of_cell? W ⟨0, 0, none⟩ (hc 0 (by omega))
end Go.Proofs.YtipecnofjdhobaaDoor
