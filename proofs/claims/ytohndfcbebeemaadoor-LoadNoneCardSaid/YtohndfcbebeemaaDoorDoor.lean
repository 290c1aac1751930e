/- The table of three bits among the package-level variables, and the lives of layer 6. -/
import Derived.Test.YtohndfcbebeemaaDoorRows
import Derived.Test.YtohndfcbebeemaaDoorCards
import Derived.Test.YtohndfcbebeemaaDoorTie
import Derived.Test.YtohndfcbebeemaaDoorExeH
import Derived.Test.YtohndfcbebeemaaDoorChecked
import Derived.ProofKit
import Derived.OpenShut
import Derived.LaidMore
import Derived.Lib.LaidTab
import Derived.Stop.Joined
import Derived.SevenTiedAt
namespace Go.Proofs.YtohndfcbebeemaaDoor
open Go Go.RowKit
set_option linter.unusedVariables false
theorem own : ownKnob Tryd.prog.godebug = none := by kernel_rfl
theorem laidOut : laidOutB Tryd.prog = true := by kernel_rfl
theorem gTab : Tryd.prog.globalNamed "pintle/inst.funct3" = some 1 := by kernel_rfl
theorem tTab : (Tryd.prog.globals[1]?).map (·.type) = some 159 := by kernel_rfl
def laid3 : List (String × DataW Unit) := [("pintle/inst.funct3", Rows.laid_pintle_inst_funct3)]
theorem door_met (os : Os) (args : Array Value) : laidMetH Tryd.prog laid3 ((World.doorLaid Tryd.prog 400 os).forCall (fun _ _ => 0) ⟨#[], args, []⟩).memory :=
  laidMetH_of_parts3 (fuel := 8) (laidMet_of_run' 8 (by kernel_rfl) (by kernel_rfl)) (by kernel_rfl) (by kernel_rfl)
def threeL : List Int := [0,0,0,1,2,3,4,5,5,6,7,0,1,2,3,4,5,6,7,0,2,3,4,6,7,1,5,5,0,1,2,4,5,0,1,2,0,1,4,5,6,7,0,0,0,0,0,0,0]
def T3 (w : World) : Prop := (∀ i, i < threeL.length → w.cell? ⟨1, i, none⟩ = some (.int .u32 (threeL.getD i 0))) ∧ 1 < w.heap.size
theorem T3.later {w w' : World} (h : T3 w) (hb : Below w.heap.size w w') : T3 w' :=
  ⟨fun i hi => (hb.cell (p := ⟨1, i, none⟩) h.2).trans (h.1 i hi), Nat.lt_of_lt_of_le h.2 hb.size⟩
theorem t3_of {W : World} (h : laidMetH Tryd.prog laid3 W) : T3 W := by
  rw [MakeChecks.laidMetH_plain _ _ _ (by kernel_rfl)] at h
  have hT : Lib.TabIs Tryd.prog W "pintle/inst.funct3" .u32 threeL := Lib.tabIs_of_head (rest := []) gTab tTab Tryd.underlying159 Tryd.underlying25 (by kernel_rfl) (by kernel_rfl) h
  have hc : ∀ i, i < 49 → W.cell? ⟨1, i, none⟩ = some (.int .u32 (threeL.getD i 0)) := fun i hi => hT.cell gTab i hi
  refine ⟨hc, ?_⟩
  exact World.block_lt_of_cell? W ⟨1, 0, none⟩ (hc 0 (by omega))
theorem names_ok : namesOk Tryd.prog = true := by kernel_rfl
theorem mixed_ok : Tryd.prog.follows .mixedOrders = true := by kernel_rfl
theorem lives06 (w : World) (ht : T3 w) : Calls Tryd.prog 17 #[] w fun e w' => e = .returned (.bool true) ∧ Below w.heap.size w w' :=
  calls_tab names_ok mixed_ok (g := 1) (k := .u32) (t := 25) (l := threeL) (n := 60) (args := []) (by kernel_rfl) (by kernel_rfl) rfl rfl w ht.2 ht.1
end Go.Proofs.YtohndfcbebeemaaDoor
