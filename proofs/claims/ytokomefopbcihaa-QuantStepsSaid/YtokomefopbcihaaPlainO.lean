/- Contracts of the law's own 'plain' and 'others'. -/
import Derived.Test.YtokomefopbcihaaMachP
import Derived.Test.YtokomefopbcihaaOpen
import Derived.Test.YtokomefopbcihaaProg
import Derived.WalkSpells
import Derived.WalkSmall
import Derived.Handy
import Derived.Lib.Hide
import Derived.BigQuiet
import Derived.Laws.StructEq
import Derived.Deep.QuietTactic
import Derived.OwnWalk
import Derived.Deep.OwnRows
import Derived.Deep.RegionHeld3
import Derived.BigRegion
namespace Go.Proofs.Ytokomefopbcihaa
open Go Go.RowKit
set_option linter.unusedVariables false

theorem cells_box (f : Nat → Int) (w w' : World) (t : TypeId) (hb : Below (w.alloc (.cells (cellsF f).toArray t)).heap.size (w.alloc (.cells (cellsF f).toArray t)) w') : ∀ k, k < 64 → w'.cell? ⟨w.heap.size, k, none⟩ = some (.int .u32 (f k)) := by
  intro k hk
  rw [(hb.cell (p := ⟨w.heap.size, k, none⟩) (by simp)), World.cell?_alloc_new]
  simpa using cellsF_at f hk
set_option maxRecDepth 100000 in
set_option maxHeartbeats 2000000 in
theorem others_yes (f g : Nat → Int) (D T : Nat) (w : World) (hT : T + 1 < 64) (h : ∀ k, k < 64 → k ≠ D → k ≠ T → k ≠ T + 1 → f k = g k) :
    Calls Try.prog 39 #[.agg (cellsF f).toArray, .agg (cellsF g).toArray, .int .i64 D, .int .i64 T] w fun e w' => e = .returned (.bool true) ∧ Below w.heap.size w w' := by
  have H := Lib.hid h
  clear h
  have B0 := Lib.hid (show Below w.heap.size w ((w.alloc (.cells (cellsF f).toArray 75)).alloc (.cells (cellsF g).toArray 75)) by go_grown)
  have CF := Lib.hid (fun w' (hb : Below ((w.alloc (.cells (cellsF f).toArray 75)).alloc (.cells (cellsF g).toArray 75)).heap.size ((w.alloc (.cells (cellsF f).toArray 75)).alloc (.cells (cellsF g).toArray 75)) w') => cells_box f w w' 75 (((Below.refl _ _).alloc (Nat.le_refl _) _).trans (hb.mono (by simp))))
  have CG := Lib.hid (fun w' hb => cells_box g (w.alloc (.cells (cellsF f).toArray 75)) w' 75 hb)
  have hsz : (w.alloc (.cells (cellsF f).toArray 75)).heap.size = w.heap.size + 1 := by simp
  rw [hsz] at CG
  clear hsz
  have uT := IntWalk.i64_in ((T : Int) + 1) (by omega)
  generalize cellsF f = af at *
  generalize cellsF g = ag at *
  go_enter Try.func39, Try.ntmps39
  go_wp2_with fail
  generalize hW : World.alloc (World.alloc w _) _ = W at *
  clear hW
  go_loopw [9] (fun i wr => ∃ k : Nat, k ≤ 64 ∧ i = .int .i64 k ∧ Below W.heap.size W wr) (fun i _ => 64 - (intOf i).toNat)
  case atStart => exact ⟨0, by omega, rfl, Below.refl _ _⟩
  case round =>
    obtain ⟨k, hk, rfl, hb⟩ := hrel
    by_cases hlt : k < 64
    · have c0 := CF.out wr hb k hlt
      have c1 := CG.out wr hb k hlt
      have t1 : decide ((k : Int) < 64) = true := by simp; omega
      have u1 := IntWalk.i64_in ((k : Int) + 1) (by omega)
      have g0 : (0 : Int) ≤ (k : Int) := by omega
      have g1 : (k : Int) < 64 := by omega
      have HB := Lib.hid hb
      have HE : k ≠ D → k ≠ T → k ≠ T + 1 → f k = g k := H.out k hlt
      clear hb
      cases e1 : ((k : Int) != (D : Int))
      · (go_wp2_with fail; go_region; all_goals (have HB3 := Lib.hid HB.out.drew); go_wp2_with fail; exact ⟨⟨k + 1, by omega, rfl, HB3.out⟩, by simp [intOf]; omega⟩)
      cases e2 : ((k : Int) != (T : Int))
      · (go_wp2_with fail; go_region; all_goals (have HB3 := Lib.hid HB.out.drew); go_wp2_with fail; exact ⟨⟨k + 1, by omega, rfl, HB3.out⟩, by simp [intOf]; omega⟩)
      cases e3 : ((k : Int) != (T : Int) + 1)
      · (go_wp2_with fail; go_region; all_goals (have HB3 := Lib.hid HB.out.drew); go_wp2_with fail; exact ⟨⟨k + 1, by omega, rfl, HB3.out⟩, by simp [intOf]; omega⟩)
      have e4 : (f k != g k) = false := by
        have := HE (by simp at e1; omega) (by simp at e2; omega) (by simp at e3; omega)
        simp [this]
      clear HE
      (go_wp2_with fail; go_region; all_goals (have HB3 := Lib.hid HB.out.drew); go_wp2_with fail; exact ⟨⟨k + 1, by omega, rfl, HB3.out⟩, by simp [intOf]; omega⟩)
    · obtain rfl : k = 64 := by omega
      have t1 : decide (((64 : Nat) : Int) < 64) = false := by simp
      have HB := Lib.hid (B0.out.trans (hb.mono B0.out.size))
      clear hb
      go_wp2_with fail
      go_ret
      exact ⟨rfl, HB.out⟩
end Go.Proofs.Ytokomefopbcihaa
