/- LirrunCounts' lives: a loop is done. -/
import Derived.Test.YtokomefopbcihaaRunL
import Derived.Test.YtokomefopbcihaaRunC
namespace Go.Proofs.Ytokomefopbcihaa
open Go Go.RowKit Pl
set_option linter.unusedVariables false
set_option maxRecDepth 100000 in
set_option maxHeartbeats 4000000 in
theorem lives16 (w : World) :
    Calls Try.prog 45 #[] w fun e w' => e = .returned (.bool true) ∧ Below w.heap.size w w' := by
  go_enter Try.func45, Try.ntmps45
  go_wp2_with fail
  refine (run_loop 1 3 99 bodyV w.heap.size 0 3 [2, -1, 0] _ (by decide) (by decide) (by simp [bodyV, DoOk]) (by simp [bodyV]) (by decide) (l5_lit w _ (progL 1 3 bodyV) _ rfl _ rfl (by simp [progL_len, bodyV])) (by simp) check_V ends_V rfl (by decide) (by decide)).mono ?_
  rintro e w1 ⟨⟨v, rfl, own⟩, hb⟩
  have BW := Lib.hid (show Below w.heap.size w w1 from ((Below.refl _ w).alloc (Nat.le_refl _) _).trans (hb.mono (by simp)))
  clear hb
  obtain ⟨a, cc, rfl, _, _, hg⟩ := own_form own
  obtain ⟨g, hag, _⟩ := hg (by decide)
  subst hag
  have k0 : w1.cell? ⟨g, 0, none⟩ = some (.int .u32 15) := by
    have h := own.cells (g := g) rfl 0 _ (cellsF_at _ (by decide))
    have e : rounds 1 3 bodyV (Int.toNat 3) 0 = 15 := counts_V.1
    rw [e, add_at] at h; exact h
  have k1 : w1.cell? ⟨g, 1, none⟩ = some (.int .u32 0) := by
    have h := own.cells (g := g) rfl 1 _ (cellsF_at _ (by decide))
    have e : rounds 1 3 bodyV (Int.toNat 3) 1 = 0 := counts_V.2
    rw [e, add_at] at h; exact h
  clear own
  have e1 : (1 + 3 * ((bodyV.length : Int) + 1)) = 7 := by decide
  rw [e1]
  go_wp2_with fail
  go_ret
  exact ⟨rfl, BW.out⟩
end Go.Proofs.Ytokomefopbcihaa
