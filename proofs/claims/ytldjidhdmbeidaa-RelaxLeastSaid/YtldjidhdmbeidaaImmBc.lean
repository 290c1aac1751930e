/- Contracts of imm.Put and of the document's Put. -/
import Derived.Test.YtldjidhdmbeidaaImmc
import Derived.Test.YtldjidhdmbeidaaInstP
namespace Go.Proofs.Ytldjidhdmbeidaa
open Go Go.RowKit Pl
set_option linter.unusedVariables false

set_option maxHeartbeats 400000 in
theorem imm_put (form n : Int) (w : World) (h0 : -2147483648 ≤ n) (h1 : n ≤ 2147483647) :
    Calls Try.prog 30 #[.int .i64 form, .int .i32 n] w fun e w' => e = .returned (.tuple #[.int .u32 (putR form n), .bool (putOk form n)]) ∧ w = w' := by
  by_cases h : 1 ≤ form ∧ form ≤ 5
  · obtain ⟨f0, f1⟩ := h
    obtain ⟨p0, p1⟩ := put_bd (m := n % 4294967296) f0 f1
    by_cases g : getS form (putW form (n % 4294967296)) = n
    · have e1 : putOk form n = true := decide_eq_true ⟨f0, f1, g⟩
      have e2 : putR form n = putW form (n % 4294967296) := by unfold putR; rw [e1]; rfl
      rw [e1, e2]
      have G := Lib.hid g
      clear g e1 e2
      go_enter Try.func30, Try.ntmps30
      go_wp2_with (go_at_call 31; refine (imm_spread _ _ _ f0 f1 (by omega) (by omega)).mono ?_; rintro e w' ⟨rfl, rfl⟩)
      refine (imm_get _ _ _ p0 p1).mono ?_
      rw [G.out]
      rintro e w' ⟨rfl, rfl⟩
      go_wp2_with fail
      go_ret2
      exact ⟨rfl, rfl⟩
    · have e1 : putOk form n = false := decide_eq_false (fun h => g h.2.2)
      have e2 : putR form n = 0 := by unfold putR; rw [e1]; rfl
      rw [e1, e2]
      have g' : (getS form (putW form (n % 4294967296)) != n) = true := by simpa using g
      clear g e1 e2
      go_enter Try.func30, Try.ntmps30
      go_wp2_with (first | (go_at_call 31; refine (imm_spread _ _ _ f0 f1 (by omega) (by omega)).mono ?_; rintro e w' ⟨rfl, rfl⟩) | (go_at_call 32; refine (imm_get _ _ _ p0 p1).mono ?_; rintro e w' ⟨rfl, rfl⟩))
      go_ret2
      exact ⟨rfl, rfl⟩
  · have e1 : putOk form n = false := decide_eq_false (fun g => h ⟨g.1, g.2.1⟩)
    have e2 : putR form n = 0 := by unfold putR; rw [e1]; rfl
    rw [e1, e2]
    obtain h | h : form < 1 ∨ 5 < form := by omega
    all_goals
      clear e1 e2
      go_enter Try.func30, Try.ntmps30
      go_wp2
      go_ret2
      exact ⟨rfl, rfl⟩

theorem bitsL_none {form : Int} (h : form < 1 ∨ 5 < form) : bitsL form = [] := by
  unfold bitsL; rw [if_neg (by omega), if_neg (by omega), if_neg (by omega), if_neg (by omega), if_neg (by omega)]
theorem bitsL_some {form : Int} (f0 : 1 ≤ form) (f1 : form ≤ 5) : 1 ≤ (bitsL form).length := by
  obtain rfl | rfl | rfl | rfl | rfl : form = 1 ∨ form = 2 ∨ form = 3 ∨ form = 4 ∨ form = 5 := by omega
  all_goals decide

end Go.Proofs.Ytldjidhdmbeidaa
