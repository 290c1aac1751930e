/- Contracts of pintleref03.Of and reg. -/
import Derived.Test.YtipecnofjdhobaaDoorInstR1
import Derived.Test.YtipecnofjdhobaaDoorInstR2
import Derived.Test.YtipecnofjdhobaaDoorInstR3
import Derived.Test.YtipecnofjdhobaaDoorInstR4
import Derived.Test.YtipecnofjdhobaaDoorInstR5
namespace Go.Proofs.YtipecnofjdhobaaDoor
open Go Go.RowKit Pl
set_option linter.unusedVariables false
set_option maxHeartbeats 400000 in
theorem of_none (o : Int) (w : World) (h : o < 1 ∨ 46 < o) : Calls Tryd.prog 16 #[.int .i64 o] w (OfN w) := by
  unfold OfN zeroV
  rcases h with h | h
  · have t1 : decide (o < 1) = true := by simp; omega
    go_enter Tryd.func16, Tryd.ntmps16
    go_wp2
    exact bodyPost_ret (v := .tuple #[.agg #[.int .u32 0, .int .u32 0, .int .u32 0, .int .i64 0, .bool false, .bool false, .bool false], .bool false]) (by simp [results, Tryd.results16, go_sem]) rfl ⟨rfl, by go_grown⟩
  · have t1 : decide (o < 1) = false := by simp; omega
    have t2 : decide (46 < o) = true := by simp; omega
    go_enter Tryd.func16, Tryd.ntmps16
    go_wp2
    exact bodyPost_ret (v := .tuple #[.agg #[.int .u32 0, .int .u32 0, .int .u32 0, .int .i64 0, .bool false, .bool false, .bool false], .bool false]) (by simp [results, Tryd.results16, go_sem]) rfl ⟨rfl, by go_grown⟩
theorem of_any (o : Int) (w : World) (h : 1 ≤ o ∧ o ≤ 46) : Calls Tryd.prog 16 #[.int .i64 o] w (OfP o w) := by
  obtain rfl | rfl | rfl | rfl | rfl | rfl | rfl | rfl | rfl | rfl | rfl | rfl | rfl | rfl | rfl | rfl | rfl | rfl | rfl | rfl | rfl | rfl | rfl | rfl | rfl | rfl | rfl | rfl | rfl | rfl | rfl | rfl | rfl | rfl | rfl | rfl | rfl | rfl | rfl | rfl | rfl | rfl | rfl | rfl | rfl | rfl : o = 1 ∨ o = 2 ∨ o = 3 ∨ o = 4 ∨ o = 5 ∨ o = 6 ∨ o = 7 ∨ o = 8 ∨ o = 9 ∨ o = 10 ∨ o = 11 ∨ o = 12 ∨ o = 13 ∨ o = 14 ∨ o = 15 ∨ o = 16 ∨ o = 17 ∨ o = 18 ∨ o = 19 ∨ o = 20 ∨ o = 21 ∨ o = 22 ∨ o = 23 ∨ o = 24 ∨ o = 25 ∨ o = 26 ∨ o = 27 ∨ o = 28 ∨ o = 29 ∨ o = 30 ∨ o = 31 ∨ o = 32 ∨ o = 33 ∨ o = 34 ∨ o = 35 ∨ o = 36 ∨ o = 37 ∨ o = 38 ∨ o = 39 ∨ o = 40 ∨ o = 41 ∨ o = 42 ∨ o = 43 ∨ o = 44 ∨ o = 45 ∨ o = 46 := by omega
  · exact of_1 w
  · exact of_2 w
  · exact of_3 w
  · exact of_4 w
  · exact of_5 w
  · exact of_6 w
  · exact of_7 w
  · exact of_8 w
  · exact of_9 w
  · exact of_10 w
  · exact of_11 w
  · exact of_12 w
  · exact of_13 w
  · exact of_14 w
  · exact of_15 w
  · exact of_16 w
  · exact of_17 w
  · exact of_18 w
  · exact of_19 w
  · exact of_20 w
  · exact of_21 w
  · exact of_22 w
  · exact of_23 w
  · exact of_24 w
  · exact of_25 w
  · exact of_26 w
  · exact of_27 w
  · exact of_28 w
  · exact of_29 w
  · exact of_30 w
  · exact of_31 w
  · exact of_32 w
  · exact of_33 w
  · exact of_34 w
  · exact of_35 w
  · exact of_36 w
  · exact of_37 w
  · exact of_38 w
  · exact of_39 w
  · exact of_40 w
  · exact of_41 w
  · exact of_42 w
  · exact of_43 w
  · exact of_44 w
  · exact of_45 w
  · exact of_46 w

set_option maxHeartbeats 400000 in
theorem rreg_any (n : Int) (h : Bool) (w : World) : Calls Tryd.prog 26 #[.int .i64 n, .bool h] w fun e w' => e = .returned (.bool (regOk n h)) ∧ w = w' := by
  by_cases g0 : 0 ≤ n
  · have h1 : decide (0 ≤ n) = true := by simp; omega
    by_cases g1 : n < 32
    · have h2 : decide (n < 32) = true := by simp; omega
      cases h
      · have e : regOk n false = (n == 0) := by unfold regOk; simp only [Bool.false_eq_true, if_false]; exact (by rw [Bool.eq_iff_iff]; simp)
        rw [e]
        clear e
        go_enter Tryd.func26, Tryd.ntmps26
        go_wp2
        go_ret
        exact ⟨rfl, rfl⟩
      · have e : regOk n true = true := by unfold regOk; simp; omega
        rw [e]
        clear e
        go_enter Tryd.func26, Tryd.ntmps26
        go_wp2
        go_ret
        exact ⟨rfl, rfl⟩
    · have h2 : decide (n < 32) = false := by simp; omega
      have e : regOk n h = false := by unfold regOk; cases h <;> simp <;> omega
      rw [e]
      clear e
      go_enter Tryd.func26, Tryd.ntmps26
      go_wp2
      go_ret
      exact ⟨rfl, rfl⟩
  · have h1 : decide (0 ≤ n) = false := by simp; omega
    have e : regOk n h = false := by unfold regOk; cases h <;> simp <;> omega
    rw [e]
    clear e
    go_enter Tryd.func26, Tryd.ntmps26
    go_wp2
    go_ret
    exact ⟨rfl, rfl⟩
end Go.Proofs.YtipecnofjdhobaaDoor
