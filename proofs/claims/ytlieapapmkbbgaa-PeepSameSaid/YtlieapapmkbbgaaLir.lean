/- Contracts of package lir's single steps: what each call answers. -/
import Derived.Test.YtlieapapmkbbgaaProg
import Derived.Test.YtlieapapmkbbgaaGB
import Derived.WalkSpells
import Derived.WalkSmall
import Derived.BigQuiet
import Derived.Laws.StructEq
import Derived.Deep.QuietTactic
import Derived.Deep.RegionHeld3
namespace Go.Proofs.Ytlieapapmkbbgaa
open Go Go.RowKit
set_option linter.unusedVariables false

def layV (o : Int) : Array Value := #[.bool (hasD o), .bool (hasA o), .bool (hasB o), .int .i32 (leastS o), .int .i32 (mostS o)]
def LayPost (o : Int) (w : World) (e : Ending) (w' : World) : Prop := e = .returned (.tuple #[.agg (layV o), .bool (isOp o)]) ∧ w' = w.alloc (.cells (layV o) 66)

set_option maxHeartbeats 400000 in
theorem layout_1 (w : World) : Calls Try.prog 39 #[.int .i64 1] w (LayPost 1 w) := by
  have e1 : layV 1 = #[.bool true, .bool false, .bool false, .int .i32 (-2147483648), .int .i32 2147483647] := rfl
  have e2 : isOp 1 = true := by decide
  unfold LayPost
  rw [e1, e2]
  clear e1 e2
  go_enter Try.func39, Try.ntmps39
  go_wp2
  exact bodyPost_ret (v := .tuple #[.agg #[.bool true, .bool false, .bool false, .int .i32 (-2147483648), .int .i32 2147483647], .bool true]) (by simp [results, Try.results39, go_sem]) rfl ⟨rfl, rfl⟩
set_option maxHeartbeats 400000 in
theorem layout_2 (w : World) : Calls Try.prog 39 #[.int .i64 2] w (LayPost 2 w) := by
  have e1 : layV 2 = #[.bool true, .bool true, .bool false, .int .i32 0, .int .i32 0] := rfl
  have e2 : isOp 2 = true := by decide
  unfold LayPost
  rw [e1, e2]
  clear e1 e2
  go_enter Try.func39, Try.ntmps39
  go_wp2
  exact bodyPost_ret (v := .tuple #[.agg #[.bool true, .bool true, .bool false, .int .i32 0, .int .i32 0], .bool true]) (by simp [results, Try.results39, go_sem]) rfl ⟨rfl, rfl⟩
set_option maxHeartbeats 400000 in
theorem layout_3 (w : World) : Calls Try.prog 39 #[.int .i64 3] w (LayPost 3 w) := by
  have e1 : layV 3 = #[.bool true, .bool true, .bool true, .int .i32 0, .int .i32 0] := rfl
  have e2 : isOp 3 = true := by decide
  unfold LayPost
  rw [e1, e2]
  clear e1 e2
  go_enter Try.func39, Try.ntmps39
  go_wp2
  exact bodyPost_ret (v := .tuple #[.agg #[.bool true, .bool true, .bool true, .int .i32 0, .int .i32 0], .bool true]) (by simp [results, Try.results39, go_sem]) rfl ⟨rfl, rfl⟩
set_option maxHeartbeats 400000 in
theorem layout_4 (w : World) : Calls Try.prog 39 #[.int .i64 4] w (LayPost 4 w) := by
  have e1 : layV 4 = #[.bool true, .bool true, .bool true, .int .i32 0, .int .i32 0] := rfl
  have e2 : isOp 4 = true := by decide
  unfold LayPost
  rw [e1, e2]
  clear e1 e2
  go_enter Try.func39, Try.ntmps39
  go_wp2
  exact bodyPost_ret (v := .tuple #[.agg #[.bool true, .bool true, .bool true, .int .i32 0, .int .i32 0], .bool true]) (by simp [results, Try.results39, go_sem]) rfl ⟨rfl, rfl⟩
set_option maxHeartbeats 400000 in
theorem layout_5 (w : World) : Calls Try.prog 39 #[.int .i64 5] w (LayPost 5 w) := by
  have e1 : layV 5 = #[.bool true, .bool true, .bool true, .int .i32 0, .int .i32 0] := rfl
  have e2 : isOp 5 = true := by decide
  unfold LayPost
  rw [e1, e2]
  clear e1 e2
  go_enter Try.func39, Try.ntmps39
  go_wp2
  exact bodyPost_ret (v := .tuple #[.agg #[.bool true, .bool true, .bool true, .int .i32 0, .int .i32 0], .bool true]) (by simp [results, Try.results39, go_sem]) rfl ⟨rfl, rfl⟩
set_option maxHeartbeats 400000 in
theorem layout_6 (w : World) : Calls Try.prog 39 #[.int .i64 6] w (LayPost 6 w) := by
  have e1 : layV 6 = #[.bool true, .bool true, .bool true, .int .i32 0, .int .i32 0] := rfl
  have e2 : isOp 6 = true := by decide
  unfold LayPost
  rw [e1, e2]
  clear e1 e2
  go_enter Try.func39, Try.ntmps39
  go_wp2
  exact bodyPost_ret (v := .tuple #[.agg #[.bool true, .bool true, .bool true, .int .i32 0, .int .i32 0], .bool true]) (by simp [results, Try.results39, go_sem]) rfl ⟨rfl, rfl⟩
set_option maxHeartbeats 400000 in
theorem layout_7 (w : World) : Calls Try.prog 39 #[.int .i64 7] w (LayPost 7 w) := by
  have e1 : layV 7 = #[.bool true, .bool true, .bool true, .int .i32 0, .int .i32 0] := rfl
  have e2 : isOp 7 = true := by decide
  unfold LayPost
  rw [e1, e2]
  clear e1 e2
  go_enter Try.func39, Try.ntmps39
  go_wp2
  exact bodyPost_ret (v := .tuple #[.agg #[.bool true, .bool true, .bool true, .int .i32 0, .int .i32 0], .bool true]) (by simp [results, Try.results39, go_sem]) rfl ⟨rfl, rfl⟩
set_option maxHeartbeats 400000 in
theorem layout_8 (w : World) : Calls Try.prog 39 #[.int .i64 8] w (LayPost 8 w) := by
  have e1 : layV 8 = #[.bool true, .bool true, .bool true, .int .i32 0, .int .i32 0] := rfl
  have e2 : isOp 8 = true := by decide
  unfold LayPost
  rw [e1, e2]
  clear e1 e2
  go_enter Try.func39, Try.ntmps39
  go_wp2
  exact bodyPost_ret (v := .tuple #[.agg #[.bool true, .bool true, .bool true, .int .i32 0, .int .i32 0], .bool true]) (by simp [results, Try.results39, go_sem]) rfl ⟨rfl, rfl⟩
set_option maxHeartbeats 400000 in
theorem layout_9 (w : World) : Calls Try.prog 39 #[.int .i64 9] w (LayPost 9 w) := by
  have e1 : layV 9 = #[.bool true, .bool true, .bool true, .int .i32 0, .int .i32 0] := rfl
  have e2 : isOp 9 = true := by decide
  unfold LayPost
  rw [e1, e2]
  clear e1 e2
  go_enter Try.func39, Try.ntmps39
  go_wp2
  exact bodyPost_ret (v := .tuple #[.agg #[.bool true, .bool true, .bool true, .int .i32 0, .int .i32 0], .bool true]) (by simp [results, Try.results39, go_sem]) rfl ⟨rfl, rfl⟩
set_option maxHeartbeats 400000 in
theorem layout_10 (w : World) : Calls Try.prog 39 #[.int .i64 10] w (LayPost 10 w) := by
  have e1 : layV 10 = #[.bool true, .bool true, .bool true, .int .i32 0, .int .i32 0] := rfl
  have e2 : isOp 10 = true := by decide
  unfold LayPost
  rw [e1, e2]
  clear e1 e2
  go_enter Try.func39, Try.ntmps39
  go_wp2
  exact bodyPost_ret (v := .tuple #[.agg #[.bool true, .bool true, .bool true, .int .i32 0, .int .i32 0], .bool true]) (by simp [results, Try.results39, go_sem]) rfl ⟨rfl, rfl⟩
set_option maxHeartbeats 400000 in
theorem layout_11 (w : World) : Calls Try.prog 39 #[.int .i64 11] w (LayPost 11 w) := by
  have e1 : layV 11 = #[.bool true, .bool true, .bool true, .int .i32 0, .int .i32 0] := rfl
  have e2 : isOp 11 = true := by decide
  unfold LayPost
  rw [e1, e2]
  clear e1 e2
  go_enter Try.func39, Try.ntmps39
  go_wp2
  exact bodyPost_ret (v := .tuple #[.agg #[.bool true, .bool true, .bool true, .int .i32 0, .int .i32 0], .bool true]) (by simp [results, Try.results39, go_sem]) rfl ⟨rfl, rfl⟩
set_option maxHeartbeats 400000 in
theorem layout_12 (w : World) : Calls Try.prog 39 #[.int .i64 12] w (LayPost 12 w) := by
  have e1 : layV 12 = #[.bool true, .bool true, .bool true, .int .i32 0, .int .i32 0] := rfl
  have e2 : isOp 12 = true := by decide
  unfold LayPost
  rw [e1, e2]
  clear e1 e2
  go_enter Try.func39, Try.ntmps39
  go_wp2
  exact bodyPost_ret (v := .tuple #[.agg #[.bool true, .bool true, .bool true, .int .i32 0, .int .i32 0], .bool true]) (by simp [results, Try.results39, go_sem]) rfl ⟨rfl, rfl⟩
set_option maxHeartbeats 400000 in
theorem layout_13 (w : World) : Calls Try.prog 39 #[.int .i64 13] w (LayPost 13 w) := by
  have e1 : layV 13 = #[.bool true, .bool true, .bool false, .int .i32 (-2147483648), .int .i32 2147483647] := rfl
  have e2 : isOp 13 = true := by decide
  unfold LayPost
  rw [e1, e2]
  clear e1 e2
  go_enter Try.func39, Try.ntmps39
  go_wp2
  exact bodyPost_ret (v := .tuple #[.agg #[.bool true, .bool true, .bool false, .int .i32 (-2147483648), .int .i32 2147483647], .bool true]) (by simp [results, Try.results39, go_sem]) rfl ⟨rfl, rfl⟩
set_option maxHeartbeats 400000 in
theorem layout_14 (w : World) : Calls Try.prog 39 #[.int .i64 14] w (LayPost 14 w) := by
  have e1 : layV 14 = #[.bool true, .bool true, .bool false, .int .i32 0, .int .i32 31] := rfl
  have e2 : isOp 14 = true := by decide
  unfold LayPost
  rw [e1, e2]
  clear e1 e2
  go_enter Try.func39, Try.ntmps39
  go_wp2
  exact bodyPost_ret (v := .tuple #[.agg #[.bool true, .bool true, .bool false, .int .i32 0, .int .i32 31], .bool true]) (by simp [results, Try.results39, go_sem]) rfl ⟨rfl, rfl⟩
set_option maxHeartbeats 400000 in
theorem layout_15 (w : World) : Calls Try.prog 39 #[.int .i64 15] w (LayPost 15 w) := by
  have e1 : layV 15 = #[.bool true, .bool true, .bool false, .int .i32 0, .int .i32 31] := rfl
  have e2 : isOp 15 = true := by decide
  unfold LayPost
  rw [e1, e2]
  clear e1 e2
  go_enter Try.func39, Try.ntmps39
  go_wp2
  exact bodyPost_ret (v := .tuple #[.agg #[.bool true, .bool true, .bool false, .int .i32 0, .int .i32 31], .bool true]) (by simp [results, Try.results39, go_sem]) rfl ⟨rfl, rfl⟩
set_option maxHeartbeats 400000 in
theorem layout_16 (w : World) : Calls Try.prog 39 #[.int .i64 16] w (LayPost 16 w) := by
  have e1 : layV 16 = #[.bool true, .bool true, .bool false, .int .i32 0, .int .i32 31] := rfl
  have e2 : isOp 16 = true := by decide
  unfold LayPost
  rw [e1, e2]
  clear e1 e2
  go_enter Try.func39, Try.ntmps39
  go_wp2
  exact bodyPost_ret (v := .tuple #[.agg #[.bool true, .bool true, .bool false, .int .i32 0, .int .i32 31], .bool true]) (by simp [results, Try.results39, go_sem]) rfl ⟨rfl, rfl⟩
set_option maxHeartbeats 400000 in
theorem layout_17 (w : World) : Calls Try.prog 39 #[.int .i64 17] w (LayPost 17 w) := by
  have e1 : layV 17 = #[.bool true, .bool true, .bool false, .int .i32 (-2147483648), .int .i32 2147483647] := rfl
  have e2 : isOp 17 = true := by decide
  unfold LayPost
  rw [e1, e2]
  clear e1 e2
  go_enter Try.func39, Try.ntmps39
  go_wp2
  exact bodyPost_ret (v := .tuple #[.agg #[.bool true, .bool true, .bool false, .int .i32 (-2147483648), .int .i32 2147483647], .bool true]) (by simp [results, Try.results39, go_sem]) rfl ⟨rfl, rfl⟩
set_option maxHeartbeats 400000 in
theorem layout_18 (w : World) : Calls Try.prog 39 #[.int .i64 18] w (LayPost 18 w) := by
  have e1 : layV 18 = #[.bool true, .bool true, .bool false, .int .i32 (-2147483648), .int .i32 2147483647] := rfl
  have e2 : isOp 18 = true := by decide
  unfold LayPost
  rw [e1, e2]
  clear e1 e2
  go_enter Try.func39, Try.ntmps39
  go_wp2
  exact bodyPost_ret (v := .tuple #[.agg #[.bool true, .bool true, .bool false, .int .i32 (-2147483648), .int .i32 2147483647], .bool true]) (by simp [results, Try.results39, go_sem]) rfl ⟨rfl, rfl⟩
set_option maxHeartbeats 400000 in
theorem layout_19 (w : World) : Calls Try.prog 39 #[.int .i64 19] w (LayPost 19 w) := by
  have e1 : layV 19 = #[.bool true, .bool true, .bool false, .int .i32 (-2147483648), .int .i32 2147483647] := rfl
  have e2 : isOp 19 = true := by decide
  unfold LayPost
  rw [e1, e2]
  clear e1 e2
  go_enter Try.func39, Try.ntmps39
  go_wp2
  exact bodyPost_ret (v := .tuple #[.agg #[.bool true, .bool true, .bool false, .int .i32 (-2147483648), .int .i32 2147483647], .bool true]) (by simp [results, Try.results39, go_sem]) rfl ⟨rfl, rfl⟩
set_option maxHeartbeats 400000 in
theorem layout_20 (w : World) : Calls Try.prog 39 #[.int .i64 20] w (LayPost 20 w) := by
  have e1 : layV 20 = #[.bool true, .bool true, .bool false, .int .i32 (-2147483648), .int .i32 2147483647] := rfl
  have e2 : isOp 20 = true := by decide
  unfold LayPost
  rw [e1, e2]
  clear e1 e2
  go_enter Try.func39, Try.ntmps39
  go_wp2
  exact bodyPost_ret (v := .tuple #[.agg #[.bool true, .bool true, .bool false, .int .i32 (-2147483648), .int .i32 2147483647], .bool true]) (by simp [results, Try.results39, go_sem]) rfl ⟨rfl, rfl⟩
set_option maxHeartbeats 400000 in
theorem layout_21 (w : World) : Calls Try.prog 39 #[.int .i64 21] w (LayPost 21 w) := by
  have e1 : layV 21 = #[.bool false, .bool true, .bool true, .int .i32 (-2147483648), .int .i32 2147483647] := rfl
  have e2 : isOp 21 = true := by decide
  unfold LayPost
  rw [e1, e2]
  clear e1 e2
  go_enter Try.func39, Try.ntmps39
  go_wp2
  exact bodyPost_ret (v := .tuple #[.agg #[.bool false, .bool true, .bool true, .int .i32 (-2147483648), .int .i32 2147483647], .bool true]) (by simp [results, Try.results39, go_sem]) rfl ⟨rfl, rfl⟩
set_option maxHeartbeats 400000 in
theorem layout_22 (w : World) : Calls Try.prog 39 #[.int .i64 22] w (LayPost 22 w) := by
  have e1 : layV 22 = #[.bool false, .bool true, .bool true, .int .i32 (-2147483648), .int .i32 2147483647] := rfl
  have e2 : isOp 22 = true := by decide
  unfold LayPost
  rw [e1, e2]
  clear e1 e2
  go_enter Try.func39, Try.ntmps39
  go_wp2
  exact bodyPost_ret (v := .tuple #[.agg #[.bool false, .bool true, .bool true, .int .i32 (-2147483648), .int .i32 2147483647], .bool true]) (by simp [results, Try.results39, go_sem]) rfl ⟨rfl, rfl⟩
set_option maxHeartbeats 400000 in
theorem layout_23 (w : World) : Calls Try.prog 39 #[.int .i64 23] w (LayPost 23 w) := by
  have e1 : layV 23 = #[.bool true, .bool false, .bool false, .int .i32 1, .int .i32 100000] := rfl
  have e2 : isOp 23 = true := by decide
  unfold LayPost
  rw [e1, e2]
  clear e1 e2
  go_enter Try.func39, Try.ntmps39
  go_wp2
  exact bodyPost_ret (v := .tuple #[.agg #[.bool true, .bool false, .bool false, .int .i32 1, .int .i32 100000], .bool true]) (by simp [results, Try.results39, go_sem]) rfl ⟨rfl, rfl⟩
set_option maxHeartbeats 400000 in
theorem layout_24 (w : World) : Calls Try.prog 39 #[.int .i64 24] w (LayPost 24 w) := by
  have e1 : layV 24 = #[.bool false, .bool false, .bool false, .int .i32 0, .int .i32 0] := rfl
  have e2 : isOp 24 = true := by decide
  unfold LayPost
  rw [e1, e2]
  clear e1 e2
  go_enter Try.func39, Try.ntmps39
  go_wp2
  exact bodyPost_ret (v := .tuple #[.agg #[.bool false, .bool false, .bool false, .int .i32 0, .int .i32 0], .bool true]) (by simp [results, Try.results39, go_sem]) rfl ⟨rfl, rfl⟩
theorem lay_none {o : Int} (h : o < 1 ∨ 24 < o) : layV o = #[.bool false, .bool false, .bool false, .int .i32 0, .int .i32 0] := by
  have h1 : hasD o = false := by unfold hasD; simp; omega
  have h2 : hasA o = false := by unfold hasA; simp; omega
  have h3 : hasB o = false := by unfold hasB; simp; omega
  have h4 : leastS o = 0 := by unfold leastS; rw [if_neg (by omega), if_neg (by omega)]
  have h5 : mostS o = 0 := by unfold mostS; rw [if_neg (by omega), if_neg (by omega), if_neg (by omega)]
  unfold layV
  rw [h1, h2, h3, h4, h5]
set_option maxHeartbeats 1000000 in
theorem layout_none (op : Int) (w : World) (h : op < 1 ∨ 24 < op) : Calls Try.prog 39 #[.int .i64 op] w (LayPost op w) := by
  have e2 : isOp op = false := by unfold isOp; simp; omega
  unfold LayPost
  rw [lay_none h, e2]
  clear e2
  have t1 : (op == 1) = false := by simp; omega
  have t2 : (op == 2) = false := by simp; omega
  have t3 : (op == 3) = false := by simp; omega
  have t4 : (op == 4) = false := by simp; omega
  have t5 : (op == 5) = false := by simp; omega
  have t6 : (op == 6) = false := by simp; omega
  have t7 : (op == 7) = false := by simp; omega
  have t8 : (op == 8) = false := by simp; omega
  have t9 : (op == 9) = false := by simp; omega
  have t10 : (op == 10) = false := by simp; omega
  have t11 : (op == 11) = false := by simp; omega
  have t12 : (op == 12) = false := by simp; omega
  have t13 : (op == 13) = false := by simp; omega
  have t14 : (op == 14) = false := by simp; omega
  have t15 : (op == 15) = false := by simp; omega
  have t16 : (op == 16) = false := by simp; omega
  have t17 : (op == 17) = false := by simp; omega
  have t18 : (op == 18) = false := by simp; omega
  have t19 : (op == 19) = false := by simp; omega
  have t20 : (op == 20) = false := by simp; omega
  have t21 : (op == 21) = false := by simp; omega
  have t22 : (op == 22) = false := by simp; omega
  have t23 : (op == 23) = false := by simp; omega
  have t24 : (op == 24) = false := by simp; omega
  clear h
  go_enter Try.func39, Try.ntmps39
  go_wp2
  exact bodyPost_ret (v := .tuple #[.agg #[.bool false, .bool false, .bool false, .int .i32 0, .int .i32 0], .bool false]) (by simp [results, Try.results39, go_sem]) rfl ⟨rfl, rfl⟩
theorem layout_any (op : Int) (w : World) : Calls Try.prog 39 #[.int .i64 op] w (LayPost op w) := by
  by_cases h : 1 ≤ op ∧ op ≤ 24
  · obtain rfl | rfl | rfl | rfl | rfl | rfl | rfl | rfl | rfl | rfl | rfl | rfl | rfl | rfl | rfl | rfl | rfl | rfl | rfl | rfl | rfl | rfl | rfl | rfl : op = 1 ∨ op = 2 ∨ op = 3 ∨ op = 4 ∨ op = 5 ∨ op = 6 ∨ op = 7 ∨ op = 8 ∨ op = 9 ∨ op = 10 ∨ op = 11 ∨ op = 12 ∨ op = 13 ∨ op = 14 ∨ op = 15 ∨ op = 16 ∨ op = 17 ∨ op = 18 ∨ op = 19 ∨ op = 20 ∨ op = 21 ∨ op = 22 ∨ op = 23 ∨ op = 24 := by omega
    · exact layout_1 w
    · exact layout_2 w
    · exact layout_3 w
    · exact layout_4 w
    · exact layout_5 w
    · exact layout_6 w
    · exact layout_7 w
    · exact layout_8 w
    · exact layout_9 w
    · exact layout_10 w
    · exact layout_11 w
    · exact layout_12 w
    · exact layout_13 w
    · exact layout_14 w
    · exact layout_15 w
    · exact layout_16 w
    · exact layout_17 w
    · exact layout_18 w
    · exact layout_19 w
    · exact layout_20 w
    · exact layout_21 w
    · exact layout_22 w
    · exact layout_23 w
    · exact layout_24 w
  · exact layout_none op w (by omega)

set_option maxHeartbeats 400000 in
theorem variable_any (n : Int) (h : Bool) (w : World) : Calls Try.prog 40 #[.int .i64 n, .bool h] w fun e w' => e = .returned (.bool (fitsS n h)) ∧ w = w' := by
  cases h
  · have e : fitsS n false = (n == 0) := by unfold fitsS; simp only [Bool.false_eq_true, if_false]; exact (by rw [Bool.eq_iff_iff]; simp)
    rw [e]
    clear e
    go_enter Try.func40, Try.ntmps40
    go_wp2
    go_ret
    exact ⟨rfl, rfl⟩
  · by_cases g : 0 ≤ n
    · have e : fitsS n true = decide (n < 64) := by unfold fitsS; simp only [if_true]; rw [decide_eq_decide]; omega
      rw [e]
      have h1 : decide (0 ≤ n) = true := by simp; omega
      clear e
      go_enter Try.func40, Try.ntmps40
      go_wp2
      go_ret
      exact ⟨rfl, rfl⟩
    · have e : fitsS n true = false := by unfold fitsS; simp; omega
      rw [e]
      have h1 : decide (0 ≤ n) = false := by simp; omega
      clear e
      go_enter Try.func40, Try.ntmps40
      go_wp2
      go_ret
      exact ⟨rfl, rfl⟩

def zeroLay : Array Value := #[.bool false, .bool false, .bool false, .int .i32 0, .int .i32 0]
def CanPost (x : Q5) (w : World) (e : Ending) (w' : World) : Prop := e = .returned (.tuple #[.agg (if canS x then layV x.o else zeroLay), .bool (canS x)]) ∧ Below w.heap.size w w'
theorem can_false {o d a b i : Int} {w w' : World} (h : canS ⟨o, d, a, b, i⟩ = false) (hb : Below w.heap.size w w') : CanPost ⟨o, d, a, b, i⟩ w (.returned (.tuple #[.agg #[.bool false, .bool false, .bool false, .int .i32 0, .int .i32 0], .bool false])) w' := by
  refine ⟨?_, hb⟩
  rw [h]
  rfl
theorem can_true {o d a b i : Int} {w w' : World} (h : canS ⟨o, d, a, b, i⟩ = true) (hb : Below w.heap.size w w') : CanPost ⟨o, d, a, b, i⟩ w (.returned (.tuple #[.agg #[.bool (hasD o), .bool (hasA o), .bool (hasB o), .int .i32 (leastS o), .int .i32 (mostS o)], .bool true])) w' := by
  refine ⟨?_, hb⟩
  rw [h]
  rfl

set_option maxHeartbeats 1000000 in
theorem can_way0 (o d a b i : Int) (w : World) (h0 : isOp o = false) :
    Calls Try.prog 26 #[.agg #[.int .i64 o, .int .i64 d, .int .i64 a, .int .i64 b, .int .i32 i]] w (CanPost ⟨o, d, a, b, i⟩ w) := by
  have C := Lib.hid (show canS ⟨o, d, a, b, i⟩ = false by unfold canS; simp [h0])
  have H0 := Lib.hid h0
  clear h0
  go_enter Try.func26, Try.ntmps26
  go_wp2_with fail
  refine (layout_any o _).mono ?_
  unfold LayPost layV
  rw [H0.out]
  rintro e w1 ⟨rfl, rfl⟩
  go_wp2_with fail
  exact bodyPost_ret (v := .tuple #[.agg #[.bool false, .bool false, .bool false, .int .i32 0, .int .i32 0], .bool false]) (by simp [results, Try.results26, go_sem]) rfl (can_false C.out (by go_grown))
set_option maxHeartbeats 1000000 in
theorem can_way1 (o d a b i : Int) (w : World) (h0 : isOp o = true) (h1 : fitsS d (hasD o) = false) :
    Calls Try.prog 26 #[.agg #[.int .i64 o, .int .i64 d, .int .i64 a, .int .i64 b, .int .i32 i]] w (CanPost ⟨o, d, a, b, i⟩ w) := by
  have C := Lib.hid (show canS ⟨o, d, a, b, i⟩ = false by unfold canS; simp [h0, h1])
  have H0 := Lib.hid h0
  have H1 := Lib.hid h1
  clear h0 h1
  go_enter Try.func26, Try.ntmps26
  go_wp2_with fail
  refine (layout_any o _).mono ?_
  unfold LayPost layV
  rw [H0.out]
  rintro e w1 ⟨rfl, rfl⟩
  go_wp2_with fail
  refine (variable_any d _ _).mono ?_
  rw [H1.out]
  rintro e w2 ⟨rfl, rfl⟩
  go_wp2_with fail
  exact bodyPost_ret (v := .tuple #[.agg #[.bool false, .bool false, .bool false, .int .i32 0, .int .i32 0], .bool false]) (by simp [results, Try.results26, go_sem]) rfl (can_false C.out (by go_grown))
set_option maxHeartbeats 1000000 in
theorem can_way2 (o d a b i : Int) (w : World) (h0 : isOp o = true) (h1 : fitsS d (hasD o) = true) (h2 : fitsS a (hasA o) = false) :
    Calls Try.prog 26 #[.agg #[.int .i64 o, .int .i64 d, .int .i64 a, .int .i64 b, .int .i32 i]] w (CanPost ⟨o, d, a, b, i⟩ w) := by
  have C := Lib.hid (show canS ⟨o, d, a, b, i⟩ = false by unfold canS; simp [h0, h1, h2])
  have H0 := Lib.hid h0
  have H1 := Lib.hid h1
  have H2 := Lib.hid h2
  clear h0 h1 h2
  go_enter Try.func26, Try.ntmps26
  go_wp2_with fail
  refine (layout_any o _).mono ?_
  unfold LayPost layV
  rw [H0.out]
  rintro e w1 ⟨rfl, rfl⟩
  go_wp2_with fail
  refine (variable_any d _ _).mono ?_
  rw [H1.out]
  rintro e w2 ⟨rfl, rfl⟩
  go_wp2_with fail
  refine (variable_any a _ _).mono ?_
  rw [H2.out]
  rintro e w3 ⟨rfl, rfl⟩
  go_wp2_with fail
  exact bodyPost_ret (v := .tuple #[.agg #[.bool false, .bool false, .bool false, .int .i32 0, .int .i32 0], .bool false]) (by simp [results, Try.results26, go_sem]) rfl (can_false C.out (by go_grown))
set_option maxHeartbeats 1000000 in
theorem can_way3 (o d a b i : Int) (w : World) (h0 : isOp o = true) (h1 : fitsS d (hasD o) = true) (h2 : fitsS a (hasA o) = true) (h3 : fitsS b (hasB o) = false) :
    Calls Try.prog 26 #[.agg #[.int .i64 o, .int .i64 d, .int .i64 a, .int .i64 b, .int .i32 i]] w (CanPost ⟨o, d, a, b, i⟩ w) := by
  have C := Lib.hid (show canS ⟨o, d, a, b, i⟩ = false by unfold canS; simp [h0, h1, h2, h3])
  have H0 := Lib.hid h0
  have H1 := Lib.hid h1
  have H2 := Lib.hid h2
  have H3 := Lib.hid h3
  clear h0 h1 h2 h3
  go_enter Try.func26, Try.ntmps26
  go_wp2_with fail
  refine (layout_any o _).mono ?_
  unfold LayPost layV
  rw [H0.out]
  rintro e w1 ⟨rfl, rfl⟩
  go_wp2_with fail
  refine (variable_any d _ _).mono ?_
  rw [H1.out]
  rintro e w2 ⟨rfl, rfl⟩
  go_wp2_with fail
  refine (variable_any a _ _).mono ?_
  rw [H2.out]
  rintro e w3 ⟨rfl, rfl⟩
  go_wp2_with fail
  refine (variable_any b _ _).mono ?_
  rw [H3.out]
  rintro e w4 ⟨rfl, rfl⟩
  go_wp2_with fail
  exact bodyPost_ret (v := .tuple #[.agg #[.bool false, .bool false, .bool false, .int .i32 0, .int .i32 0], .bool false]) (by simp [results, Try.results26, go_sem]) rfl (can_false C.out (by go_grown))
set_option maxHeartbeats 1000000 in
theorem can_way4 (o d a b i : Int) (w : World) (h0 : isOp o = true) (h1 : fitsS d (hasD o) = true) (h2 : fitsS a (hasA o) = true) (h3 : fitsS b (hasB o) = true) (h4 : decide (leastS o ≤ i) = false) :
    Calls Try.prog 26 #[.agg #[.int .i64 o, .int .i64 d, .int .i64 a, .int .i64 b, .int .i32 i]] w (CanPost ⟨o, d, a, b, i⟩ w) := by
  have C := Lib.hid (show canS ⟨o, d, a, b, i⟩ = false by unfold canS; simp [h0, h1, h2, h3, h4])
  have i4 : decide (i < leastS o) = true := by have := of_decide_eq_false h4; simp; omega
  have H0 := Lib.hid h0
  have H1 := Lib.hid h1
  have H2 := Lib.hid h2
  have H3 := Lib.hid h3
  clear h0 h1 h2 h3 h4
  go_enter Try.func26, Try.ntmps26
  go_wp2_with fail
  refine (layout_any o _).mono ?_
  unfold LayPost layV
  rw [H0.out]
  rintro e w1 ⟨rfl, rfl⟩
  go_wp2_with fail
  refine (variable_any d _ _).mono ?_
  rw [H1.out]
  rintro e w2 ⟨rfl, rfl⟩
  go_wp2_with fail
  refine (variable_any a _ _).mono ?_
  rw [H2.out]
  rintro e w3 ⟨rfl, rfl⟩
  go_wp2_with fail
  refine (variable_any b _ _).mono ?_
  rw [H3.out]
  rintro e w4 ⟨rfl, rfl⟩
  go_wp2_with fail
  exact bodyPost_ret (v := .tuple #[.agg #[.bool false, .bool false, .bool false, .int .i32 0, .int .i32 0], .bool false]) (by simp [results, Try.results26, go_sem]) rfl (can_false C.out (by go_grown))
set_option maxHeartbeats 1000000 in
theorem can_way5 (o d a b i : Int) (w : World) (h0 : isOp o = true) (h1 : fitsS d (hasD o) = true) (h2 : fitsS a (hasA o) = true) (h3 : fitsS b (hasB o) = true) (h4 : decide (leastS o ≤ i) = true) (h5 : decide (i ≤ mostS o) = false) :
    Calls Try.prog 26 #[.agg #[.int .i64 o, .int .i64 d, .int .i64 a, .int .i64 b, .int .i32 i]] w (CanPost ⟨o, d, a, b, i⟩ w) := by
  have C := Lib.hid (show canS ⟨o, d, a, b, i⟩ = false by unfold canS; simp [h0, h1, h2, h3, h4, h5])
  have i4 : decide (i < leastS o) = false := by have := of_decide_eq_true h4; simp; omega
  have i5 : decide (mostS o < i) = true := by have := of_decide_eq_false h5; simp; omega
  have H0 := Lib.hid h0
  have H1 := Lib.hid h1
  have H2 := Lib.hid h2
  have H3 := Lib.hid h3
  clear h0 h1 h2 h3 h4 h5
  go_enter Try.func26, Try.ntmps26
  go_wp2_with fail
  refine (layout_any o _).mono ?_
  unfold LayPost layV
  rw [H0.out]
  rintro e w1 ⟨rfl, rfl⟩
  go_wp2_with fail
  refine (variable_any d _ _).mono ?_
  rw [H1.out]
  rintro e w2 ⟨rfl, rfl⟩
  go_wp2_with fail
  refine (variable_any a _ _).mono ?_
  rw [H2.out]
  rintro e w3 ⟨rfl, rfl⟩
  go_wp2_with fail
  refine (variable_any b _ _).mono ?_
  rw [H3.out]
  rintro e w4 ⟨rfl, rfl⟩
  go_wp2_with fail
  exact bodyPost_ret (v := .tuple #[.agg #[.bool false, .bool false, .bool false, .int .i32 0, .int .i32 0], .bool false]) (by simp [results, Try.results26, go_sem]) rfl (can_false C.out (by go_grown))
set_option maxHeartbeats 1000000 in
theorem can_way6 (o d a b i : Int) (w : World) (h0 : isOp o = true) (h1 : fitsS d (hasD o) = true) (h2 : fitsS a (hasA o) = true) (h3 : fitsS b (hasB o) = true) (h4 : decide (leastS o ≤ i) = true) (h5 : decide (i ≤ mostS o) = true) :
    Calls Try.prog 26 #[.agg #[.int .i64 o, .int .i64 d, .int .i64 a, .int .i64 b, .int .i32 i]] w (CanPost ⟨o, d, a, b, i⟩ w) := by
  have C := Lib.hid (show canS ⟨o, d, a, b, i⟩ = true by unfold canS; simp [h0, h1, h2, h3, h4, h5])
  have i4 : decide (i < leastS o) = false := by have := of_decide_eq_true h4; simp; omega
  have i5 : decide (mostS o < i) = false := by have := of_decide_eq_true h5; simp; omega
  have H0 := Lib.hid h0
  have H1 := Lib.hid h1
  have H2 := Lib.hid h2
  have H3 := Lib.hid h3
  clear h0 h1 h2 h3 h4 h5
  go_enter Try.func26, Try.ntmps26
  go_wp2_with fail
  refine (layout_any o _).mono ?_
  unfold LayPost layV
  rw [H0.out]
  rintro e w1 ⟨rfl, rfl⟩
  go_wp2_with fail
  refine (variable_any d _ _).mono ?_
  rw [H1.out]
  rintro e w2 ⟨rfl, rfl⟩
  go_wp2_with fail
  refine (variable_any a _ _).mono ?_
  rw [H2.out]
  rintro e w3 ⟨rfl, rfl⟩
  go_wp2_with fail
  refine (variable_any b _ _).mono ?_
  rw [H3.out]
  rintro e w4 ⟨rfl, rfl⟩
  go_wp2_with fail
  exact bodyPost_ret (v := .tuple #[.agg #[.bool (hasD o), .bool (hasA o), .bool (hasB o), .int .i32 (leastS o), .int .i32 (mostS o)], .bool true]) (by simp [results, Try.results26, go_sem]) rfl (can_true C.out (by go_grown))
theorem can_any (o d a b i : Int) (w : World) : Calls Try.prog 26 #[.agg #[.int .i64 o, .int .i64 d, .int .i64 a, .int .i64 b, .int .i32 i]] w (CanPost ⟨o, d, a, b, i⟩ w) := by
  cases h0 : isOp o
  · exact can_way0 o d a b i w h0
  cases h1 : fitsS d (hasD o)
  · exact can_way1 o d a b i w h0 h1
  cases h2 : fitsS a (hasA o)
  · exact can_way2 o d a b i w h0 h1 h2
  cases h3 : fitsS b (hasB o)
  · exact can_way3 o d a b i w h0 h1 h2 h3
  cases h4 : decide (leastS o ≤ i)
  · exact can_way4 o d a b i w h0 h1 h2 h3 h4
  cases h5 : decide (i ≤ mostS o)
  · exact can_way5 o d a b i w h0 h1 h2 h3 h4 h5
  exact can_way6 o d a b i w h0 h1 h2 h3 h4 h5
end Go.Proofs.Ytlieapapmkbbgaa
