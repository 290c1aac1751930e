/- The document's table of operations, line by line: part 1. -/
import Derived.Test.YtipecnofjdhobaaDoorInstR0
namespace Go.Proofs.YtipecnofjdhobaaDoor
open Go Go.RowKit Pl
set_option linter.unusedVariables false
set_option maxHeartbeats 400000 in
theorem of_1 (w : World) : Calls Tryd.prog 16 #[.int .i64 1] w (OfP 1 w) := by
  have e : sortV 1 = #[.int .u32 51, .int .u32 0, .int .u32 0, .int .i64 0, .bool true, .bool true, .bool true] := rfl
  unfold OfP
  rw [e]
  clear e
  go_enter Tryd.func16, Tryd.ntmps16
  go_wp2
  exact bodyPost_ret (v := .tuple #[.agg #[.int .u32 51, .int .u32 0, .int .u32 0, .int .i64 0, .bool true, .bool true, .bool true], .bool true]) (by simp [results, Tryd.results16, go_sem]) rfl ⟨rfl, by go_grown⟩
set_option maxHeartbeats 400000 in
theorem of_2 (w : World) : Calls Tryd.prog 16 #[.int .i64 2] w (OfP 2 w) := by
  have e : sortV 2 = #[.int .u32 51, .int .u32 0, .int .u32 32, .int .i64 0, .bool true, .bool true, .bool true] := rfl
  unfold OfP
  rw [e]
  clear e
  go_enter Tryd.func16, Tryd.ntmps16
  go_wp2
  exact bodyPost_ret (v := .tuple #[.agg #[.int .u32 51, .int .u32 0, .int .u32 32, .int .i64 0, .bool true, .bool true, .bool true], .bool true]) (by simp [results, Tryd.results16, go_sem]) rfl ⟨rfl, by go_grown⟩
set_option maxHeartbeats 400000 in
theorem of_3 (w : World) : Calls Tryd.prog 16 #[.int .i64 3] w (OfP 3 w) := by
  have e : sortV 3 = #[.int .u32 51, .int .u32 1, .int .u32 0, .int .i64 0, .bool true, .bool true, .bool true] := rfl
  unfold OfP
  rw [e]
  clear e
  go_enter Tryd.func16, Tryd.ntmps16
  go_wp2
  exact bodyPost_ret (v := .tuple #[.agg #[.int .u32 51, .int .u32 1, .int .u32 0, .int .i64 0, .bool true, .bool true, .bool true], .bool true]) (by simp [results, Tryd.results16, go_sem]) rfl ⟨rfl, by go_grown⟩
set_option maxHeartbeats 400000 in
theorem of_4 (w : World) : Calls Tryd.prog 16 #[.int .i64 4] w (OfP 4 w) := by
  have e : sortV 4 = #[.int .u32 51, .int .u32 2, .int .u32 0, .int .i64 0, .bool true, .bool true, .bool true] := rfl
  unfold OfP
  rw [e]
  clear e
  go_enter Tryd.func16, Tryd.ntmps16
  go_wp2
  exact bodyPost_ret (v := .tuple #[.agg #[.int .u32 51, .int .u32 2, .int .u32 0, .int .i64 0, .bool true, .bool true, .bool true], .bool true]) (by simp [results, Tryd.results16, go_sem]) rfl ⟨rfl, by go_grown⟩
set_option maxHeartbeats 400000 in
theorem of_5 (w : World) : Calls Tryd.prog 16 #[.int .i64 5] w (OfP 5 w) := by
  have e : sortV 5 = #[.int .u32 51, .int .u32 3, .int .u32 0, .int .i64 0, .bool true, .bool true, .bool true] := rfl
  unfold OfP
  rw [e]
  clear e
  go_enter Tryd.func16, Tryd.ntmps16
  go_wp2
  exact bodyPost_ret (v := .tuple #[.agg #[.int .u32 51, .int .u32 3, .int .u32 0, .int .i64 0, .bool true, .bool true, .bool true], .bool true]) (by simp [results, Tryd.results16, go_sem]) rfl ⟨rfl, by go_grown⟩
set_option maxHeartbeats 400000 in
theorem of_6 (w : World) : Calls Tryd.prog 16 #[.int .i64 6] w (OfP 6 w) := by
  have e : sortV 6 = #[.int .u32 51, .int .u32 4, .int .u32 0, .int .i64 0, .bool true, .bool true, .bool true] := rfl
  unfold OfP
  rw [e]
  clear e
  go_enter Tryd.func16, Tryd.ntmps16
  go_wp2
  exact bodyPost_ret (v := .tuple #[.agg #[.int .u32 51, .int .u32 4, .int .u32 0, .int .i64 0, .bool true, .bool true, .bool true], .bool true]) (by simp [results, Tryd.results16, go_sem]) rfl ⟨rfl, by go_grown⟩
set_option maxHeartbeats 400000 in
theorem of_7 (w : World) : Calls Tryd.prog 16 #[.int .i64 7] w (OfP 7 w) := by
  have e : sortV 7 = #[.int .u32 51, .int .u32 5, .int .u32 0, .int .i64 0, .bool true, .bool true, .bool true] := rfl
  unfold OfP
  rw [e]
  clear e
  go_enter Tryd.func16, Tryd.ntmps16
  go_wp2
  exact bodyPost_ret (v := .tuple #[.agg #[.int .u32 51, .int .u32 5, .int .u32 0, .int .i64 0, .bool true, .bool true, .bool true], .bool true]) (by simp [results, Tryd.results16, go_sem]) rfl ⟨rfl, by go_grown⟩
set_option maxHeartbeats 400000 in
theorem of_8 (w : World) : Calls Tryd.prog 16 #[.int .i64 8] w (OfP 8 w) := by
  have e : sortV 8 = #[.int .u32 51, .int .u32 5, .int .u32 32, .int .i64 0, .bool true, .bool true, .bool true] := rfl
  unfold OfP
  rw [e]
  clear e
  go_enter Tryd.func16, Tryd.ntmps16
  go_wp2
  exact bodyPost_ret (v := .tuple #[.agg #[.int .u32 51, .int .u32 5, .int .u32 32, .int .i64 0, .bool true, .bool true, .bool true], .bool true]) (by simp [results, Tryd.results16, go_sem]) rfl ⟨rfl, by go_grown⟩
set_option maxHeartbeats 400000 in
theorem of_9 (w : World) : Calls Tryd.prog 16 #[.int .i64 9] w (OfP 9 w) := by
  have e : sortV 9 = #[.int .u32 51, .int .u32 6, .int .u32 0, .int .i64 0, .bool true, .bool true, .bool true] := rfl
  unfold OfP
  rw [e]
  clear e
  go_enter Tryd.func16, Tryd.ntmps16
  go_wp2
  exact bodyPost_ret (v := .tuple #[.agg #[.int .u32 51, .int .u32 6, .int .u32 0, .int .i64 0, .bool true, .bool true, .bool true], .bool true]) (by simp [results, Tryd.results16, go_sem]) rfl ⟨rfl, by go_grown⟩
set_option maxHeartbeats 400000 in
theorem of_10 (w : World) : Calls Tryd.prog 16 #[.int .i64 10] w (OfP 10 w) := by
  have e : sortV 10 = #[.int .u32 51, .int .u32 7, .int .u32 0, .int .i64 0, .bool true, .bool true, .bool true] := rfl
  unfold OfP
  rw [e]
  clear e
  go_enter Tryd.func16, Tryd.ntmps16
  go_wp2
  exact bodyPost_ret (v := .tuple #[.agg #[.int .u32 51, .int .u32 7, .int .u32 0, .int .i64 0, .bool true, .bool true, .bool true], .bool true]) (by simp [results, Tryd.results16, go_sem]) rfl ⟨rfl, by go_grown⟩
end Go.Proofs.YtipecnofjdhobaaDoor
