/- The document's table of operations, line by line: part 2. -/
import Derived.Test.YtipecnofjdhobaaDoorInstR0
namespace Go.Proofs.YtipecnofjdhobaaDoor
open Go Go.RowKit Pl
set_option linter.unusedVariables false
set_option maxHeartbeats 400000 in
theorem of_11 (w : World) : Calls Tryd.prog 16 #[.int .i64 11] w (OfP 11 w) := by
  have e : sortV 11 = #[.int .u32 51, .int .u32 0, .int .u32 1, .int .i64 0, .bool true, .bool true, .bool true] := rfl
  unfold OfP
  rw [e]
  clear e
  go_enter Tryd.func16, Tryd.ntmps16
  go_wp2
  exact bodyPost_ret (v := .tuple #[.agg #[.int .u32 51, .int .u32 0, .int .u32 1, .int .i64 0, .bool true, .bool true, .bool true], .bool true]) (by simp [results, Tryd.results16, go_sem]) rfl ⟨rfl, by go_grown⟩
set_option maxHeartbeats 400000 in
theorem of_12 (w : World) : Calls Tryd.prog 16 #[.int .i64 12] w (OfP 12 w) := by
  have e : sortV 12 = #[.int .u32 51, .int .u32 1, .int .u32 1, .int .i64 0, .bool true, .bool true, .bool true] := rfl
  unfold OfP
  rw [e]
  clear e
  go_enter Tryd.func16, Tryd.ntmps16
  go_wp2
  exact bodyPost_ret (v := .tuple #[.agg #[.int .u32 51, .int .u32 1, .int .u32 1, .int .i64 0, .bool true, .bool true, .bool true], .bool true]) (by simp [results, Tryd.results16, go_sem]) rfl ⟨rfl, by go_grown⟩
set_option maxHeartbeats 400000 in
theorem of_13 (w : World) : Calls Tryd.prog 16 #[.int .i64 13] w (OfP 13 w) := by
  have e : sortV 13 = #[.int .u32 51, .int .u32 2, .int .u32 1, .int .i64 0, .bool true, .bool true, .bool true] := rfl
  unfold OfP
  rw [e]
  clear e
  go_enter Tryd.func16, Tryd.ntmps16
  go_wp2
  exact bodyPost_ret (v := .tuple #[.agg #[.int .u32 51, .int .u32 2, .int .u32 1, .int .i64 0, .bool true, .bool true, .bool true], .bool true]) (by simp [results, Tryd.results16, go_sem]) rfl ⟨rfl, by go_grown⟩
set_option maxHeartbeats 400000 in
theorem of_14 (w : World) : Calls Tryd.prog 16 #[.int .i64 14] w (OfP 14 w) := by
  have e : sortV 14 = #[.int .u32 51, .int .u32 3, .int .u32 1, .int .i64 0, .bool true, .bool true, .bool true] := rfl
  unfold OfP
  rw [e]
  clear e
  go_enter Tryd.func16, Tryd.ntmps16
  go_wp2
  exact bodyPost_ret (v := .tuple #[.agg #[.int .u32 51, .int .u32 3, .int .u32 1, .int .i64 0, .bool true, .bool true, .bool true], .bool true]) (by simp [results, Tryd.results16, go_sem]) rfl ⟨rfl, by go_grown⟩
set_option maxHeartbeats 400000 in
theorem of_15 (w : World) : Calls Tryd.prog 16 #[.int .i64 15] w (OfP 15 w) := by
  have e : sortV 15 = #[.int .u32 51, .int .u32 4, .int .u32 1, .int .i64 0, .bool true, .bool true, .bool true] := rfl
  unfold OfP
  rw [e]
  clear e
  go_enter Tryd.func16, Tryd.ntmps16
  go_wp2
  exact bodyPost_ret (v := .tuple #[.agg #[.int .u32 51, .int .u32 4, .int .u32 1, .int .i64 0, .bool true, .bool true, .bool true], .bool true]) (by simp [results, Tryd.results16, go_sem]) rfl ⟨rfl, by go_grown⟩
set_option maxHeartbeats 400000 in
theorem of_16 (w : World) : Calls Tryd.prog 16 #[.int .i64 16] w (OfP 16 w) := by
  have e : sortV 16 = #[.int .u32 51, .int .u32 5, .int .u32 1, .int .i64 0, .bool true, .bool true, .bool true] := rfl
  unfold OfP
  rw [e]
  clear e
  go_enter Tryd.func16, Tryd.ntmps16
  go_wp2
  exact bodyPost_ret (v := .tuple #[.agg #[.int .u32 51, .int .u32 5, .int .u32 1, .int .i64 0, .bool true, .bool true, .bool true], .bool true]) (by simp [results, Tryd.results16, go_sem]) rfl ⟨rfl, by go_grown⟩
set_option maxHeartbeats 400000 in
theorem of_17 (w : World) : Calls Tryd.prog 16 #[.int .i64 17] w (OfP 17 w) := by
  have e : sortV 17 = #[.int .u32 51, .int .u32 6, .int .u32 1, .int .i64 0, .bool true, .bool true, .bool true] := rfl
  unfold OfP
  rw [e]
  clear e
  go_enter Tryd.func16, Tryd.ntmps16
  go_wp2
  exact bodyPost_ret (v := .tuple #[.agg #[.int .u32 51, .int .u32 6, .int .u32 1, .int .i64 0, .bool true, .bool true, .bool true], .bool true]) (by simp [results, Tryd.results16, go_sem]) rfl ⟨rfl, by go_grown⟩
set_option maxHeartbeats 400000 in
theorem of_18 (w : World) : Calls Tryd.prog 16 #[.int .i64 18] w (OfP 18 w) := by
  have e : sortV 18 = #[.int .u32 51, .int .u32 7, .int .u32 1, .int .i64 0, .bool true, .bool true, .bool true] := rfl
  unfold OfP
  rw [e]
  clear e
  go_enter Tryd.func16, Tryd.ntmps16
  go_wp2
  exact bodyPost_ret (v := .tuple #[.agg #[.int .u32 51, .int .u32 7, .int .u32 1, .int .i64 0, .bool true, .bool true, .bool true], .bool true]) (by simp [results, Tryd.results16, go_sem]) rfl ⟨rfl, by go_grown⟩
end Go.Proofs.YtipecnofjdhobaaDoor
