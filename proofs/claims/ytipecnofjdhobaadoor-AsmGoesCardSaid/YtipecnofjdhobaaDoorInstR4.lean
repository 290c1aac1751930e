/- The document's table of operations, line by line: part 4. -/
import Derived.Test.YtipecnofjdhobaaDoorInstR0
namespace Go.Proofs.YtipecnofjdhobaaDoor
open Go Go.RowKit Pl
set_option linter.unusedVariables false
set_option maxHeartbeats 400000 in
theorem of_28 (w : World) : Calls Tryd.prog 16 #[.int .i64 28] w (OfP 28 w) := by
  have e : sortV 28 = #[.int .u32 3, .int .u32 0, .int .u32 0, .int .i64 1, .bool true, .bool true, .bool false] := rfl
  unfold OfP
  rw [e]
  clear e
  go_enter Tryd.func16, Tryd.ntmps16
  go_wp2
  exact bodyPost_ret (v := .tuple #[.agg #[.int .u32 3, .int .u32 0, .int .u32 0, .int .i64 1, .bool true, .bool true, .bool false], .bool true]) (by simp [results, Tryd.results16, go_sem]) rfl ⟨rfl, by go_grown⟩
set_option maxHeartbeats 400000 in
theorem of_29 (w : World) : Calls Tryd.prog 16 #[.int .i64 29] w (OfP 29 w) := by
  have e : sortV 29 = #[.int .u32 3, .int .u32 1, .int .u32 0, .int .i64 1, .bool true, .bool true, .bool false] := rfl
  unfold OfP
  rw [e]
  clear e
  go_enter Tryd.func16, Tryd.ntmps16
  go_wp2
  exact bodyPost_ret (v := .tuple #[.agg #[.int .u32 3, .int .u32 1, .int .u32 0, .int .i64 1, .bool true, .bool true, .bool false], .bool true]) (by simp [results, Tryd.results16, go_sem]) rfl ⟨rfl, by go_grown⟩
set_option maxHeartbeats 400000 in
theorem of_30 (w : World) : Calls Tryd.prog 16 #[.int .i64 30] w (OfP 30 w) := by
  have e : sortV 30 = #[.int .u32 3, .int .u32 2, .int .u32 0, .int .i64 1, .bool true, .bool true, .bool false] := rfl
  unfold OfP
  rw [e]
  clear e
  go_enter Tryd.func16, Tryd.ntmps16
  go_wp2
  exact bodyPost_ret (v := .tuple #[.agg #[.int .u32 3, .int .u32 2, .int .u32 0, .int .i64 1, .bool true, .bool true, .bool false], .bool true]) (by simp [results, Tryd.results16, go_sem]) rfl ⟨rfl, by go_grown⟩
set_option maxHeartbeats 400000 in
theorem of_31 (w : World) : Calls Tryd.prog 16 #[.int .i64 31] w (OfP 31 w) := by
  have e : sortV 31 = #[.int .u32 3, .int .u32 4, .int .u32 0, .int .i64 1, .bool true, .bool true, .bool false] := rfl
  unfold OfP
  rw [e]
  clear e
  go_enter Tryd.func16, Tryd.ntmps16
  go_wp2
  exact bodyPost_ret (v := .tuple #[.agg #[.int .u32 3, .int .u32 4, .int .u32 0, .int .i64 1, .bool true, .bool true, .bool false], .bool true]) (by simp [results, Tryd.results16, go_sem]) rfl ⟨rfl, by go_grown⟩
set_option maxHeartbeats 400000 in
theorem of_32 (w : World) : Calls Tryd.prog 16 #[.int .i64 32] w (OfP 32 w) := by
  have e : sortV 32 = #[.int .u32 3, .int .u32 5, .int .u32 0, .int .i64 1, .bool true, .bool true, .bool false] := rfl
  unfold OfP
  rw [e]
  clear e
  go_enter Tryd.func16, Tryd.ntmps16
  go_wp2
  exact bodyPost_ret (v := .tuple #[.agg #[.int .u32 3, .int .u32 5, .int .u32 0, .int .i64 1, .bool true, .bool true, .bool false], .bool true]) (by simp [results, Tryd.results16, go_sem]) rfl ⟨rfl, by go_grown⟩
set_option maxHeartbeats 400000 in
theorem of_33 (w : World) : Calls Tryd.prog 16 #[.int .i64 33] w (OfP 33 w) := by
  have e : sortV 33 = #[.int .u32 35, .int .u32 0, .int .u32 0, .int .i64 2, .bool false, .bool true, .bool true] := rfl
  unfold OfP
  rw [e]
  clear e
  go_enter Tryd.func16, Tryd.ntmps16
  go_wp2
  exact bodyPost_ret (v := .tuple #[.agg #[.int .u32 35, .int .u32 0, .int .u32 0, .int .i64 2, .bool false, .bool true, .bool true], .bool true]) (by simp [results, Tryd.results16, go_sem]) rfl ⟨rfl, by go_grown⟩
set_option maxHeartbeats 400000 in
theorem of_34 (w : World) : Calls Tryd.prog 16 #[.int .i64 34] w (OfP 34 w) := by
  have e : sortV 34 = #[.int .u32 35, .int .u32 1, .int .u32 0, .int .i64 2, .bool false, .bool true, .bool true] := rfl
  unfold OfP
  rw [e]
  clear e
  go_enter Tryd.func16, Tryd.ntmps16
  go_wp2
  exact bodyPost_ret (v := .tuple #[.agg #[.int .u32 35, .int .u32 1, .int .u32 0, .int .i64 2, .bool false, .bool true, .bool true], .bool true]) (by simp [results, Tryd.results16, go_sem]) rfl ⟨rfl, by go_grown⟩
set_option maxHeartbeats 400000 in
theorem of_35 (w : World) : Calls Tryd.prog 16 #[.int .i64 35] w (OfP 35 w) := by
  have e : sortV 35 = #[.int .u32 35, .int .u32 2, .int .u32 0, .int .i64 2, .bool false, .bool true, .bool true] := rfl
  unfold OfP
  rw [e]
  clear e
  go_enter Tryd.func16, Tryd.ntmps16
  go_wp2
  exact bodyPost_ret (v := .tuple #[.agg #[.int .u32 35, .int .u32 2, .int .u32 0, .int .i64 2, .bool false, .bool true, .bool true], .bool true]) (by simp [results, Tryd.results16, go_sem]) rfl ⟨rfl, by go_grown⟩
set_option maxHeartbeats 400000 in
theorem of_36 (w : World) : Calls Tryd.prog 16 #[.int .i64 36] w (OfP 36 w) := by
  have e : sortV 36 = #[.int .u32 99, .int .u32 0, .int .u32 0, .int .i64 3, .bool false, .bool true, .bool true] := rfl
  unfold OfP
  rw [e]
  clear e
  go_enter Tryd.func16, Tryd.ntmps16
  go_wp2
  exact bodyPost_ret (v := .tuple #[.agg #[.int .u32 99, .int .u32 0, .int .u32 0, .int .i64 3, .bool false, .bool true, .bool true], .bool true]) (by simp [results, Tryd.results16, go_sem]) rfl ⟨rfl, by go_grown⟩
set_option maxHeartbeats 400000 in
theorem of_37 (w : World) : Calls Tryd.prog 16 #[.int .i64 37] w (OfP 37 w) := by
  have e : sortV 37 = #[.int .u32 99, .int .u32 1, .int .u32 0, .int .i64 3, .bool false, .bool true, .bool true] := rfl
  unfold OfP
  rw [e]
  clear e
  go_enter Tryd.func16, Tryd.ntmps16
  go_wp2
  exact bodyPost_ret (v := .tuple #[.agg #[.int .u32 99, .int .u32 1, .int .u32 0, .int .i64 3, .bool false, .bool true, .bool true], .bool true]) (by simp [results, Tryd.results16, go_sem]) rfl ⟨rfl, by go_grown⟩
end Go.Proofs.YtipecnofjdhobaaDoor
