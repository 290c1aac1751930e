/- The document's table of operations, line by line: part 5. -/
import Derived.Test.YtipecnofjdhobaaDoorInstR0
namespace Go.Proofs.YtipecnofjdhobaaDoor
open Go Go.RowKit Pl
set_option linter.unusedVariables false
set_option maxHeartbeats 400000 in
theorem of_38 (w : World) : Calls Tryd.prog 16 #[.int .i64 38] w (OfP 38 w) := by
  have e : sortV 38 = #[.int .u32 99, .int .u32 4, .int .u32 0, .int .i64 3, .bool false, .bool true, .bool true] := rfl
  unfold OfP
  rw [e]
  clear e
  go_enter Tryd.func16, Tryd.ntmps16
  go_wp2
  exact bodyPost_ret (v := .tuple #[.agg #[.int .u32 99, .int .u32 4, .int .u32 0, .int .i64 3, .bool false, .bool true, .bool true], .bool true]) (by simp [results, Tryd.results16, go_sem]) rfl ⟨rfl, by go_grown⟩
set_option maxHeartbeats 400000 in
theorem of_39 (w : World) : Calls Tryd.prog 16 #[.int .i64 39] w (OfP 39 w) := by
  have e : sortV 39 = #[.int .u32 99, .int .u32 5, .int .u32 0, .int .i64 3, .bool false, .bool true, .bool true] := rfl
  unfold OfP
  rw [e]
  clear e
  go_enter Tryd.func16, Tryd.ntmps16
  go_wp2
  exact bodyPost_ret (v := .tuple #[.agg #[.int .u32 99, .int .u32 5, .int .u32 0, .int .i64 3, .bool false, .bool true, .bool true], .bool true]) (by simp [results, Tryd.results16, go_sem]) rfl ⟨rfl, by go_grown⟩
set_option maxHeartbeats 400000 in
theorem of_40 (w : World) : Calls Tryd.prog 16 #[.int .i64 40] w (OfP 40 w) := by
  have e : sortV 40 = #[.int .u32 99, .int .u32 6, .int .u32 0, .int .i64 3, .bool false, .bool true, .bool true] := rfl
  unfold OfP
  rw [e]
  clear e
  go_enter Tryd.func16, Tryd.ntmps16
  go_wp2
  exact bodyPost_ret (v := .tuple #[.agg #[.int .u32 99, .int .u32 6, .int .u32 0, .int .i64 3, .bool false, .bool true, .bool true], .bool true]) (by simp [results, Tryd.results16, go_sem]) rfl ⟨rfl, by go_grown⟩
set_option maxHeartbeats 400000 in
theorem of_41 (w : World) : Calls Tryd.prog 16 #[.int .i64 41] w (OfP 41 w) := by
  have e : sortV 41 = #[.int .u32 99, .int .u32 7, .int .u32 0, .int .i64 3, .bool false, .bool true, .bool true] := rfl
  unfold OfP
  rw [e]
  clear e
  go_enter Tryd.func16, Tryd.ntmps16
  go_wp2
  exact bodyPost_ret (v := .tuple #[.agg #[.int .u32 99, .int .u32 7, .int .u32 0, .int .i64 3, .bool false, .bool true, .bool true], .bool true]) (by simp [results, Tryd.results16, go_sem]) rfl ⟨rfl, by go_grown⟩
set_option maxHeartbeats 400000 in
theorem of_42 (w : World) : Calls Tryd.prog 16 #[.int .i64 42] w (OfP 42 w) := by
  have e : sortV 42 = #[.int .u32 55, .int .u32 0, .int .u32 0, .int .i64 4, .bool true, .bool false, .bool false] := rfl
  unfold OfP
  rw [e]
  clear e
  go_enter Tryd.func16, Tryd.ntmps16
  go_wp2
  exact bodyPost_ret (v := .tuple #[.agg #[.int .u32 55, .int .u32 0, .int .u32 0, .int .i64 4, .bool true, .bool false, .bool false], .bool true]) (by simp [results, Tryd.results16, go_sem]) rfl ⟨rfl, by go_grown⟩
set_option maxHeartbeats 400000 in
theorem of_43 (w : World) : Calls Tryd.prog 16 #[.int .i64 43] w (OfP 43 w) := by
  have e : sortV 43 = #[.int .u32 23, .int .u32 0, .int .u32 0, .int .i64 4, .bool true, .bool false, .bool false] := rfl
  unfold OfP
  rw [e]
  clear e
  go_enter Tryd.func16, Tryd.ntmps16
  go_wp2
  exact bodyPost_ret (v := .tuple #[.agg #[.int .u32 23, .int .u32 0, .int .u32 0, .int .i64 4, .bool true, .bool false, .bool false], .bool true]) (by simp [results, Tryd.results16, go_sem]) rfl ⟨rfl, by go_grown⟩
set_option maxHeartbeats 400000 in
theorem of_44 (w : World) : Calls Tryd.prog 16 #[.int .i64 44] w (OfP 44 w) := by
  have e : sortV 44 = #[.int .u32 111, .int .u32 0, .int .u32 0, .int .i64 5, .bool true, .bool false, .bool false] := rfl
  unfold OfP
  rw [e]
  clear e
  go_enter Tryd.func16, Tryd.ntmps16
  go_wp2
  exact bodyPost_ret (v := .tuple #[.agg #[.int .u32 111, .int .u32 0, .int .u32 0, .int .i64 5, .bool true, .bool false, .bool false], .bool true]) (by simp [results, Tryd.results16, go_sem]) rfl ⟨rfl, by go_grown⟩
set_option maxHeartbeats 400000 in
theorem of_45 (w : World) : Calls Tryd.prog 16 #[.int .i64 45] w (OfP 45 w) := by
  have e : sortV 45 = #[.int .u32 103, .int .u32 0, .int .u32 0, .int .i64 1, .bool true, .bool true, .bool false] := rfl
  unfold OfP
  rw [e]
  clear e
  go_enter Tryd.func16, Tryd.ntmps16
  go_wp2
  exact bodyPost_ret (v := .tuple #[.agg #[.int .u32 103, .int .u32 0, .int .u32 0, .int .i64 1, .bool true, .bool true, .bool false], .bool true]) (by simp [results, Tryd.results16, go_sem]) rfl ⟨rfl, by go_grown⟩
set_option maxHeartbeats 400000 in
theorem of_46 (w : World) : Calls Tryd.prog 16 #[.int .i64 46] w (OfP 46 w) := by
  have e : sortV 46 = #[.int .u32 15, .int .u32 0, .int .u32 0, .int .i64 1, .bool false, .bool false, .bool false] := rfl
  unfold OfP
  rw [e]
  clear e
  go_enter Tryd.func16, Tryd.ntmps16
  go_wp2
  exact bodyPost_ret (v := .tuple #[.agg #[.int .u32 15, .int .u32 0, .int .u32 0, .int .i64 1, .bool false, .bool false, .bool false], .bool true]) (by simp [results, Tryd.results16, go_sem]) rfl ⟨rfl, by go_grown⟩
end Go.Proofs.YtipecnofjdhobaaDoor
