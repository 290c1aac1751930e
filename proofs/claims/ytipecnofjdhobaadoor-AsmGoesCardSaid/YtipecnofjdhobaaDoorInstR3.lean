/- The document's table of operations, line by line: part 3. -/
import Derived.Test.YtipecnofjdhobaaDoorInstR0
namespace Go.Proofs.YtipecnofjdhobaaDoor
open Go Go.RowKit Pl
set_option linter.unusedVariables false
set_option maxHeartbeats 400000 in
theorem of_19 (w : World) : Calls Tryd.prog 16 #[.int .i64 19] w (OfP 19 w) := by
  have e : sortV 19 = #[.int .u32 19, .int .u32 0, .int .u32 0, .int .i64 1, .bool true, .bool true, .bool false] := rfl
  unfold OfP
  rw [e]
  clear e
  go_enter Tryd.func16, Tryd.ntmps16
  go_wp2
  exact bodyPost_ret (v := .tuple #[.agg #[.int .u32 19, .int .u32 0, .int .u32 0, .int .i64 1, .bool true, .bool true, .bool false], .bool true]) (by simp [results, Tryd.results16, go_sem]) rfl ⟨rfl, by go_grown⟩
set_option maxHeartbeats 400000 in
theorem of_20 (w : World) : Calls Tryd.prog 16 #[.int .i64 20] w (OfP 20 w) := by
  have e : sortV 20 = #[.int .u32 19, .int .u32 2, .int .u32 0, .int .i64 1, .bool true, .bool true, .bool false] := rfl
  unfold OfP
  rw [e]
  clear e
  go_enter Tryd.func16, Tryd.ntmps16
  go_wp2
  exact bodyPost_ret (v := .tuple #[.agg #[.int .u32 19, .int .u32 2, .int .u32 0, .int .i64 1, .bool true, .bool true, .bool false], .bool true]) (by simp [results, Tryd.results16, go_sem]) rfl ⟨rfl, by go_grown⟩
set_option maxHeartbeats 400000 in
theorem of_21 (w : World) : Calls Tryd.prog 16 #[.int .i64 21] w (OfP 21 w) := by
  have e : sortV 21 = #[.int .u32 19, .int .u32 3, .int .u32 0, .int .i64 1, .bool true, .bool true, .bool false] := rfl
  unfold OfP
  rw [e]
  clear e
  go_enter Tryd.func16, Tryd.ntmps16
  go_wp2
  exact bodyPost_ret (v := .tuple #[.agg #[.int .u32 19, .int .u32 3, .int .u32 0, .int .i64 1, .bool true, .bool true, .bool false], .bool true]) (by simp [results, Tryd.results16, go_sem]) rfl ⟨rfl, by go_grown⟩
set_option maxHeartbeats 400000 in
theorem of_22 (w : World) : Calls Tryd.prog 16 #[.int .i64 22] w (OfP 22 w) := by
  have e : sortV 22 = #[.int .u32 19, .int .u32 4, .int .u32 0, .int .i64 1, .bool true, .bool true, .bool false] := rfl
  unfold OfP
  rw [e]
  clear e
  go_enter Tryd.func16, Tryd.ntmps16
  go_wp2
  exact bodyPost_ret (v := .tuple #[.agg #[.int .u32 19, .int .u32 4, .int .u32 0, .int .i64 1, .bool true, .bool true, .bool false], .bool true]) (by simp [results, Tryd.results16, go_sem]) rfl ⟨rfl, by go_grown⟩
set_option maxHeartbeats 400000 in
theorem of_23 (w : World) : Calls Tryd.prog 16 #[.int .i64 23] w (OfP 23 w) := by
  have e : sortV 23 = #[.int .u32 19, .int .u32 6, .int .u32 0, .int .i64 1, .bool true, .bool true, .bool false] := rfl
  unfold OfP
  rw [e]
  clear e
  go_enter Tryd.func16, Tryd.ntmps16
  go_wp2
  exact bodyPost_ret (v := .tuple #[.agg #[.int .u32 19, .int .u32 6, .int .u32 0, .int .i64 1, .bool true, .bool true, .bool false], .bool true]) (by simp [results, Tryd.results16, go_sem]) rfl ⟨rfl, by go_grown⟩
set_option maxHeartbeats 400000 in
theorem of_24 (w : World) : Calls Tryd.prog 16 #[.int .i64 24] w (OfP 24 w) := by
  have e : sortV 24 = #[.int .u32 19, .int .u32 7, .int .u32 0, .int .i64 1, .bool true, .bool true, .bool false] := rfl
  unfold OfP
  rw [e]
  clear e
  go_enter Tryd.func16, Tryd.ntmps16
  go_wp2
  exact bodyPost_ret (v := .tuple #[.agg #[.int .u32 19, .int .u32 7, .int .u32 0, .int .i64 1, .bool true, .bool true, .bool false], .bool true]) (by simp [results, Tryd.results16, go_sem]) rfl ⟨rfl, by go_grown⟩
set_option maxHeartbeats 400000 in
theorem of_25 (w : World) : Calls Tryd.prog 16 #[.int .i64 25] w (OfP 25 w) := by
  have e : sortV 25 = #[.int .u32 19, .int .u32 1, .int .u32 0, .int .i64 6, .bool true, .bool true, .bool false] := rfl
  unfold OfP
  rw [e]
  clear e
  go_enter Tryd.func16, Tryd.ntmps16
  go_wp2
  exact bodyPost_ret (v := .tuple #[.agg #[.int .u32 19, .int .u32 1, .int .u32 0, .int .i64 6, .bool true, .bool true, .bool false], .bool true]) (by simp [results, Tryd.results16, go_sem]) rfl ⟨rfl, by go_grown⟩
set_option maxHeartbeats 400000 in
theorem of_26 (w : World) : Calls Tryd.prog 16 #[.int .i64 26] w (OfP 26 w) := by
  have e : sortV 26 = #[.int .u32 19, .int .u32 5, .int .u32 0, .int .i64 6, .bool true, .bool true, .bool false] := rfl
  unfold OfP
  rw [e]
  clear e
  go_enter Tryd.func16, Tryd.ntmps16
  go_wp2
  exact bodyPost_ret (v := .tuple #[.agg #[.int .u32 19, .int .u32 5, .int .u32 0, .int .i64 6, .bool true, .bool true, .bool false], .bool true]) (by simp [results, Tryd.results16, go_sem]) rfl ⟨rfl, by go_grown⟩
set_option maxHeartbeats 400000 in
theorem of_27 (w : World) : Calls Tryd.prog 16 #[.int .i64 27] w (OfP 27 w) := by
  have e : sortV 27 = #[.int .u32 19, .int .u32 5, .int .u32 32, .int .i64 6, .bool true, .bool true, .bool false] := rfl
  unfold OfP
  rw [e]
  clear e
  go_enter Tryd.func16, Tryd.ntmps16
  go_wp2
  exact bodyPost_ret (v := .tuple #[.agg #[.int .u32 19, .int .u32 5, .int .u32 32, .int .i64 6, .bool true, .bool true, .bool false], .bool true]) (by simp [results, Tryd.results16, go_sem]) rfl ⟨rfl, by go_grown⟩
end Go.Proofs.YtipecnofjdhobaaDoor
