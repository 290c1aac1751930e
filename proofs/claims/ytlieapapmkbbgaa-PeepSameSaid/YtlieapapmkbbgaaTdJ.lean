/- Contract of peep.join. -/
import Derived.Test.YtlieapapmkbbgaaGP
import Derived.Test.YtlieapapmkbbgaaPeepB
namespace Go.Proofs.Ytlieapapmkbbgaa
open Go Go.RowKit
set_option linter.unusedVariables false

theorem wr32_eq (n : Int) : wrap32 n = wr32 n := by unfold wrap32 wr32; rfl
def JoinPost (w : World) (y x : Q5) (e : Ending) (w' : World) : Prop :=
  (match joinP y x with
    | some z => e = .returned (.tuple #[.agg #[.int .i64 z.o, .int .i64 z.d, .int .i64 z.a, .int .i64 z.b, .int .i32 z.i], .bool true])
    | none => e = .returned (.tuple #[.agg #[.int .i64 0, .int .i64 0, .int .i64 0, .int .i64 0, .int .i32 0], .bool false])) ∧ Below w.heap.size w w'
set_option maxRecDepth 100000 in
set_option maxHeartbeats 3000000 in
theorem join_ne (yo yd ya yb yi xo xd xa xb xi : Int) (w : World) (hd : yd ≠ xd) :
    Calls Try.prog 28 #[.agg #[.int .i64 yo, .int .i64 yd, .int .i64 ya, .int .i64 yb, .int .i32 yi], .agg #[.int .i64 xo, .int .i64 xd, .int .i64 xa, .int .i64 xb, .int .i32 xi]] w (JoinPost w ⟨yo, yd, ya, yb, yi⟩ ⟨xo, xd, xa, xb, xi⟩) := by
  have E := Lib.hid (show joinP ⟨yo, yd, ya, yb, yi⟩ ⟨xo, xd, xa, xb, xi⟩ = none by unfold joinP; dsimp only; (repeat' split) <;> first | rfl | (exfalso; omega))
  have t0 : (yd != xd) = true := by simp; omega
  clear hd
  go_enter Try.func28, Try.ntmps28
  go_wp2_with fail
  go_returns
  unfold JoinPost
  rw [E.out]
  exact ⟨rfl, by go_grown⟩
set_option maxRecDepth 100000 in
set_option maxHeartbeats 3000000 in
theorem join_aa (yo yd ya yb yi xo xd xa xb xi : Int) (w : World) (hd : yd = xd) (hy : yo = 1) (hx : xo = 13 ∧ xa = xd) :
    Calls Try.prog 28 #[.agg #[.int .i64 yo, .int .i64 yd, .int .i64 ya, .int .i64 yb, .int .i32 yi], .agg #[.int .i64 xo, .int .i64 xd, .int .i64 xa, .int .i64 xb, .int .i32 xi]] w (JoinPost w ⟨yo, yd, ya, yb, yi⟩ ⟨xo, xd, xa, xb, xi⟩) := by
  have E := Lib.hid (show joinP ⟨yo, yd, ya, yb, yi⟩ ⟨xo, xd, xa, xb, xi⟩ = some ⟨yo, yd, ya, yb, wr32 (yi + xi)⟩ by unfold joinP; dsimp only; (repeat' split) <;> first | rfl | (exfalso; omega))
  have t0 : (yd != xd) = false := by simp; omega
  have t1 : (yo == 1) = true := by simp; omega
  have t2 : (yo == 13) = false := by simp; omega
  have t3 : (xo == 1) = false := by simp; omega
  have t4 : (xo == 13) = true := by simp; omega
  have t5 : (xa == xd) = true := by simp; omega
  clear hd hy hx
  go_enter Try.func28, Try.ntmps28
  go_wp2_with fail
  go_returns
  unfold JoinPost
  rw [E.out]
  exact ⟨by dsimp only; rw [wr32_eq], by go_grown⟩
set_option maxRecDepth 100000 in
set_option maxHeartbeats 3000000 in
theorem join_ab (yo yd ya yb yi xo xd xa xb xi : Int) (w : World) (hd : yd = xd) (hy : yo = 1) (hx : xo = 13 ∧ xa ≠ xd) :
    Calls Try.prog 28 #[.agg #[.int .i64 yo, .int .i64 yd, .int .i64 ya, .int .i64 yb, .int .i32 yi], .agg #[.int .i64 xo, .int .i64 xd, .int .i64 xa, .int .i64 xb, .int .i32 xi]] w (JoinPost w ⟨yo, yd, ya, yb, yi⟩ ⟨xo, xd, xa, xb, xi⟩) := by
  have E := Lib.hid (show joinP ⟨yo, yd, ya, yb, yi⟩ ⟨xo, xd, xa, xb, xi⟩ = none by unfold joinP; dsimp only; (repeat' split) <;> first | rfl | (exfalso; omega))
  have t0 : (yd != xd) = false := by simp; omega
  have t1 : (yo == 1) = true := by simp; omega
  have t2 : (yo == 13) = false := by simp; omega
  have t3 : (xo == 1) = false := by simp; omega
  have t4 : (xo == 13) = true := by simp; omega
  have t5 : (xa == xd) = false := by simp; omega
  clear hd hy hx
  go_enter Try.func28, Try.ntmps28
  go_wp2_with fail
  go_returns
  unfold JoinPost
  rw [E.out]
  exact ⟨rfl, by go_grown⟩
set_option maxRecDepth 100000 in
set_option maxHeartbeats 3000000 in
theorem join_ac (yo yd ya yb yi xo xd xa xb xi : Int) (w : World) (hd : yd = xd) (hy : yo = 1) (hx : xo = 1) :
    Calls Try.prog 28 #[.agg #[.int .i64 yo, .int .i64 yd, .int .i64 ya, .int .i64 yb, .int .i32 yi], .agg #[.int .i64 xo, .int .i64 xd, .int .i64 xa, .int .i64 xb, .int .i32 xi]] w (JoinPost w ⟨yo, yd, ya, yb, yi⟩ ⟨xo, xd, xa, xb, xi⟩) := by
  have E := Lib.hid (show joinP ⟨yo, yd, ya, yb, yi⟩ ⟨xo, xd, xa, xb, xi⟩ = some ⟨xo, xd, xa, xb, xi⟩ by unfold joinP; dsimp only; (repeat' split) <;> first | rfl | (exfalso; omega))
  have t0 : (yd != xd) = false := by simp; omega
  have t1 : (yo == 1) = true := by simp; omega
  have t2 : (yo == 13) = false := by simp; omega
  have t3 : (xo == 1) = true := by simp; omega
  have t4 : (xo == 13) = false := by simp; omega
  clear hd hy hx
  go_enter Try.func28, Try.ntmps28
  go_wp2_with fail
  go_returns
  unfold JoinPost
  rw [E.out]
  exact ⟨rfl, by go_grown⟩
set_option maxRecDepth 100000 in
set_option maxHeartbeats 3000000 in
theorem join_ad (yo yd ya yb yi xo xd xa xb xi : Int) (w : World) (hd : yd = xd) (hy : yo = 1) (hx : xo ≠ 1 ∧ xo ≠ 13) :
    Calls Try.prog 28 #[.agg #[.int .i64 yo, .int .i64 yd, .int .i64 ya, .int .i64 yb, .int .i32 yi], .agg #[.int .i64 xo, .int .i64 xd, .int .i64 xa, .int .i64 xb, .int .i32 xi]] w (JoinPost w ⟨yo, yd, ya, yb, yi⟩ ⟨xo, xd, xa, xb, xi⟩) := by
  have E := Lib.hid (show joinP ⟨yo, yd, ya, yb, yi⟩ ⟨xo, xd, xa, xb, xi⟩ = none by unfold joinP; dsimp only; (repeat' split) <;> first | rfl | (exfalso; omega))
  have t0 : (yd != xd) = false := by simp; omega
  have t1 : (yo == 1) = true := by simp; omega
  have t2 : (yo == 13) = false := by simp; omega
  have t3 : (xo == 1) = false := by simp; omega
  have t4 : (xo == 13) = false := by simp; omega
  clear hd hy hx
  go_enter Try.func28, Try.ntmps28
  go_wp2_with fail
  go_returns
  unfold JoinPost
  rw [E.out]
  exact ⟨rfl, by go_grown⟩
set_option maxRecDepth 100000 in
set_option maxHeartbeats 3000000 in
theorem join_ba (yo yd ya yb yi xo xd xa xb xi : Int) (w : World) (hd : yd = xd) (hy : yo = 13 ∧ ya = yd) (hx : xo = 13 ∧ xa = xd) :
    Calls Try.prog 28 #[.agg #[.int .i64 yo, .int .i64 yd, .int .i64 ya, .int .i64 yb, .int .i32 yi], .agg #[.int .i64 xo, .int .i64 xd, .int .i64 xa, .int .i64 xb, .int .i32 xi]] w (JoinPost w ⟨yo, yd, ya, yb, yi⟩ ⟨xo, xd, xa, xb, xi⟩) := by
  have E := Lib.hid (show joinP ⟨yo, yd, ya, yb, yi⟩ ⟨xo, xd, xa, xb, xi⟩ = some ⟨yo, yd, ya, yb, wr32 (yi + xi)⟩ by unfold joinP; dsimp only; (repeat' split) <;> first | rfl | (exfalso; omega))
  have t0 : (yd != xd) = false := by simp; omega
  have t1 : (yo == 1) = false := by simp; omega
  have t2 : (yo == 13) = true := by simp; omega
  have t3 : (ya == yd) = true := by simp; omega
  have t4 : (xo == 1) = false := by simp; omega
  have t5 : (xo == 13) = true := by simp; omega
  have t6 : (xa == xd) = true := by simp; omega
  clear hd hy hx
  go_enter Try.func28, Try.ntmps28
  go_wp2_with fail
  go_returns
  unfold JoinPost
  rw [E.out]
  exact ⟨by dsimp only; rw [wr32_eq], by go_grown⟩
set_option maxRecDepth 100000 in
set_option maxHeartbeats 3000000 in
theorem join_bb (yo yd ya yb yi xo xd xa xb xi : Int) (w : World) (hd : yd = xd) (hy : yo = 13 ∧ ya = yd) (hx : xo = 13 ∧ xa ≠ xd) :
    Calls Try.prog 28 #[.agg #[.int .i64 yo, .int .i64 yd, .int .i64 ya, .int .i64 yb, .int .i32 yi], .agg #[.int .i64 xo, .int .i64 xd, .int .i64 xa, .int .i64 xb, .int .i32 xi]] w (JoinPost w ⟨yo, yd, ya, yb, yi⟩ ⟨xo, xd, xa, xb, xi⟩) := by
  have E := Lib.hid (show joinP ⟨yo, yd, ya, yb, yi⟩ ⟨xo, xd, xa, xb, xi⟩ = none by unfold joinP; dsimp only; (repeat' split) <;> first | rfl | (exfalso; omega))
  have t0 : (yd != xd) = false := by simp; omega
  have t1 : (yo == 1) = false := by simp; omega
  have t2 : (yo == 13) = true := by simp; omega
  have t3 : (ya == yd) = true := by simp; omega
  have t4 : (xo == 1) = false := by simp; omega
  have t5 : (xo == 13) = true := by simp; omega
  have t6 : (xa == xd) = false := by simp; omega
  clear hd hy hx
  go_enter Try.func28, Try.ntmps28
  go_wp2_with fail
  go_returns
  unfold JoinPost
  rw [E.out]
  exact ⟨rfl, by go_grown⟩
set_option maxRecDepth 100000 in
set_option maxHeartbeats 3000000 in
theorem join_bc (yo yd ya yb yi xo xd xa xb xi : Int) (w : World) (hd : yd = xd) (hy : yo = 13 ∧ ya = yd) (hx : xo = 1) :
    Calls Try.prog 28 #[.agg #[.int .i64 yo, .int .i64 yd, .int .i64 ya, .int .i64 yb, .int .i32 yi], .agg #[.int .i64 xo, .int .i64 xd, .int .i64 xa, .int .i64 xb, .int .i32 xi]] w (JoinPost w ⟨yo, yd, ya, yb, yi⟩ ⟨xo, xd, xa, xb, xi⟩) := by
  have E := Lib.hid (show joinP ⟨yo, yd, ya, yb, yi⟩ ⟨xo, xd, xa, xb, xi⟩ = none by unfold joinP; dsimp only; (repeat' split) <;> first | rfl | (exfalso; omega))
  have t0 : (yd != xd) = false := by simp; omega
  have t1 : (yo == 1) = false := by simp; omega
  have t2 : (yo == 13) = true := by simp; omega
  have t3 : (ya == yd) = true := by simp; omega
  have t4 : (xo == 1) = true := by simp; omega
  have t5 : (xo == 13) = false := by simp; omega
  clear hd hy hx
  go_enter Try.func28, Try.ntmps28
  go_wp2_with fail
  go_returns
  unfold JoinPost
  rw [E.out]
  exact ⟨rfl, by go_grown⟩
set_option maxRecDepth 100000 in
set_option maxHeartbeats 3000000 in
theorem join_bd (yo yd ya yb yi xo xd xa xb xi : Int) (w : World) (hd : yd = xd) (hy : yo = 13 ∧ ya = yd) (hx : xo ≠ 1 ∧ xo ≠ 13) :
    Calls Try.prog 28 #[.agg #[.int .i64 yo, .int .i64 yd, .int .i64 ya, .int .i64 yb, .int .i32 yi], .agg #[.int .i64 xo, .int .i64 xd, .int .i64 xa, .int .i64 xb, .int .i32 xi]] w (JoinPost w ⟨yo, yd, ya, yb, yi⟩ ⟨xo, xd, xa, xb, xi⟩) := by
  have E := Lib.hid (show joinP ⟨yo, yd, ya, yb, yi⟩ ⟨xo, xd, xa, xb, xi⟩ = none by unfold joinP; dsimp only; (repeat' split) <;> first | rfl | (exfalso; omega))
  have t0 : (yd != xd) = false := by simp; omega
  have t1 : (yo == 1) = false := by simp; omega
  have t2 : (yo == 13) = true := by simp; omega
  have t3 : (ya == yd) = true := by simp; omega
  have t4 : (xo == 1) = false := by simp; omega
  have t5 : (xo == 13) = false := by simp; omega
  clear hd hy hx
  go_enter Try.func28, Try.ntmps28
  go_wp2_with fail
  go_returns
  unfold JoinPost
  rw [E.out]
  exact ⟨rfl, by go_grown⟩
set_option maxRecDepth 100000 in
set_option maxHeartbeats 3000000 in
theorem join_ca (yo yd ya yb yi xo xd xa xb xi : Int) (w : World) (hd : yd = xd) (hy : yo = 13 ∧ ya ≠ yd) (hx : xo = 13 ∧ xa = xd) :
    Calls Try.prog 28 #[.agg #[.int .i64 yo, .int .i64 yd, .int .i64 ya, .int .i64 yb, .int .i32 yi], .agg #[.int .i64 xo, .int .i64 xd, .int .i64 xa, .int .i64 xb, .int .i32 xi]] w (JoinPost w ⟨yo, yd, ya, yb, yi⟩ ⟨xo, xd, xa, xb, xi⟩) := by
  have E := Lib.hid (show joinP ⟨yo, yd, ya, yb, yi⟩ ⟨xo, xd, xa, xb, xi⟩ = none by unfold joinP; dsimp only; (repeat' split) <;> first | rfl | (exfalso; omega))
  have t0 : (yd != xd) = false := by simp; omega
  have t1 : (yo == 1) = false := by simp; omega
  have t2 : (yo == 13) = true := by simp; omega
  have t3 : (ya == yd) = false := by simp; omega
  have t4 : (xo == 1) = false := by simp; omega
  have t5 : (xo == 13) = true := by simp; omega
  have t6 : (xa == xd) = true := by simp; omega
  clear hd hy hx
  go_enter Try.func28, Try.ntmps28
  go_wp2_with fail
  go_returns
  unfold JoinPost
  rw [E.out]
  exact ⟨rfl, by go_grown⟩
set_option maxRecDepth 100000 in
set_option maxHeartbeats 3000000 in
theorem join_cb (yo yd ya yb yi xo xd xa xb xi : Int) (w : World) (hd : yd = xd) (hy : yo = 13 ∧ ya ≠ yd) (hx : xo = 13 ∧ xa ≠ xd) :
    Calls Try.prog 28 #[.agg #[.int .i64 yo, .int .i64 yd, .int .i64 ya, .int .i64 yb, .int .i32 yi], .agg #[.int .i64 xo, .int .i64 xd, .int .i64 xa, .int .i64 xb, .int .i32 xi]] w (JoinPost w ⟨yo, yd, ya, yb, yi⟩ ⟨xo, xd, xa, xb, xi⟩) := by
  have E := Lib.hid (show joinP ⟨yo, yd, ya, yb, yi⟩ ⟨xo, xd, xa, xb, xi⟩ = none by unfold joinP; dsimp only; (repeat' split) <;> first | rfl | (exfalso; omega))
  have t0 : (yd != xd) = false := by simp; omega
  have t1 : (yo == 1) = false := by simp; omega
  have t2 : (yo == 13) = true := by simp; omega
  have t3 : (ya == yd) = false := by simp; omega
  have t4 : (xo == 1) = false := by simp; omega
  have t5 : (xo == 13) = true := by simp; omega
  have t6 : (xa == xd) = false := by simp; omega
  clear hd hy hx
  go_enter Try.func28, Try.ntmps28
  go_wp2_with fail
  go_returns
  unfold JoinPost
  rw [E.out]
  exact ⟨rfl, by go_grown⟩
set_option maxRecDepth 100000 in
set_option maxHeartbeats 3000000 in
theorem join_cc (yo yd ya yb yi xo xd xa xb xi : Int) (w : World) (hd : yd = xd) (hy : yo = 13 ∧ ya ≠ yd) (hx : xo = 1) :
    Calls Try.prog 28 #[.agg #[.int .i64 yo, .int .i64 yd, .int .i64 ya, .int .i64 yb, .int .i32 yi], .agg #[.int .i64 xo, .int .i64 xd, .int .i64 xa, .int .i64 xb, .int .i32 xi]] w (JoinPost w ⟨yo, yd, ya, yb, yi⟩ ⟨xo, xd, xa, xb, xi⟩) := by
  have E := Lib.hid (show joinP ⟨yo, yd, ya, yb, yi⟩ ⟨xo, xd, xa, xb, xi⟩ = none by unfold joinP; dsimp only; (repeat' split) <;> first | rfl | (exfalso; omega))
  have t0 : (yd != xd) = false := by simp; omega
  have t1 : (yo == 1) = false := by simp; omega
  have t2 : (yo == 13) = true := by simp; omega
  have t3 : (ya == yd) = false := by simp; omega
  have t4 : (xo == 1) = true := by simp; omega
  have t5 : (xo == 13) = false := by simp; omega
  clear hd hy hx
  go_enter Try.func28, Try.ntmps28
  go_wp2_with fail
  go_returns
  unfold JoinPost
  rw [E.out]
  exact ⟨rfl, by go_grown⟩
set_option maxRecDepth 100000 in
set_option maxHeartbeats 3000000 in
theorem join_cd (yo yd ya yb yi xo xd xa xb xi : Int) (w : World) (hd : yd = xd) (hy : yo = 13 ∧ ya ≠ yd) (hx : xo ≠ 1 ∧ xo ≠ 13) :
    Calls Try.prog 28 #[.agg #[.int .i64 yo, .int .i64 yd, .int .i64 ya, .int .i64 yb, .int .i32 yi], .agg #[.int .i64 xo, .int .i64 xd, .int .i64 xa, .int .i64 xb, .int .i32 xi]] w (JoinPost w ⟨yo, yd, ya, yb, yi⟩ ⟨xo, xd, xa, xb, xi⟩) := by
  have E := Lib.hid (show joinP ⟨yo, yd, ya, yb, yi⟩ ⟨xo, xd, xa, xb, xi⟩ = none by unfold joinP; dsimp only; (repeat' split) <;> first | rfl | (exfalso; omega))
  have t0 : (yd != xd) = false := by simp; omega
  have t1 : (yo == 1) = false := by simp; omega
  have t2 : (yo == 13) = true := by simp; omega
  have t3 : (ya == yd) = false := by simp; omega
  have t4 : (xo == 1) = false := by simp; omega
  have t5 : (xo == 13) = false := by simp; omega
  clear hd hy hx
  go_enter Try.func28, Try.ntmps28
  go_wp2_with fail
  go_returns
  unfold JoinPost
  rw [E.out]
  exact ⟨rfl, by go_grown⟩
set_option maxRecDepth 100000 in
set_option maxHeartbeats 3000000 in
theorem join_da (yo yd ya yb yi xo xd xa xb xi : Int) (w : World) (hd : yd = xd) (hy : yo ≠ 1 ∧ yo ≠ 13) (hx : xo = 13 ∧ xa = xd) :
    Calls Try.prog 28 #[.agg #[.int .i64 yo, .int .i64 yd, .int .i64 ya, .int .i64 yb, .int .i32 yi], .agg #[.int .i64 xo, .int .i64 xd, .int .i64 xa, .int .i64 xb, .int .i32 xi]] w (JoinPost w ⟨yo, yd, ya, yb, yi⟩ ⟨xo, xd, xa, xb, xi⟩) := by
  have E := Lib.hid (show joinP ⟨yo, yd, ya, yb, yi⟩ ⟨xo, xd, xa, xb, xi⟩ = none by unfold joinP; dsimp only; (repeat' split) <;> first | rfl | (exfalso; omega))
  have t0 : (yd != xd) = false := by simp; omega
  have t1 : (yo == 1) = false := by simp; omega
  have t2 : (yo == 13) = false := by simp; omega
  have t3 : (xo == 1) = false := by simp; omega
  have t4 : (xo == 13) = true := by simp; omega
  have t5 : (xa == xd) = true := by simp; omega
  clear hd hy hx
  go_enter Try.func28, Try.ntmps28
  go_wp2_with fail
  go_returns
  unfold JoinPost
  rw [E.out]
  exact ⟨rfl, by go_grown⟩
set_option maxRecDepth 100000 in
set_option maxHeartbeats 3000000 in
theorem join_db (yo yd ya yb yi xo xd xa xb xi : Int) (w : World) (hd : yd = xd) (hy : yo ≠ 1 ∧ yo ≠ 13) (hx : xo = 13 ∧ xa ≠ xd) :
    Calls Try.prog 28 #[.agg #[.int .i64 yo, .int .i64 yd, .int .i64 ya, .int .i64 yb, .int .i32 yi], .agg #[.int .i64 xo, .int .i64 xd, .int .i64 xa, .int .i64 xb, .int .i32 xi]] w (JoinPost w ⟨yo, yd, ya, yb, yi⟩ ⟨xo, xd, xa, xb, xi⟩) := by
  have E := Lib.hid (show joinP ⟨yo, yd, ya, yb, yi⟩ ⟨xo, xd, xa, xb, xi⟩ = none by unfold joinP; dsimp only; (repeat' split) <;> first | rfl | (exfalso; omega))
  have t0 : (yd != xd) = false := by simp; omega
  have t1 : (yo == 1) = false := by simp; omega
  have t2 : (yo == 13) = false := by simp; omega
  have t3 : (xo == 1) = false := by simp; omega
  have t4 : (xo == 13) = true := by simp; omega
  have t5 : (xa == xd) = false := by simp; omega
  clear hd hy hx
  go_enter Try.func28, Try.ntmps28
  go_wp2_with fail
  go_returns
  unfold JoinPost
  rw [E.out]
  exact ⟨rfl, by go_grown⟩
set_option maxRecDepth 100000 in
set_option maxHeartbeats 3000000 in
theorem join_dc (yo yd ya yb yi xo xd xa xb xi : Int) (w : World) (hd : yd = xd) (hy : yo ≠ 1 ∧ yo ≠ 13) (hx : xo = 1) :
    Calls Try.prog 28 #[.agg #[.int .i64 yo, .int .i64 yd, .int .i64 ya, .int .i64 yb, .int .i32 yi], .agg #[.int .i64 xo, .int .i64 xd, .int .i64 xa, .int .i64 xb, .int .i32 xi]] w (JoinPost w ⟨yo, yd, ya, yb, yi⟩ ⟨xo, xd, xa, xb, xi⟩) := by
  have E := Lib.hid (show joinP ⟨yo, yd, ya, yb, yi⟩ ⟨xo, xd, xa, xb, xi⟩ = none by unfold joinP; dsimp only; (repeat' split) <;> first | rfl | (exfalso; omega))
  have t0 : (yd != xd) = false := by simp; omega
  have t1 : (yo == 1) = false := by simp; omega
  have t2 : (yo == 13) = false := by simp; omega
  have t3 : (xo == 1) = true := by simp; omega
  have t4 : (xo == 13) = false := by simp; omega
  clear hd hy hx
  go_enter Try.func28, Try.ntmps28
  go_wp2_with fail
  go_returns
  unfold JoinPost
  rw [E.out]
  exact ⟨rfl, by go_grown⟩
set_option maxRecDepth 100000 in
set_option maxHeartbeats 3000000 in
theorem join_dd (yo yd ya yb yi xo xd xa xb xi : Int) (w : World) (hd : yd = xd) (hy : yo ≠ 1 ∧ yo ≠ 13) (hx : xo ≠ 1 ∧ xo ≠ 13) :
    Calls Try.prog 28 #[.agg #[.int .i64 yo, .int .i64 yd, .int .i64 ya, .int .i64 yb, .int .i32 yi], .agg #[.int .i64 xo, .int .i64 xd, .int .i64 xa, .int .i64 xb, .int .i32 xi]] w (JoinPost w ⟨yo, yd, ya, yb, yi⟩ ⟨xo, xd, xa, xb, xi⟩) := by
  have E := Lib.hid (show joinP ⟨yo, yd, ya, yb, yi⟩ ⟨xo, xd, xa, xb, xi⟩ = none by unfold joinP; dsimp only; (repeat' split) <;> first | rfl | (exfalso; omega))
  have t0 : (yd != xd) = false := by simp; omega
  have t1 : (yo == 1) = false := by simp; omega
  have t2 : (yo == 13) = false := by simp; omega
  have t3 : (xo == 1) = false := by simp; omega
  have t4 : (xo == 13) = false := by simp; omega
  clear hd hy hx
  go_enter Try.func28, Try.ntmps28
  go_wp2_with fail
  go_returns
  unfold JoinPost
  rw [E.out]
  exact ⟨rfl, by go_grown⟩
theorem join_any (yo yd ya yb yi xo xd xa xb xi : Int) (w : World) :
    Calls Try.prog 28 #[.agg #[.int .i64 yo, .int .i64 yd, .int .i64 ya, .int .i64 yb, .int .i32 yi], .agg #[.int .i64 xo, .int .i64 xd, .int .i64 xa, .int .i64 xb, .int .i32 xi]] w (JoinPost w ⟨yo, yd, ya, yb, yi⟩ ⟨xo, xd, xa, xb, xi⟩) := by
  by_cases hd : yd = xd
  · have hx : (xo = 13 ∧ xa = xd) ∨ (xo = 13 ∧ xa ≠ xd) ∨ xo = 1 ∨ (xo ≠ 1 ∧ xo ≠ 13) := by omega
    have hy : yo = 1 ∨ (yo = 13 ∧ ya = yd) ∨ (yo = 13 ∧ ya ≠ yd) ∨ (yo ≠ 1 ∧ yo ≠ 13) := by omega
    rcases hy with hy | hy | hy | hy <;> rcases hx with hx | hx | hx | hx
    · exact join_aa _ _ _ _ _ _ _ _ _ _ w hd hy hx
    · exact join_ab _ _ _ _ _ _ _ _ _ _ w hd hy hx
    · exact join_ac _ _ _ _ _ _ _ _ _ _ w hd hy hx
    · exact join_ad _ _ _ _ _ _ _ _ _ _ w hd hy hx
    · exact join_ba _ _ _ _ _ _ _ _ _ _ w hd hy hx
    · exact join_bb _ _ _ _ _ _ _ _ _ _ w hd hy hx
    · exact join_bc _ _ _ _ _ _ _ _ _ _ w hd hy hx
    · exact join_bd _ _ _ _ _ _ _ _ _ _ w hd hy hx
    · exact join_ca _ _ _ _ _ _ _ _ _ _ w hd hy hx
    · exact join_cb _ _ _ _ _ _ _ _ _ _ w hd hy hx
    · exact join_cc _ _ _ _ _ _ _ _ _ _ w hd hy hx
    · exact join_cd _ _ _ _ _ _ _ _ _ _ w hd hy hx
    · exact join_da _ _ _ _ _ _ _ _ _ _ w hd hy hx
    · exact join_db _ _ _ _ _ _ _ _ _ _ w hd hy hx
    · exact join_dc _ _ _ _ _ _ _ _ _ _ w hd hy hx
    · exact join_dd _ _ _ _ _ _ _ _ _ _ w hd hy hx
  · exact join_ne _ _ _ _ _ _ _ _ _ _ w hd
end Go.Proofs.Ytlieapapmkbbgaa
