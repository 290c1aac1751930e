/- Contract of window.Out: how many rows and columns come out of a window. -/
import Derived.Test.YtekdcfepfieleaaOpen
import Derived.Test.YtekdcfepfieleaaProg
import Derived.WalkSpells
import Derived.WalkSmall
import Derived.Handy
import Derived.Lib.Hide
import Derived.BigQuiet
import Derived.Laws.StructEq
import Derived.Deep.QuietTactic
namespace Go.Proofs.Ytekdcfepfieleaa
open Go Go.RowKit
set_option linter.unusedVariables false

/-- whether one side of a window is good, and how many come out of it -/
def gdW (n k s p q : Int) : Bool := decide (1 ≤ n ∧ n ≤ 64 ∧ 1 ≤ k ∧ k ≤ 8 ∧ 1 ≤ s ∧ s ≤ 8 ∧ 0 ≤ p ∧ p < k ∧ 0 ≤ q ∧ q < k ∧ k ≤ n + p + q)
def odW (n k s p q : Int) : Int := (n + p + q - k) / s + 1
def inB (n a b : Int) : Bool := decide (a ≤ n ∧ n ≤ b)
def padB (n k : Int) : Bool := decide (0 ≤ n ∧ n ≤ 7 ∧ n < k)
theorem inB_t {n a b : Int} (h : a ≤ n ∧ n ≤ b) : inB n a b = true := decide_eq_true h
theorem inB_f {n a b : Int} (h : ¬ (a ≤ n ∧ n ≤ b)) : inB n a b = false := decide_eq_false h
theorem padB_t {n k : Int} (h : 0 ≤ n ∧ n ≤ 7 ∧ n < k) : padB n k = true := decide_eq_true h
theorem padB_f {n k : Int} (h : ¬ (0 ≤ n ∧ n ≤ 7 ∧ n < k)) : padB n k = false := decide_eq_false h
theorem inB_o {n a b : Int} (h : inB n a b = true) : a ≤ n ∧ n ≤ b := of_decide_eq_true h
theorem padB_o {n k : Int} (h : padB n k = true) : 0 ≤ n ∧ n ≤ 7 ∧ n < k := of_decide_eq_true h
set_option maxHeartbeats 400000 in
theorem within_any (n a b : Int) (w : World) : Calls Try.prog 43 #[.int .i64 n, .int .i64 a, .int .i64 b] w fun e w' => e = .returned (.bool (inB n a b)) ∧ w = w' := by
  by_cases g : a ≤ n
  · have e : inB n a b = decide (n ≤ b) := by unfold inB; rw [decide_eq_decide]; omega
    rw [e]
    have h1 : decide (a ≤ n) = true := by simp; omega
    clear e
    go_enter Try.func43, Try.ntmps43
    go_wp2
    go_ret
    exact ⟨rfl, rfl⟩
  · rw [inB_f (by omega)]
    have h1 : decide (a ≤ n) = false := by simp; omega
    go_enter Try.func43, Try.ntmps43
    go_wp2
    go_ret
    exact ⟨rfl, rfl⟩
set_option maxHeartbeats 400000 in
theorem ispad_any (n k : Int) (w : World) : Calls Try.prog 44 #[.int .i64 n, .int .i64 k] w fun e w' => e = .returned (.bool (padB n k)) ∧ w = w' := by
  cases g : inB n 0 7
  · have e : padB n k = false := padB_f (fun h => by rw [inB_t (by omega)] at g; cases g)
    rw [e]
    have G := Lib.hid g
    clear e g
    go_enter Try.func44, Try.ntmps44
    go_wp2_with fail
    refine (within_any _ _ _ _).mono ?_
    rw [G.out]
    rintro e w1 ⟨rfl, rfl⟩
    go_wp2_with fail
    go_ret
    exact ⟨rfl, rfl⟩
  · have h := inB_o g
    have e : padB n k = decide (n < k) := by unfold padB; rw [decide_eq_decide]; omega
    rw [e]
    have G := Lib.hid g
    clear e g
    go_enter Try.func44, Try.ntmps44
    go_wp2_with fail
    refine (within_any _ _ _ _).mono ?_
    rw [G.out]
    rintro e w1 ⟨rfl, rfl⟩
    go_wp2_with fail
    go_ret
    exact ⟨rfl, rfl⟩
theorem div_bd {x s : Int} (h0 : 0 ≤ x) (h1 : x ≤ 1000) (hs : 1 ≤ s) : 0 ≤ x / s ∧ x / s ≤ 1000 :=
  ⟨Int.ediv_nonneg h0 (by omega), Int.le_trans (Int.ediv_le_self _ h0) h1⟩
def OutP (g : Bool) (a b : Int) (w : World) (e : Ending) (w' : World) : Prop := e = .returned (.tuple #[.agg #[.int .i64 (if g then a else 0), .int .i64 (if g then b else 0)], .bool g]) ∧ Below w.heap.size w w'
theorem out_no {g : Bool} {a b : Int} {w w' : World} (h : g = false) (hb : Below w.heap.size w w') : OutP g a b w (.returned (.tuple #[.agg #[.int .i64 0, .int .i64 0], .bool false])) w' := by subst h; exact ⟨rfl, hb⟩
theorem out_yes {g : Bool} {a b c d : Int} {w w' : World} (h : g = true) (ha : a = c) (hb' : b = d) (hb : Below w.heap.size w w') : OutP g a b w (.returned (.tuple #[.agg #[.int .i64 c, .int .i64 d], .bool true])) w' := by subst h ha hb'; exact ⟨rfl, hb⟩

set_option maxHeartbeats 2000000 in
theorem out_a0 (n0 n1 k0 k1 s0 s1 p0 p1 q0 q1 : Int) (w : World) (h0n : inB n0 1 64 = false) :
    Calls Try.prog 39 #[.agg #[.int .i64 n0, .int .i64 n1], .agg #[.int .i64 k0, .int .i64 k1], .agg #[.int .i64 s0, .int .i64 s1], .agg #[.int .i64 p0, .int .i64 p1, .int .i64 q0, .int .i64 q1]] w (OutP (gdW n0 k0 s0 p0 q0 && gdW n1 k1 s1 p1 q1) (odW n0 k0 s0 p0 q0) (odW n1 k1 s1 p1 q1) w) := by
  have GG := Lib.hid (show (gdW n0 k0 s0 p0 q0 && gdW n1 k1 s1 p1 q1) = false by rw [show gdW n0 k0 s0 p0 q0 = false from decide_eq_false (fun h => by rw [inB_t (by omega)] at h0n; cases h0n)]; simp)
  go_enter Try.func39, Try.ntmps39
  go_wp2_with fail
  refine wp_loop_rounds 3 ?_
  rw [rounds_succ]
  go_wp2_with fail
  go_quiet (fail)
  go_wp2_with (first | (go_at_call 43; refine (within_any _ _ _ _).mono ?_; rintro e w' ⟨rfl, rfl⟩) | (go_at_call 44; refine (ispad_any _ _ _).mono ?_; rintro e w' ⟨rfl, rfl⟩))
  exact bodyPost_ret (v := .tuple #[.agg #[.int .i64 0, .int .i64 0], .bool false]) (by simp [results, Try.results39, go_sem]) rfl (out_no GG.out (by repeat' (first | (with_reducible refine below_drewN ?_ _) | (with_reducible refine Below.setCell ?_ ?_ _) | (with_reducible refine Below.alloc ?_ ?_ _) | (with_reducible exact Below.refl _ _) | go_size)))
set_option maxHeartbeats 2000000 in
theorem out_a1 (n0 n1 k0 k1 s0 s1 p0 p1 q0 q1 : Int) (w : World) (h0n : inB n0 1 64 = true) (h0k : inB k0 1 8 = false) :
    Calls Try.prog 39 #[.agg #[.int .i64 n0, .int .i64 n1], .agg #[.int .i64 k0, .int .i64 k1], .agg #[.int .i64 s0, .int .i64 s1], .agg #[.int .i64 p0, .int .i64 p1, .int .i64 q0, .int .i64 q1]] w (OutP (gdW n0 k0 s0 p0 q0 && gdW n1 k1 s1 p1 q1) (odW n0 k0 s0 p0 q0) (odW n1 k1 s1 p1 q1) w) := by
  have f0n := inB_o h0n
  have GG := Lib.hid (show (gdW n0 k0 s0 p0 q0 && gdW n1 k1 s1 p1 q1) = false by rw [show gdW n0 k0 s0 p0 q0 = false from decide_eq_false (fun h => by rw [inB_t (by omega)] at h0k; cases h0k)]; simp)
  go_enter Try.func39, Try.ntmps39
  go_wp2_with fail
  refine wp_loop_rounds 3 ?_
  rw [rounds_succ]
  go_wp2_with fail
  go_quiet (fail)
  go_wp2_with (first | (go_at_call 43; refine (within_any _ _ _ _).mono ?_; rintro e w' ⟨rfl, rfl⟩) | (go_at_call 44; refine (ispad_any _ _ _).mono ?_; rintro e w' ⟨rfl, rfl⟩))
  exact bodyPost_ret (v := .tuple #[.agg #[.int .i64 0, .int .i64 0], .bool false]) (by simp [results, Try.results39, go_sem]) rfl (out_no GG.out (by repeat' (first | (with_reducible refine below_drewN ?_ _) | (with_reducible refine Below.setCell ?_ ?_ _) | (with_reducible refine Below.alloc ?_ ?_ _) | (with_reducible exact Below.refl _ _) | go_size)))
set_option maxHeartbeats 2000000 in
theorem out_a2 (n0 n1 k0 k1 s0 s1 p0 p1 q0 q1 : Int) (w : World) (h0n : inB n0 1 64 = true) (h0k : inB k0 1 8 = true) (h0s : inB s0 1 8 = false) :
    Calls Try.prog 39 #[.agg #[.int .i64 n0, .int .i64 n1], .agg #[.int .i64 k0, .int .i64 k1], .agg #[.int .i64 s0, .int .i64 s1], .agg #[.int .i64 p0, .int .i64 p1, .int .i64 q0, .int .i64 q1]] w (OutP (gdW n0 k0 s0 p0 q0 && gdW n1 k1 s1 p1 q1) (odW n0 k0 s0 p0 q0) (odW n1 k1 s1 p1 q1) w) := by
  have f0n := inB_o h0n
  have f0k := inB_o h0k
  have GG := Lib.hid (show (gdW n0 k0 s0 p0 q0 && gdW n1 k1 s1 p1 q1) = false by rw [show gdW n0 k0 s0 p0 q0 = false from decide_eq_false (fun h => by rw [inB_t (by omega)] at h0s; cases h0s)]; simp)
  go_enter Try.func39, Try.ntmps39
  go_wp2_with fail
  refine wp_loop_rounds 3 ?_
  rw [rounds_succ]
  go_wp2_with fail
  go_quiet (fail)
  go_wp2_with (first | (go_at_call 43; refine (within_any _ _ _ _).mono ?_; rintro e w' ⟨rfl, rfl⟩) | (go_at_call 44; refine (ispad_any _ _ _).mono ?_; rintro e w' ⟨rfl, rfl⟩))
  exact bodyPost_ret (v := .tuple #[.agg #[.int .i64 0, .int .i64 0], .bool false]) (by simp [results, Try.results39, go_sem]) rfl (out_no GG.out (by repeat' (first | (with_reducible refine below_drewN ?_ _) | (with_reducible refine Below.setCell ?_ ?_ _) | (with_reducible refine Below.alloc ?_ ?_ _) | (with_reducible exact Below.refl _ _) | go_size)))
set_option maxHeartbeats 2000000 in
theorem out_a3 (n0 n1 k0 k1 s0 s1 p0 p1 q0 q1 : Int) (w : World) (h0n : inB n0 1 64 = true) (h0k : inB k0 1 8 = true) (h0s : inB s0 1 8 = true) (h0p : padB p0 k0 = false) :
    Calls Try.prog 39 #[.agg #[.int .i64 n0, .int .i64 n1], .agg #[.int .i64 k0, .int .i64 k1], .agg #[.int .i64 s0, .int .i64 s1], .agg #[.int .i64 p0, .int .i64 p1, .int .i64 q0, .int .i64 q1]] w (OutP (gdW n0 k0 s0 p0 q0 && gdW n1 k1 s1 p1 q1) (odW n0 k0 s0 p0 q0) (odW n1 k1 s1 p1 q1) w) := by
  have f0n := inB_o h0n
  have f0k := inB_o h0k
  have f0s := inB_o h0s
  have GG := Lib.hid (show (gdW n0 k0 s0 p0 q0 && gdW n1 k1 s1 p1 q1) = false by rw [show gdW n0 k0 s0 p0 q0 = false from decide_eq_false (fun h => by rw [padB_t (by omega)] at h0p; cases h0p)]; simp)
  go_enter Try.func39, Try.ntmps39
  go_wp2_with fail
  refine wp_loop_rounds 3 ?_
  rw [rounds_succ]
  go_wp2_with fail
  go_quiet (fail)
  go_wp2_with (first | (go_at_call 43; refine (within_any _ _ _ _).mono ?_; rintro e w' ⟨rfl, rfl⟩) | (go_at_call 44; refine (ispad_any _ _ _).mono ?_; rintro e w' ⟨rfl, rfl⟩))
  exact bodyPost_ret (v := .tuple #[.agg #[.int .i64 0, .int .i64 0], .bool false]) (by simp [results, Try.results39, go_sem]) rfl (out_no GG.out (by repeat' (first | (with_reducible refine below_drewN ?_ _) | (with_reducible refine Below.setCell ?_ ?_ _) | (with_reducible refine Below.alloc ?_ ?_ _) | (with_reducible exact Below.refl _ _) | go_size)))
set_option maxHeartbeats 2000000 in
theorem out_a4 (n0 n1 k0 k1 s0 s1 p0 p1 q0 q1 : Int) (w : World) (h0n : inB n0 1 64 = true) (h0k : inB k0 1 8 = true) (h0s : inB s0 1 8 = true) (h0p : padB p0 k0 = true) (h0q : padB q0 k0 = false) :
    Calls Try.prog 39 #[.agg #[.int .i64 n0, .int .i64 n1], .agg #[.int .i64 k0, .int .i64 k1], .agg #[.int .i64 s0, .int .i64 s1], .agg #[.int .i64 p0, .int .i64 p1, .int .i64 q0, .int .i64 q1]] w (OutP (gdW n0 k0 s0 p0 q0 && gdW n1 k1 s1 p1 q1) (odW n0 k0 s0 p0 q0) (odW n1 k1 s1 p1 q1) w) := by
  have f0n := inB_o h0n
  have f0k := inB_o h0k
  have f0s := inB_o h0s
  have f0p := padB_o h0p
  have GG := Lib.hid (show (gdW n0 k0 s0 p0 q0 && gdW n1 k1 s1 p1 q1) = false by rw [show gdW n0 k0 s0 p0 q0 = false from decide_eq_false (fun h => by rw [padB_t (by omega)] at h0q; cases h0q)]; simp)
  go_enter Try.func39, Try.ntmps39
  go_wp2_with fail
  refine wp_loop_rounds 3 ?_
  rw [rounds_succ]
  go_wp2_with fail
  go_quiet (fail)
  go_wp2_with (first | (go_at_call 43; refine (within_any _ _ _ _).mono ?_; rintro e w' ⟨rfl, rfl⟩) | (go_at_call 44; refine (ispad_any _ _ _).mono ?_; rintro e w' ⟨rfl, rfl⟩))
  exact bodyPost_ret (v := .tuple #[.agg #[.int .i64 0, .int .i64 0], .bool false]) (by simp [results, Try.results39, go_sem]) rfl (out_no GG.out (by repeat' (first | (with_reducible refine below_drewN ?_ _) | (with_reducible refine Below.setCell ?_ ?_ _) | (with_reducible refine Below.alloc ?_ ?_ _) | (with_reducible exact Below.refl _ _) | go_size)))
set_option maxHeartbeats 2000000 in
theorem out_a5 (n0 n1 k0 k1 s0 s1 p0 p1 q0 q1 : Int) (w : World) (h0n : inB n0 1 64 = true) (h0k : inB k0 1 8 = true) (h0s : inB s0 1 8 = true) (h0p : padB p0 k0 = true) (h0q : padB q0 k0 = true) (h0r : n0 + p0 + q0 - k0 < 0) :
    Calls Try.prog 39 #[.agg #[.int .i64 n0, .int .i64 n1], .agg #[.int .i64 k0, .int .i64 k1], .agg #[.int .i64 s0, .int .i64 s1], .agg #[.int .i64 p0, .int .i64 p1, .int .i64 q0, .int .i64 q1]] w (OutP (gdW n0 k0 s0 p0 q0 && gdW n1 k1 s1 p1 q1) (odW n0 k0 s0 p0 q0) (odW n1 k1 s1 p1 q1) w) := by
  have f0n := inB_o h0n
  have f0k := inB_o h0k
  have f0s := inB_o h0s
  have f0p := padB_o h0p
  have f0q := padB_o h0q
  have GG := Lib.hid (show (gdW n0 k0 s0 p0 q0 && gdW n1 k1 s1 p1 q1) = false by rw [show gdW n0 k0 s0 p0 q0 = false from decide_eq_false (fun h => by omega)]; simp)
  go_enter Try.func39, Try.ntmps39
  go_wp2_with fail
  refine wp_loop_rounds 3 ?_
  rw [rounds_succ]
  go_wp2_with fail
  go_quiet (fail)
  go_wp2_with (first | (go_at_call 43; refine (within_any _ _ _ _).mono ?_; rintro e w' ⟨rfl, rfl⟩) | (go_at_call 44; refine (ispad_any _ _ _).mono ?_; rintro e w' ⟨rfl, rfl⟩))
  go_quiet (fail)
  go_wp2_with fail
  exact bodyPost_ret (v := .tuple #[.agg #[.int .i64 0, .int .i64 0], .bool false]) (by simp [results, Try.results39, go_sem]) rfl (out_no GG.out (by repeat' (first | (with_reducible refine below_drewN ?_ _) | (with_reducible refine Below.setCell ?_ ?_ _) | (with_reducible refine Below.alloc ?_ ?_ _) | (with_reducible exact Below.refl _ _) | go_size)))
set_option maxHeartbeats 2000000 in
theorem out_b0 (n0 n1 k0 k1 s0 s1 p0 p1 q0 q1 : Int) (w : World) (h0n : inB n0 1 64 = true) (h0k : inB k0 1 8 = true) (h0s : inB s0 1 8 = true) (h0p : padB p0 k0 = true) (h0q : padB q0 k0 = true) (h0r : 0 ≤ n0 + p0 + q0 - k0) (h1n : inB n1 1 64 = false) :
    Calls Try.prog 39 #[.agg #[.int .i64 n0, .int .i64 n1], .agg #[.int .i64 k0, .int .i64 k1], .agg #[.int .i64 s0, .int .i64 s1], .agg #[.int .i64 p0, .int .i64 p1, .int .i64 q0, .int .i64 q1]] w (OutP (gdW n0 k0 s0 p0 q0 && gdW n1 k1 s1 p1 q1) (odW n0 k0 s0 p0 q0) (odW n1 k1 s1 p1 q1) w) := by
  have f0n := inB_o h0n
  have f0k := inB_o h0k
  have f0s := inB_o h0s
  have f0p := padB_o h0p
  have f0q := padB_o h0q
  have GG := Lib.hid (show (gdW n0 k0 s0 p0 q0 && gdW n1 k1 s1 p1 q1) = false by rw [show gdW n1 k1 s1 p1 q1 = false from decide_eq_false (fun h => by rw [inB_t (by omega)] at h1n; cases h1n)]; simp)
  have d0 := div_bd (x := n0 + p0 + q0 - k0) (s := s0) h0r (by omega) (by omega)
  go_enter Try.func39, Try.ntmps39
  go_wp2_with fail
  refine wp_loop_rounds 3 ?_
  rw [rounds_succ]
  go_wp2_with fail
  go_quiet (fail)
  go_wp2_with (first | (go_at_call 43; refine (within_any _ _ _ _).mono ?_; rintro e w' ⟨rfl, rfl⟩) | (go_at_call 44; refine (ispad_any _ _ _).mono ?_; rintro e w' ⟨rfl, rfl⟩))
  go_quiet (fail)
  go_wp2_with fail
  rw [rounds_succ]
  go_wp2_with fail
  go_quiet (fail)
  go_wp2_with (first | (go_at_call 43; refine (within_any _ _ _ _).mono ?_; rintro e w' ⟨rfl, rfl⟩) | (go_at_call 44; refine (ispad_any _ _ _).mono ?_; rintro e w' ⟨rfl, rfl⟩))
  exact bodyPost_ret (v := .tuple #[.agg #[.int .i64 0, .int .i64 0], .bool false]) (by simp [results, Try.results39, go_sem]) rfl (out_no GG.out (by repeat' (first | (with_reducible refine below_drewN ?_ _) | (with_reducible refine Below.setCell ?_ ?_ _) | (with_reducible refine Below.alloc ?_ ?_ _) | (with_reducible exact Below.refl _ _) | go_size)))
set_option maxHeartbeats 2000000 in
theorem out_b1 (n0 n1 k0 k1 s0 s1 p0 p1 q0 q1 : Int) (w : World) (h0n : inB n0 1 64 = true) (h0k : inB k0 1 8 = true) (h0s : inB s0 1 8 = true) (h0p : padB p0 k0 = true) (h0q : padB q0 k0 = true) (h0r : 0 ≤ n0 + p0 + q0 - k0) (h1n : inB n1 1 64 = true) (h1k : inB k1 1 8 = false) :
    Calls Try.prog 39 #[.agg #[.int .i64 n0, .int .i64 n1], .agg #[.int .i64 k0, .int .i64 k1], .agg #[.int .i64 s0, .int .i64 s1], .agg #[.int .i64 p0, .int .i64 p1, .int .i64 q0, .int .i64 q1]] w (OutP (gdW n0 k0 s0 p0 q0 && gdW n1 k1 s1 p1 q1) (odW n0 k0 s0 p0 q0) (odW n1 k1 s1 p1 q1) w) := by
  have f0n := inB_o h0n
  have f0k := inB_o h0k
  have f0s := inB_o h0s
  have f0p := padB_o h0p
  have f0q := padB_o h0q
  have f1n := inB_o h1n
  have GG := Lib.hid (show (gdW n0 k0 s0 p0 q0 && gdW n1 k1 s1 p1 q1) = false by rw [show gdW n1 k1 s1 p1 q1 = false from decide_eq_false (fun h => by rw [inB_t (by omega)] at h1k; cases h1k)]; simp)
  have d0 := div_bd (x := n0 + p0 + q0 - k0) (s := s0) h0r (by omega) (by omega)
  go_enter Try.func39, Try.ntmps39
  go_wp2_with fail
  refine wp_loop_rounds 3 ?_
  rw [rounds_succ]
  go_wp2_with fail
  go_quiet (fail)
  go_wp2_with (first | (go_at_call 43; refine (within_any _ _ _ _).mono ?_; rintro e w' ⟨rfl, rfl⟩) | (go_at_call 44; refine (ispad_any _ _ _).mono ?_; rintro e w' ⟨rfl, rfl⟩))
  go_quiet (fail)
  go_wp2_with fail
  rw [rounds_succ]
  go_wp2_with fail
  go_quiet (fail)
  go_wp2_with (first | (go_at_call 43; refine (within_any _ _ _ _).mono ?_; rintro e w' ⟨rfl, rfl⟩) | (go_at_call 44; refine (ispad_any _ _ _).mono ?_; rintro e w' ⟨rfl, rfl⟩))
  exact bodyPost_ret (v := .tuple #[.agg #[.int .i64 0, .int .i64 0], .bool false]) (by simp [results, Try.results39, go_sem]) rfl (out_no GG.out (by repeat' (first | (with_reducible refine below_drewN ?_ _) | (with_reducible refine Below.setCell ?_ ?_ _) | (with_reducible refine Below.alloc ?_ ?_ _) | (with_reducible exact Below.refl _ _) | go_size)))
set_option maxHeartbeats 2000000 in
theorem out_b2 (n0 n1 k0 k1 s0 s1 p0 p1 q0 q1 : Int) (w : World) (h0n : inB n0 1 64 = true) (h0k : inB k0 1 8 = true) (h0s : inB s0 1 8 = true) (h0p : padB p0 k0 = true) (h0q : padB q0 k0 = true) (h0r : 0 ≤ n0 + p0 + q0 - k0) (h1n : inB n1 1 64 = true) (h1k : inB k1 1 8 = true) (h1s : inB s1 1 8 = false) :
    Calls Try.prog 39 #[.agg #[.int .i64 n0, .int .i64 n1], .agg #[.int .i64 k0, .int .i64 k1], .agg #[.int .i64 s0, .int .i64 s1], .agg #[.int .i64 p0, .int .i64 p1, .int .i64 q0, .int .i64 q1]] w (OutP (gdW n0 k0 s0 p0 q0 && gdW n1 k1 s1 p1 q1) (odW n0 k0 s0 p0 q0) (odW n1 k1 s1 p1 q1) w) := by
  have f0n := inB_o h0n
  have f0k := inB_o h0k
  have f0s := inB_o h0s
  have f0p := padB_o h0p
  have f0q := padB_o h0q
  have f1n := inB_o h1n
  have f1k := inB_o h1k
  have GG := Lib.hid (show (gdW n0 k0 s0 p0 q0 && gdW n1 k1 s1 p1 q1) = false by rw [show gdW n1 k1 s1 p1 q1 = false from decide_eq_false (fun h => by rw [inB_t (by omega)] at h1s; cases h1s)]; simp)
  have d0 := div_bd (x := n0 + p0 + q0 - k0) (s := s0) h0r (by omega) (by omega)
  go_enter Try.func39, Try.ntmps39
  go_wp2_with fail
  refine wp_loop_rounds 3 ?_
  rw [rounds_succ]
  go_wp2_with fail
  go_quiet (fail)
  go_wp2_with (first | (go_at_call 43; refine (within_any _ _ _ _).mono ?_; rintro e w' ⟨rfl, rfl⟩) | (go_at_call 44; refine (ispad_any _ _ _).mono ?_; rintro e w' ⟨rfl, rfl⟩))
  go_quiet (fail)
  go_wp2_with fail
  rw [rounds_succ]
  go_wp2_with fail
  go_quiet (fail)
  go_wp2_with (first | (go_at_call 43; refine (within_any _ _ _ _).mono ?_; rintro e w' ⟨rfl, rfl⟩) | (go_at_call 44; refine (ispad_any _ _ _).mono ?_; rintro e w' ⟨rfl, rfl⟩))
  exact bodyPost_ret (v := .tuple #[.agg #[.int .i64 0, .int .i64 0], .bool false]) (by simp [results, Try.results39, go_sem]) rfl (out_no GG.out (by repeat' (first | (with_reducible refine below_drewN ?_ _) | (with_reducible refine Below.setCell ?_ ?_ _) | (with_reducible refine Below.alloc ?_ ?_ _) | (with_reducible exact Below.refl _ _) | go_size)))
set_option maxHeartbeats 2000000 in
theorem out_b3 (n0 n1 k0 k1 s0 s1 p0 p1 q0 q1 : Int) (w : World) (h0n : inB n0 1 64 = true) (h0k : inB k0 1 8 = true) (h0s : inB s0 1 8 = true) (h0p : padB p0 k0 = true) (h0q : padB q0 k0 = true) (h0r : 0 ≤ n0 + p0 + q0 - k0) (h1n : inB n1 1 64 = true) (h1k : inB k1 1 8 = true) (h1s : inB s1 1 8 = true) (h1p : padB p1 k1 = false) :
    Calls Try.prog 39 #[.agg #[.int .i64 n0, .int .i64 n1], .agg #[.int .i64 k0, .int .i64 k1], .agg #[.int .i64 s0, .int .i64 s1], .agg #[.int .i64 p0, .int .i64 p1, .int .i64 q0, .int .i64 q1]] w (OutP (gdW n0 k0 s0 p0 q0 && gdW n1 k1 s1 p1 q1) (odW n0 k0 s0 p0 q0) (odW n1 k1 s1 p1 q1) w) := by
  have f0n := inB_o h0n
  have f0k := inB_o h0k
  have f0s := inB_o h0s
  have f0p := padB_o h0p
  have f0q := padB_o h0q
  have f1n := inB_o h1n
  have f1k := inB_o h1k
  have f1s := inB_o h1s
  have GG := Lib.hid (show (gdW n0 k0 s0 p0 q0 && gdW n1 k1 s1 p1 q1) = false by rw [show gdW n1 k1 s1 p1 q1 = false from decide_eq_false (fun h => by rw [padB_t (by omega)] at h1p; cases h1p)]; simp)
  have d0 := div_bd (x := n0 + p0 + q0 - k0) (s := s0) h0r (by omega) (by omega)
  go_enter Try.func39, Try.ntmps39
  go_wp2_with fail
  refine wp_loop_rounds 3 ?_
  rw [rounds_succ]
  go_wp2_with fail
  go_quiet (fail)
  go_wp2_with (first | (go_at_call 43; refine (within_any _ _ _ _).mono ?_; rintro e w' ⟨rfl, rfl⟩) | (go_at_call 44; refine (ispad_any _ _ _).mono ?_; rintro e w' ⟨rfl, rfl⟩))
  go_quiet (fail)
  go_wp2_with fail
  rw [rounds_succ]
  go_wp2_with fail
  go_quiet (fail)
  go_wp2_with (first | (go_at_call 43; refine (within_any _ _ _ _).mono ?_; rintro e w' ⟨rfl, rfl⟩) | (go_at_call 44; refine (ispad_any _ _ _).mono ?_; rintro e w' ⟨rfl, rfl⟩))
  exact bodyPost_ret (v := .tuple #[.agg #[.int .i64 0, .int .i64 0], .bool false]) (by simp [results, Try.results39, go_sem]) rfl (out_no GG.out (by repeat' (first | (with_reducible refine below_drewN ?_ _) | (with_reducible refine Below.setCell ?_ ?_ _) | (with_reducible refine Below.alloc ?_ ?_ _) | (with_reducible exact Below.refl _ _) | go_size)))
set_option maxHeartbeats 2000000 in
theorem out_b4 (n0 n1 k0 k1 s0 s1 p0 p1 q0 q1 : Int) (w : World) (h0n : inB n0 1 64 = true) (h0k : inB k0 1 8 = true) (h0s : inB s0 1 8 = true) (h0p : padB p0 k0 = true) (h0q : padB q0 k0 = true) (h0r : 0 ≤ n0 + p0 + q0 - k0) (h1n : inB n1 1 64 = true) (h1k : inB k1 1 8 = true) (h1s : inB s1 1 8 = true) (h1p : padB p1 k1 = true) (h1q : padB q1 k1 = false) :
    Calls Try.prog 39 #[.agg #[.int .i64 n0, .int .i64 n1], .agg #[.int .i64 k0, .int .i64 k1], .agg #[.int .i64 s0, .int .i64 s1], .agg #[.int .i64 p0, .int .i64 p1, .int .i64 q0, .int .i64 q1]] w (OutP (gdW n0 k0 s0 p0 q0 && gdW n1 k1 s1 p1 q1) (odW n0 k0 s0 p0 q0) (odW n1 k1 s1 p1 q1) w) := by
  have f0n := inB_o h0n
  have f0k := inB_o h0k
  have f0s := inB_o h0s
  have f0p := padB_o h0p
  have f0q := padB_o h0q
  have f1n := inB_o h1n
  have f1k := inB_o h1k
  have f1s := inB_o h1s
  have f1p := padB_o h1p
  have GG := Lib.hid (show (gdW n0 k0 s0 p0 q0 && gdW n1 k1 s1 p1 q1) = false by rw [show gdW n1 k1 s1 p1 q1 = false from decide_eq_false (fun h => by rw [padB_t (by omega)] at h1q; cases h1q)]; simp)
  have d0 := div_bd (x := n0 + p0 + q0 - k0) (s := s0) h0r (by omega) (by omega)
  go_enter Try.func39, Try.ntmps39
  go_wp2_with fail
  refine wp_loop_rounds 3 ?_
  rw [rounds_succ]
  go_wp2_with fail
  go_quiet (fail)
  go_wp2_with (first | (go_at_call 43; refine (within_any _ _ _ _).mono ?_; rintro e w' ⟨rfl, rfl⟩) | (go_at_call 44; refine (ispad_any _ _ _).mono ?_; rintro e w' ⟨rfl, rfl⟩))
  go_quiet (fail)
  go_wp2_with fail
  rw [rounds_succ]
  go_wp2_with fail
  go_quiet (fail)
  go_wp2_with (first | (go_at_call 43; refine (within_any _ _ _ _).mono ?_; rintro e w' ⟨rfl, rfl⟩) | (go_at_call 44; refine (ispad_any _ _ _).mono ?_; rintro e w' ⟨rfl, rfl⟩))
  exact bodyPost_ret (v := .tuple #[.agg #[.int .i64 0, .int .i64 0], .bool false]) (by simp [results, Try.results39, go_sem]) rfl (out_no GG.out (by repeat' (first | (with_reducible refine below_drewN ?_ _) | (with_reducible refine Below.setCell ?_ ?_ _) | (with_reducible refine Below.alloc ?_ ?_ _) | (with_reducible exact Below.refl _ _) | go_size)))
set_option maxHeartbeats 2000000 in
theorem out_b5 (n0 n1 k0 k1 s0 s1 p0 p1 q0 q1 : Int) (w : World) (h0n : inB n0 1 64 = true) (h0k : inB k0 1 8 = true) (h0s : inB s0 1 8 = true) (h0p : padB p0 k0 = true) (h0q : padB q0 k0 = true) (h0r : 0 ≤ n0 + p0 + q0 - k0) (h1n : inB n1 1 64 = true) (h1k : inB k1 1 8 = true) (h1s : inB s1 1 8 = true) (h1p : padB p1 k1 = true) (h1q : padB q1 k1 = true) (h1r : n1 + p1 + q1 - k1 < 0) :
    Calls Try.prog 39 #[.agg #[.int .i64 n0, .int .i64 n1], .agg #[.int .i64 k0, .int .i64 k1], .agg #[.int .i64 s0, .int .i64 s1], .agg #[.int .i64 p0, .int .i64 p1, .int .i64 q0, .int .i64 q1]] w (OutP (gdW n0 k0 s0 p0 q0 && gdW n1 k1 s1 p1 q1) (odW n0 k0 s0 p0 q0) (odW n1 k1 s1 p1 q1) w) := by
  have f0n := inB_o h0n
  have f0k := inB_o h0k
  have f0s := inB_o h0s
  have f0p := padB_o h0p
  have f0q := padB_o h0q
  have f1n := inB_o h1n
  have f1k := inB_o h1k
  have f1s := inB_o h1s
  have f1p := padB_o h1p
  have f1q := padB_o h1q
  have GG := Lib.hid (show (gdW n0 k0 s0 p0 q0 && gdW n1 k1 s1 p1 q1) = false by rw [show gdW n1 k1 s1 p1 q1 = false from decide_eq_false (fun h => by omega)]; simp)
  have d0 := div_bd (x := n0 + p0 + q0 - k0) (s := s0) h0r (by omega) (by omega)
  go_enter Try.func39, Try.ntmps39
  go_wp2_with fail
  refine wp_loop_rounds 3 ?_
  rw [rounds_succ]
  go_wp2_with fail
  go_quiet (fail)
  go_wp2_with (first | (go_at_call 43; refine (within_any _ _ _ _).mono ?_; rintro e w' ⟨rfl, rfl⟩) | (go_at_call 44; refine (ispad_any _ _ _).mono ?_; rintro e w' ⟨rfl, rfl⟩))
  go_quiet (fail)
  go_wp2_with fail
  rw [rounds_succ]
  go_wp2_with fail
  go_quiet (fail)
  go_wp2_with (first | (go_at_call 43; refine (within_any _ _ _ _).mono ?_; rintro e w' ⟨rfl, rfl⟩) | (go_at_call 44; refine (ispad_any _ _ _).mono ?_; rintro e w' ⟨rfl, rfl⟩))
  go_quiet (fail)
  go_wp2_with fail
  exact bodyPost_ret (v := .tuple #[.agg #[.int .i64 0, .int .i64 0], .bool false]) (by simp [results, Try.results39, go_sem]) rfl (out_no GG.out (by repeat' (first | (with_reducible refine below_drewN ?_ _) | (with_reducible refine Below.setCell ?_ ?_ _) | (with_reducible refine Below.alloc ?_ ?_ _) | (with_reducible exact Below.refl _ _) | go_size)))
set_option maxHeartbeats 2000000 in
theorem out_y (n0 n1 k0 k1 s0 s1 p0 p1 q0 q1 : Int) (w : World) (h0n : inB n0 1 64 = true) (h0k : inB k0 1 8 = true) (h0s : inB s0 1 8 = true) (h0p : padB p0 k0 = true) (h0q : padB q0 k0 = true) (h0r : 0 ≤ n0 + p0 + q0 - k0) (h1n : inB n1 1 64 = true) (h1k : inB k1 1 8 = true) (h1s : inB s1 1 8 = true) (h1p : padB p1 k1 = true) (h1q : padB q1 k1 = true) (h1r : 0 ≤ n1 + p1 + q1 - k1) :
    Calls Try.prog 39 #[.agg #[.int .i64 n0, .int .i64 n1], .agg #[.int .i64 k0, .int .i64 k1], .agg #[.int .i64 s0, .int .i64 s1], .agg #[.int .i64 p0, .int .i64 p1, .int .i64 q0, .int .i64 q1]] w (OutP (gdW n0 k0 s0 p0 q0 && gdW n1 k1 s1 p1 q1) (odW n0 k0 s0 p0 q0) (odW n1 k1 s1 p1 q1) w) := by
  have f0n := inB_o h0n
  have f0k := inB_o h0k
  have f0s := inB_o h0s
  have f0p := padB_o h0p
  have f0q := padB_o h0q
  have f1n := inB_o h1n
  have f1k := inB_o h1k
  have f1s := inB_o h1s
  have f1p := padB_o h1p
  have f1q := padB_o h1q
  have GG := Lib.hid (show (gdW n0 k0 s0 p0 q0 && gdW n1 k1 s1 p1 q1) = true by rw [Bool.and_eq_true]; exact ⟨decide_eq_true (by omega), decide_eq_true (by omega)⟩)
  have d0 := div_bd (x := n0 + p0 + q0 - k0) (s := s0) h0r (by omega) (by omega)
  have d1 := div_bd (x := n1 + p1 + q1 - k1) (s := s1) h1r (by omega) (by omega)
  go_enter Try.func39, Try.ntmps39
  go_wp2_with fail
  refine wp_loop_rounds 3 ?_
  rw [rounds_succ]
  go_wp2_with fail
  go_quiet (fail)
  go_wp2_with (first | (go_at_call 43; refine (within_any _ _ _ _).mono ?_; rintro e w' ⟨rfl, rfl⟩) | (go_at_call 44; refine (ispad_any _ _ _).mono ?_; rintro e w' ⟨rfl, rfl⟩))
  go_quiet (fail)
  go_wp2_with fail
  rw [rounds_succ]
  go_wp2_with fail
  go_quiet (fail)
  go_wp2_with (first | (go_at_call 43; refine (within_any _ _ _ _).mono ?_; rintro e w' ⟨rfl, rfl⟩) | (go_at_call 44; refine (ispad_any _ _ _).mono ?_; rintro e w' ⟨rfl, rfl⟩))
  go_quiet (fail)
  go_wp2_with fail
  rw [rounds_succ]
  go_wp2_with fail
  exact bodyPost_ret (v := .tuple #[.agg #[.int .i64 ((n0 + p0 + q0 - k0) / s0 + 1), .int .i64 ((n1 + p1 + q1 - k1) / s1 + 1)], .bool true]) (by simp [results, Try.results39, go_sem]) rfl (out_yes GG.out rfl rfl (by repeat' (first | (with_reducible refine below_drewN ?_ _) | (with_reducible refine Below.setCell ?_ ?_ _) | (with_reducible refine Below.alloc ?_ ?_ _) | (with_reducible exact Below.refl _ _) | go_size)))
end Go.Proofs.Ytekdcfepfieleaa
