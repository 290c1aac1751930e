/- Plain facts on words of 32 bits, with no program in sight. -/
import Derived.WalkKit
import Derived.WalkLawsBesides
import Derived.Test.YtdbfakllcaojcaaProg
import Derived.WalkSpells
import Derived.WalkSmall
import Derived.Handy
import Derived.Lib.Hide
import Derived.BigQuiet
import Derived.StillTailTactics
import Derived.Deep.RegionHeld3
import Derived.ProofKit
import Derived.OpenShut
import Derived.ChangeKeysEq
import Derived.Laws.StructEq
import Derived.Deep.QuietTactic
import Derived.OwnWalk
import Derived.Deep.OwnRows
import Derived.Deep.LoopGhost
import Derived.BigRegion
namespace Go.Proofs.Ytdbfakllcaojcaa.Pl
open Go Go.RowKit

theorem wrap64_in' {n : Int} (h : -9223372036854775808 ≤ n ∧ n ≤ 9223372036854775807) : wrap64 n = n := IntWalk.wrap64_in n h

theorem mul_bd {x y : Int} {A B : Nat} (hx : x.natAbs ≤ A) (hy : y.natAbs ≤ B) : (x * y).natAbs ≤ A * B := by
  rw [Int.natAbs_mul]; exact Nat.mul_le_mul hx hy

/-! ### bit by bit -/
end Go.Proofs.Ytdbfakllcaojcaa.Pl

namespace Go.Proofs.Ytdbfakllcaojcaa
open Go Go.RowKit Pl
set_option linter.unusedVariables false

theorem ret_bool {a b : Bool} (h : a = b) : Ending.returned (.bool a) = .returned (.bool b) := by rw [h]
theorem ret_i64 {a b : Int} (h : a = b) : Ending.returned (.int .i64 a) = .returned (.int .i64 b) := by rw [h]

/-- three numbers as a value -/
def sh (x y z : Int) : Value := .agg #[.int .i64 x, .int .i64 y, .int .i64 z]
def goodB (x y z : Int) : Bool := decide (1 ≤ x ∧ x ≤ 64 ∧ 1 ≤ y ∧ y ≤ 64 ∧ 1 ≤ z ∧ z ≤ 64 ∧ x * y * z ≤ 16384)

theorem goodB_no {x y z : Int} (h : ¬ (1 ≤ x ∧ x ≤ 64 ∧ 1 ≤ y ∧ y ≤ 64 ∧ 1 ≤ z ∧ z ≤ 64 ∧ x * y * z ≤ 16384)) : goodB x y z = false := decide_eq_false h
theorem mul3 {x y z : Int} (hx : 1 ≤ x ∧ x ≤ 64) (hy : 1 ≤ y ∧ y ≤ 64) (hz : 1 ≤ z ∧ z ≤ 64) : 0 ≤ x * y ∧ x * y ≤ 4096 ∧ 0 ≤ x * y * z ∧ x * y * z ≤ 262144 := by
  have h1 := mul_bd (x := x) (y := y) (A := 64) (B := 64) (by omega) (by omega)
  have h2 := mul_bd (x := x * y) (y := z) (A := 4096) (B := 64) h1 (by omega)
  have h3 : 0 ≤ x * y := Int.mul_nonneg (by omega) (by omega)
  have h4 : 0 ≤ x * y * z := Int.mul_nonneg h3 (by omega)
  omega

theorem good_last {x y z : Int} (hx : 1 ≤ x ∧ x ≤ 64) (hy : 1 ≤ y ∧ y ≤ 64) (hz : 1 ≤ z ∧ z ≤ 64) : decide (wrap64 (wrap64 (x * y) * z) ≤ 16384) = goodB x y z := by
  obtain ⟨a, b, c, d⟩ := mul3 hx hy hz
  rw [wrap64_in' (n := x * y) (by omega), wrap64_in' (by omega)]
  unfold goodB
  rw [decide_eq_decide]
  exact ⟨fun h => ⟨hx.1, hx.2, hy.1, hy.2, hz.1, hz.2, h⟩, fun h => h.2.2.2.2.2.2⟩

set_option maxHeartbeats 400000 in
theorem good_any (x y z : Int) (w : World) :
    Calls Try.prog 66 #[.agg #[.int .i64 x, .int .i64 y, .int .i64 z]] w fun e w' => e = .returned (.bool (goodB x y z)) ∧ w' = w.alloc (.cells #[.int .i64 x, .int .i64 y, .int .i64 z] 22) := by
  have i0 : ∀ w, (Instr.index 22 (.agg #[.int .i64 x, .int .i64 y, .int .i64 z]) (.int .i64 0)).run Try.prog w = .ok (.int .i64 x) w := fun _ => by kernel_rfl
  have i1 : ∀ w, (Instr.index 22 (.agg #[.int .i64 x, .int .i64 y, .int .i64 z]) (.int .i64 1)).run Try.prog w = .ok (.int .i64 y) w := fun _ => by kernel_rfl
  have i2 : ∀ w, (Instr.index 22 (.agg #[.int .i64 x, .int .i64 y, .int .i64 z]) (.int .i64 2)).run Try.prog w = .ok (.int .i64 z) w := fun _ => by kernel_rfl
  go_enter Try.func66, Try.ntmps66
  go_wp2
  go_rounds 4
  all_goals go_ret
  all_goals first | exact ⟨ret_bool (goodB_no (by omega)).symm, rfl⟩ | exact ⟨ret_bool (good_last ⟨by omega, by omega⟩ ⟨by omega, by omega⟩ ⟨by omega, by omega⟩), rfl⟩

set_option maxHeartbeats 400000 in
theorem ref_good (x y z : Int) (w : World) :
    Calls Try.prog 51 #[.agg #[.int .i64 x, .int .i64 y, .int .i64 z]] w fun e w' => e = .returned (.bool (goodB x y z)) ∧ w' = w.alloc (.cells #[.int .i64 x, .int .i64 y, .int .i64 z] 22) := by
  have i0 : ∀ w, (Instr.index 22 (.agg #[.int .i64 x, .int .i64 y, .int .i64 z]) (.int .i64 0)).run Try.prog w = .ok (.int .i64 x) w := fun _ => by kernel_rfl
  have i1 : ∀ w, (Instr.index 22 (.agg #[.int .i64 x, .int .i64 y, .int .i64 z]) (.int .i64 1)).run Try.prog w = .ok (.int .i64 y) w := fun _ => by kernel_rfl
  have i2 : ∀ w, (Instr.index 22 (.agg #[.int .i64 x, .int .i64 y, .int .i64 z]) (.int .i64 2)).run Try.prog w = .ok (.int .i64 z) w := fun _ => by kernel_rfl
  go_enter Try.func51, Try.ntmps51
  go_wp2
  go_rounds 4
  all_goals go_ret
  all_goals first | exact ⟨ret_bool (goodB_no (by omega)).symm, rfl⟩ | exact ⟨ret_bool (good_last ⟨by omega, by omega⟩ ⟨by omega, by omega⟩ ⟨by omega, by omega⟩), rfl⟩

def sizeS (x y z : Int) : Int := if goodB x y z then x * y * z else 0
theorem goodB_out {x y z : Int} (h : goodB x y z = true) : 1 ≤ x ∧ x ≤ 64 ∧ 1 ≤ y ∧ y ≤ 64 ∧ 1 ≤ z ∧ z ≤ 64 ∧ x * y * z ≤ 16384 := of_decide_eq_true h

set_option maxHeartbeats 400000 in
theorem size_any (x y z : Int) (w : World) :
    Calls Try.prog 61 #[.agg #[.int .i64 x, .int .i64 y, .int .i64 z]] w fun e w' => e = .returned (.int .i64 (sizeS x y z)) ∧ w' = (w.alloc (.cells #[.int .i64 x, .int .i64 y, .int .i64 z] 22)).alloc (.cells #[.int .i64 x, .int .i64 y, .int .i64 z] 22) := by
  by_cases hg : goodB x y z = true
  · obtain ⟨x0, x1, y0, y1, z0, z1, _⟩ := goodB_out hg
    obtain ⟨m0, m1, m2, m3⟩ := mul3 ⟨x0, x1⟩ ⟨y0, y1⟩ ⟨z0, z1⟩
    have hs : sizeS x y z = x * y * z := by unfold sizeS; rw [if_pos hg]
    rw [hs]
    clear hs
    go_enter Try.func61, Try.ntmps61
    go_wp2_with (go_at_call 66; refine (good_any x y z _).mono ?_; rintro e w' ⟨rfl, rfl⟩)
    go_ret
    exact ⟨rfl, rfl⟩
  · have hg : goodB x y z = false := by simpa using hg
    have hs : sizeS x y z = 0 := by unfold sizeS; rw [hg]; rfl
    rw [hs]
    clear hs
    go_enter Try.func61, Try.ntmps61
    go_wp2_with (go_at_call 66; refine (good_any x y z _).mono ?_; rintro e w' ⟨rfl, rfl⟩)
    go_ret
    exact ⟨rfl, rfl⟩

end Go.Proofs.Ytdbfakllcaojcaa

namespace Go.Proofs.Ytdbfakllcaojcaa
open Go Go.RowKit Pl
set_option linter.unusedVariables false
theorem good_b (x y z : Int) (w : World) : Calls Try.prog 66 #[.agg #[.int .i64 x, .int .i64 y, .int .i64 z]] w fun e w' => e = .returned (.bool (goodB x y z)) ∧ Below w.heap.size w w' :=
  (good_any x y z w).mono fun e w' ⟨h, g⟩ => ⟨h, by subst g; go_grown⟩
theorem ref_good_b (x y z : Int) (w : World) : Calls Try.prog 51 #[.agg #[.int .i64 x, .int .i64 y, .int .i64 z]] w fun e w' => e = .returned (.bool (goodB x y z)) ∧ Below w.heap.size w w' :=
  (ref_good x y z w).mono fun e w' ⟨h, g⟩ => ⟨h, by subst g; go_grown⟩
/-- 0: no number below 1, and good; 1: a number below 1; 2: too great -/
def fitsN (x y z : Int) : Nat := if x < 1 ∨ y < 1 ∨ z < 1 then 1 else if goodB x y z then 0 else 2
def errOf : Nat → Int
  | 0 => 0
  | 1 => 10
  | _ => 12
theorem fitsN_1 {x y z : Int} (h : x < 1 ∨ y < 1 ∨ z < 1) : errOf (fitsN x y z) = 10 := by simp [fitsN, h, errOf]
theorem fitsN_0 {x y z : Int} (h : ¬ (x < 1 ∨ y < 1 ∨ z < 1)) (g : goodB x y z = true) : errOf (fitsN x y z) = 0 := by simp [fitsN, h, g, errOf]
theorem fitsN_2 {x y z : Int} (h : ¬ (x < 1 ∨ y < 1 ∨ z < 1)) (g : goodB x y z = false) : errOf (fitsN x y z) = 12 := by simp [fitsN, h, g, errOf]
theorem ret_k {k : IntKind} {a b : Int} (h : a = b) : Ending.returned (.int k a) = .returned (.int k b) := by rw [h]
set_option maxHeartbeats 1000000 in
theorem fits_any (x y z : Int) (w : World) :
    Calls Try.prog 49 #[.agg #[.int .i64 x, .int .i64 y, .int .i64 z]] w fun e w' => e = .returned (.int .i64 (errOf (fitsN x y z))) ∧ Below w.heap.size w w' := by
  have i0 : ∀ w, (Instr.index 22 (.agg #[.int .i64 x, .int .i64 y, .int .i64 z]) (.int .i64 0)).run Try.prog w = .ok (.int .i64 x) w := fun _ => by kernel_rfl
  have i1 : ∀ w, (Instr.index 22 (.agg #[.int .i64 x, .int .i64 y, .int .i64 z]) (.int .i64 1)).run Try.prog w = .ok (.int .i64 y) w := fun _ => by kernel_rfl
  have i2 : ∀ w, (Instr.index 22 (.agg #[.int .i64 x, .int .i64 y, .int .i64 z]) (.int .i64 2)).run Try.prog w = .ok (.int .i64 z) w := fun _ => by kernel_rfl
  have G := Lib.hid (good_b x y z)
  have F1 := Lib.hid (@fitsN_1 x y z)
  have F0 := Lib.hid (@fitsN_0 x y z)
  have F2 := Lib.hid (@fitsN_2 x y z)
  generalize errOf (fitsN x y z) = r at F1 F0 F2
  cases hg : goodB x y z
  all_goals
    rw [hg] at G F0 F2
    clear hg
    go_enter Try.func49, Try.ntmps49
    go_wp2_with (first | (go_at_call 66; refine (G.out _).mono ?_; rintro e w1 ⟨rfl, hb⟩))
    refine wp_loop_rounds 4 ?_
    repeat any_goals (rw [rounds_succ]; go_wp2_with (first | (go_at_call 66; refine (G.out _).mono ?_; rintro e w1 ⟨rfl, hb⟩)))
    all_goals (try go_wp2_with (first | (go_at_call 66; refine (G.out _).mono ?_; rintro e w1 ⟨rfl, hb⟩)))
    all_goals go_ret
    all_goals first | exact ⟨ret_k (F1.out (by omega)).symm, by go_grown⟩ | exact ⟨ret_k (F0.out (by omega) (by trivial)).symm, ((Below.refl _ _).alloc (Nat.le_refl _) _).trans (hb.mono (by simp))⟩ | exact ⟨ret_k (F2.out (by omega) (by trivial)).symm, ((Below.refl _ _).alloc (Nat.le_refl _) _).trans (hb.mono (by simp))⟩ | trace_state
end Go.Proofs.Ytdbfakllcaojcaa

namespace Go.Proofs.Ytdbfakllcaojcaa
open Go Go.RowKit Go.ChangeShapes Go.WideShapes

theorem part0 {P : Program} {e : TypeId} (he : P.underlying e = some (.int .i64)) (xs : Array Value) (k : Nat) (v : Value) (h : xs[k]? = some v) (w : World) : (Go.part e xs k).run P w = .ok v w := by
  simp [Go.part, Go.isAgg, run_underlying he, h]
theorem eqA3 {P : Program} {t e : TypeId} {i : TypeInfo} (hu : P.underlying t = some (.array 3 e)) (he : P.underlying e = some (.int .i64)) (hi : P.info? e = some i) (hC : P.cellsOf e = 1) (x y z a b c : Int) (w : World) :
    (Op.equalIn 10000 t (.agg #[.int .i64 x, .int .i64 y, .int .i64 z]) (.agg #[.int .i64 a, .int .i64 b, .int .i64 c])).run P w = .ok (x == a && (y == b && z == c)) w := by
  rw [run_equalIn_array w 9999 _ _ hu hi, hC, show List.range 3 = [0, 1, 2] from rfl]
  have pe : ∀ u v : Int, (Op.equalIn 9999 e (.int .i64 u) (.int .i64 v)).run P w = .ok (u == v) w := fun u v => run_equalIn_int w 9998 e .i64 .i64 u v he
  have p0 := fun (x y z : Int) => part0 he #[.int .i64 x, .int .i64 y, .int .i64 z] (0 * 1) (.int .i64 x) rfl w
  have p1 := fun (x y z : Int) => part0 he #[.int .i64 x, .int .i64 y, .int .i64 z] (1 * 1) (.int .i64 y) rfl w
  have p2 := fun (x y z : Int) => part0 he #[.int .i64 x, .int .i64 y, .int .i64 z] (2 * 1) (.int .i64 z) rfl w
  simp only [Op.eqItems, Sem.run_bind, p0, p1, p2, pe, Result.andThen_ok, Sem.run_ite, Sem.run_pure]
  cases h1 : (x == a) <;> cases h2 : (y == b) <;> cases h3 : (z == c) <;> simp
end Go.Proofs.Ytdbfakllcaojcaa

namespace Go.Proofs.Ytdbfakllcaojcaa
open Go Go.RowKit
set_option linter.unusedVariables false

/-- whether one side of a window is good, and how many come out of it -/
def gdW (n k s p q : Int) : Bool := decide (1 ≤ n ∧ n ≤ 64 ∧ 1 ≤ k ∧ k ≤ 8 ∧ 1 ≤ s ∧ s ≤ 8 ∧ 0 ≤ p ∧ p < k ∧ 0 ≤ q ∧ q < k ∧ k ≤ n + p + q)
def odW (n k s p q : Int) : Int := (n + p + q - k) / s + 1
def inB (n a b : Int) : Bool := decide (a ≤ n ∧ n ≤ b)
def padB (n k : Int) : Bool := decide (0 ≤ n ∧ n ≤ 7 ∧ n < k)
theorem inB_t {n a b : Int} (h : a ≤ n ∧ n ≤ b) : inB n a b = true := decide_eq_true h
theorem inB_f {n a b : Int} (h : ¬ (a ≤ n ∧ n ≤ b)) : inB n a b = false := decide_eq_false h
theorem padB_t {n k : Int} (h : 0 ≤ n ∧ n ≤ 7 ∧ n < k) : padB n k = true := decide_eq_true h
theorem padB_f {n k : Int} (h : ¬ (0 ≤ n ∧ n ≤ 7 ∧ n < k)) : padB n k = false := decide_eq_false h
theorem inB_o {n a b : Int} (h : inB n a b = true) : a ≤ n ∧ n ≤ b := of_decide_eq_true h
theorem padB_o {n k : Int} (h : padB n k = true) : 0 ≤ n ∧ n ≤ 7 ∧ n < k := of_decide_eq_true h
set_option maxHeartbeats 400000 in
theorem within_any (n a b : Int) (w : World) : Calls Try.prog 98 #[.int .i64 n, .int .i64 a, .int .i64 b] w fun e w' => e = .returned (.bool (inB n a b)) ∧ w = w' := by
  by_cases g : a ≤ n
  · have e : inB n a b = decide (n ≤ b) := by unfold inB; rw [decide_eq_decide]; omega
    rw [e]
    have h1 : decide (a ≤ n) = true := by simp; omega
    clear e
    go_enter Try.func98, Try.ntmps98
    go_wp2
    go_ret
    exact ⟨rfl, rfl⟩
  · rw [inB_f (by omega)]
    have h1 : decide (a ≤ n) = false := by simp; omega
    go_enter Try.func98, Try.ntmps98
    go_wp2
    go_ret
    exact ⟨rfl, rfl⟩
set_option maxHeartbeats 400000 in
theorem ispad_any (n k : Int) (w : World) : Calls Try.prog 99 #[.int .i64 n, .int .i64 k] w fun e w' => e = .returned (.bool (padB n k)) ∧ w = w' := by
  cases g : inB n 0 7
  · have e : padB n k = false := padB_f (fun h => by rw [inB_t (by omega)] at g; cases g)
    rw [e]
    have G := Lib.hid g
    clear e g
    go_enter Try.func99, Try.ntmps99
    go_wp2_with fail
    refine (within_any _ _ _ _).mono ?_
    rw [G.out]
    rintro e w1 ⟨rfl, rfl⟩
    go_wp2_with fail
    go_ret
    exact ⟨rfl, rfl⟩
  · have h := inB_o g
    have e : padB n k = decide (n < k) := by unfold padB; rw [decide_eq_decide]; omega
    rw [e]
    have G := Lib.hid g
    clear e g
    go_enter Try.func99, Try.ntmps99
    go_wp2_with fail
    refine (within_any _ _ _ _).mono ?_
    rw [G.out]
    rintro e w1 ⟨rfl, rfl⟩
    go_wp2_with fail
    go_ret
    exact ⟨rfl, rfl⟩
theorem div_bd {x s : Int} (h0 : 0 ≤ x) (h1 : x ≤ 1000) (hs : 1 ≤ s) : 0 ≤ x / s ∧ x / s ≤ 1000 :=
  ⟨Int.ediv_nonneg h0 (by omega), Int.le_trans (Int.ediv_le_self _ h0) h1⟩
def OutP (g : Bool) (a b : Int) (w : World) (e : Ending) (w' : World) : Prop := e = .returned (.tuple #[.agg #[.int .i64 (if g then a else 0), .int .i64 (if g then b else 0)], .bool g]) ∧ Below w.heap.size w w'
theorem out_no {g : Bool} {a b : Int} {w w' : World} (h : g = false) (hb : Below w.heap.size w w') : OutP g a b w (.returned (.tuple #[.agg #[.int .i64 0, .int .i64 0], .bool false])) w' := by subst h; exact ⟨rfl, hb⟩
theorem out_yes {g : Bool} {a b c d : Int} {w w' : World} (h : g = true) (ha : a = c) (hb' : b = d) (hb : Below w.heap.size w w') : OutP g a b w (.returned (.tuple #[.agg #[.int .i64 c, .int .i64 d], .bool true])) w' := by subst h ha hb'; exact ⟨rfl, hb⟩

set_option maxHeartbeats 2000000 in
theorem out_a0 (n0 n1 k0 k1 s0 s1 p0 p1 q0 q1 : Int) (w : World) (h0n : inB n0 1 64 = false) :
    Calls Try.prog 94 #[.agg #[.int .i64 n0, .int .i64 n1], .agg #[.int .i64 k0, .int .i64 k1], .agg #[.int .i64 s0, .int .i64 s1], .agg #[.int .i64 p0, .int .i64 p1, .int .i64 q0, .int .i64 q1]] w (OutP (gdW n0 k0 s0 p0 q0 && gdW n1 k1 s1 p1 q1) (odW n0 k0 s0 p0 q0) (odW n1 k1 s1 p1 q1) w) := by
  have GG := Lib.hid (show (gdW n0 k0 s0 p0 q0 && gdW n1 k1 s1 p1 q1) = false by rw [show gdW n0 k0 s0 p0 q0 = false from decide_eq_false (fun h => by rw [inB_t (by omega)] at h0n; cases h0n)]; simp)
  go_enter Try.func94, Try.ntmps94
  go_wp2_with fail
  refine wp_loop_rounds 3 ?_
  rw [rounds_succ]
  go_wp2_with fail
  go_quiet (fail)
  go_wp2_with (first | (go_at_call 98; refine (within_any _ _ _ _).mono ?_; rintro e w' ⟨rfl, rfl⟩) | (go_at_call 99; refine (ispad_any _ _ _).mono ?_; rintro e w' ⟨rfl, rfl⟩))
  exact bodyPost_ret (v := .tuple #[.agg #[.int .i64 0, .int .i64 0], .bool false]) (by simp [results, Try.results94, go_sem]) rfl (out_no GG.out (by repeat' (first | (with_reducible refine below_drewN ?_ _) | (with_reducible refine Below.setCell ?_ ?_ _) | (with_reducible refine Below.alloc ?_ ?_ _) | (with_reducible exact Below.refl _ _) | go_size)))
set_option maxHeartbeats 2000000 in
theorem out_a1 (n0 n1 k0 k1 s0 s1 p0 p1 q0 q1 : Int) (w : World) (h0n : inB n0 1 64 = true) (h0k : inB k0 1 8 = false) :
    Calls Try.prog 94 #[.agg #[.int .i64 n0, .int .i64 n1], .agg #[.int .i64 k0, .int .i64 k1], .agg #[.int .i64 s0, .int .i64 s1], .agg #[.int .i64 p0, .int .i64 p1, .int .i64 q0, .int .i64 q1]] w (OutP (gdW n0 k0 s0 p0 q0 && gdW n1 k1 s1 p1 q1) (odW n0 k0 s0 p0 q0) (odW n1 k1 s1 p1 q1) w) := by
  have f0n := inB_o h0n
  have GG := Lib.hid (show (gdW n0 k0 s0 p0 q0 && gdW n1 k1 s1 p1 q1) = false by rw [show gdW n0 k0 s0 p0 q0 = false from decide_eq_false (fun h => by rw [inB_t (by omega)] at h0k; cases h0k)]; simp)
  go_enter Try.func94, Try.ntmps94
  go_wp2_with fail
  refine wp_loop_rounds 3 ?_
  rw [rounds_succ]
  go_wp2_with fail
  go_quiet (fail)
  go_wp2_with (first | (go_at_call 98; refine (within_any _ _ _ _).mono ?_; rintro e w' ⟨rfl, rfl⟩) | (go_at_call 99; refine (ispad_any _ _ _).mono ?_; rintro e w' ⟨rfl, rfl⟩))
  exact bodyPost_ret (v := .tuple #[.agg #[.int .i64 0, .int .i64 0], .bool false]) (by simp [results, Try.results94, go_sem]) rfl (out_no GG.out (by repeat' (first | (with_reducible refine below_drewN ?_ _) | (with_reducible refine Below.setCell ?_ ?_ _) | (with_reducible refine Below.alloc ?_ ?_ _) | (with_reducible exact Below.refl _ _) | go_size)))
set_option maxHeartbeats 2000000 in
theorem out_a2 (n0 n1 k0 k1 s0 s1 p0 p1 q0 q1 : Int) (w : World) (h0n : inB n0 1 64 = true) (h0k : inB k0 1 8 = true) (h0s : inB s0 1 8 = false) :
    Calls Try.prog 94 #[.agg #[.int .i64 n0, .int .i64 n1], .agg #[.int .i64 k0, .int .i64 k1], .agg #[.int .i64 s0, .int .i64 s1], .agg #[.int .i64 p0, .int .i64 p1, .int .i64 q0, .int .i64 q1]] w (OutP (gdW n0 k0 s0 p0 q0 && gdW n1 k1 s1 p1 q1) (odW n0 k0 s0 p0 q0) (odW n1 k1 s1 p1 q1) w) := by
  have f0n := inB_o h0n
  have f0k := inB_o h0k
  have GG := Lib.hid (show (gdW n0 k0 s0 p0 q0 && gdW n1 k1 s1 p1 q1) = false by rw [show gdW n0 k0 s0 p0 q0 = false from decide_eq_false (fun h => by rw [inB_t (by omega)] at h0s; cases h0s)]; simp)
  go_enter Try.func94, Try.ntmps94
  go_wp2_with fail
  refine wp_loop_rounds 3 ?_
  rw [rounds_succ]
  go_wp2_with fail
  go_quiet (fail)
  go_wp2_with (first | (go_at_call 98; refine (within_any _ _ _ _).mono ?_; rintro e w' ⟨rfl, rfl⟩) | (go_at_call 99; refine (ispad_any _ _ _).mono ?_; rintro e w' ⟨rfl, rfl⟩))
  exact bodyPost_ret (v := .tuple #[.agg #[.int .i64 0, .int .i64 0], .bool false]) (by simp [results, Try.results94, go_sem]) rfl (out_no GG.out (by repeat' (first | (with_reducible refine below_drewN ?_ _) | (with_reducible refine Below.setCell ?_ ?_ _) | (with_reducible refine Below.alloc ?_ ?_ _) | (with_reducible exact Below.refl _ _) | go_size)))
set_option maxHeartbeats 2000000 in
theorem out_a3 (n0 n1 k0 k1 s0 s1 p0 p1 q0 q1 : Int) (w : World) (h0n : inB n0 1 64 = true) (h0k : inB k0 1 8 = true) (h0s : inB s0 1 8 = true) (h0p : padB p0 k0 = false) :
    Calls Try.prog 94 #[.agg #[.int .i64 n0, .int .i64 n1], .agg #[.int .i64 k0, .int .i64 k1], .agg #[.int .i64 s0, .int .i64 s1], .agg #[.int .i64 p0, .int .i64 p1, .int .i64 q0, .int .i64 q1]] w (OutP (gdW n0 k0 s0 p0 q0 && gdW n1 k1 s1 p1 q1) (odW n0 k0 s0 p0 q0) (odW n1 k1 s1 p1 q1) w) := by
  have f0n := inB_o h0n
  have f0k := inB_o h0k
  have f0s := inB_o h0s
  have GG := Lib.hid (show (gdW n0 k0 s0 p0 q0 && gdW n1 k1 s1 p1 q1) = false by rw [show gdW n0 k0 s0 p0 q0 = false from decide_eq_false (fun h => by rw [padB_t (by omega)] at h0p; cases h0p)]; simp)
  go_enter Try.func94, Try.ntmps94
  go_wp2_with fail
  refine wp_loop_rounds 3 ?_
  rw [rounds_succ]
  go_wp2_with fail
  go_quiet (fail)
  go_wp2_with (first | (go_at_call 98; refine (within_any _ _ _ _).mono ?_; rintro e w' ⟨rfl, rfl⟩) | (go_at_call 99; refine (ispad_any _ _ _).mono ?_; rintro e w' ⟨rfl, rfl⟩))
  exact bodyPost_ret (v := .tuple #[.agg #[.int .i64 0, .int .i64 0], .bool false]) (by simp [results, Try.results94, go_sem]) rfl (out_no GG.out (by repeat' (first | (with_reducible refine below_drewN ?_ _) | (with_reducible refine Below.setCell ?_ ?_ _) | (with_reducible refine Below.alloc ?_ ?_ _) | (with_reducible exact Below.refl _ _) | go_size)))
set_option maxHeartbeats 2000000 in
theorem out_a4 (n0 n1 k0 k1 s0 s1 p0 p1 q0 q1 : Int) (w : World) (h0n : inB n0 1 64 = true) (h0k : inB k0 1 8 = true) (h0s : inB s0 1 8 = true) (h0p : padB p0 k0 = true) (h0q : padB q0 k0 = false) :
    Calls Try.prog 94 #[.agg #[.int .i64 n0, .int .i64 n1], .agg #[.int .i64 k0, .int .i64 k1], .agg #[.int .i64 s0, .int .i64 s1], .agg #[.int .i64 p0, .int .i64 p1, .int .i64 q0, .int .i64 q1]] w (OutP (gdW n0 k0 s0 p0 q0 && gdW n1 k1 s1 p1 q1) (odW n0 k0 s0 p0 q0) (odW n1 k1 s1 p1 q1) w) := by
  have f0n := inB_o h0n
  have f0k := inB_o h0k
  have f0s := inB_o h0s
  have f0p := padB_o h0p
  have GG := Lib.hid (show (gdW n0 k0 s0 p0 q0 && gdW n1 k1 s1 p1 q1) = false by rw [show gdW n0 k0 s0 p0 q0 = false from decide_eq_false (fun h => by rw [padB_t (by omega)] at h0q; cases h0q)]; simp)
  go_enter Try.func94, Try.ntmps94
  go_wp2_with fail
  refine wp_loop_rounds 3 ?_
  rw [rounds_succ]
  go_wp2_with fail
  go_quiet (fail)
  go_wp2_with (first | (go_at_call 98; refine (within_any _ _ _ _).mono ?_; rintro e w' ⟨rfl, rfl⟩) | (go_at_call 99; refine (ispad_any _ _ _).mono ?_; rintro e w' ⟨rfl, rfl⟩))
  exact bodyPost_ret (v := .tuple #[.agg #[.int .i64 0, .int .i64 0], .bool false]) (by simp [results, Try.results94, go_sem]) rfl (out_no GG.out (by repeat' (first | (with_reducible refine below_drewN ?_ _) | (with_reducible refine Below.setCell ?_ ?_ _) | (with_reducible refine Below.alloc ?_ ?_ _) | (with_reducible exact Below.refl _ _) | go_size)))
set_option maxHeartbeats 2000000 in
theorem out_a5 (n0 n1 k0 k1 s0 s1 p0 p1 q0 q1 : Int) (w : World) (h0n : inB n0 1 64 = true) (h0k : inB k0 1 8 = true) (h0s : inB s0 1 8 = true) (h0p : padB p0 k0 = true) (h0q : padB q0 k0 = true) (h0r : n0 + p0 + q0 - k0 < 0) :
    Calls Try.prog 94 #[.agg #[.int .i64 n0, .int .i64 n1], .agg #[.int .i64 k0, .int .i64 k1], .agg #[.int .i64 s0, .int .i64 s1], .agg #[.int .i64 p0, .int .i64 p1, .int .i64 q0, .int .i64 q1]] w (OutP (gdW n0 k0 s0 p0 q0 && gdW n1 k1 s1 p1 q1) (odW n0 k0 s0 p0 q0) (odW n1 k1 s1 p1 q1) w) := by
  have f0n := inB_o h0n
  have f0k := inB_o h0k
  have f0s := inB_o h0s
  have f0p := padB_o h0p
  have f0q := padB_o h0q
  have GG := Lib.hid (show (gdW n0 k0 s0 p0 q0 && gdW n1 k1 s1 p1 q1) = false by rw [show gdW n0 k0 s0 p0 q0 = false from decide_eq_false (fun h => by omega)]; simp)
  go_enter Try.func94, Try.ntmps94
  go_wp2_with fail
  refine wp_loop_rounds 3 ?_
  rw [rounds_succ]
  go_wp2_with fail
  go_quiet (fail)
  go_wp2_with (first | (go_at_call 98; refine (within_any _ _ _ _).mono ?_; rintro e w' ⟨rfl, rfl⟩) | (go_at_call 99; refine (ispad_any _ _ _).mono ?_; rintro e w' ⟨rfl, rfl⟩))
  go_quiet (fail)
  go_wp2_with fail
  exact bodyPost_ret (v := .tuple #[.agg #[.int .i64 0, .int .i64 0], .bool false]) (by simp [results, Try.results94, go_sem]) rfl (out_no GG.out (by repeat' (first | (with_reducible refine below_drewN ?_ _) | (with_reducible refine Below.setCell ?_ ?_ _) | (with_reducible refine Below.alloc ?_ ?_ _) | (with_reducible exact Below.refl _ _) | go_size)))
set_option maxHeartbeats 2000000 in
theorem out_b0 (n0 n1 k0 k1 s0 s1 p0 p1 q0 q1 : Int) (w : World) (h0n : inB n0 1 64 = true) (h0k : inB k0 1 8 = true) (h0s : inB s0 1 8 = true) (h0p : padB p0 k0 = true) (h0q : padB q0 k0 = true) (h0r : 0 ≤ n0 + p0 + q0 - k0) (h1n : inB n1 1 64 = false) :
    Calls Try.prog 94 #[.agg #[.int .i64 n0, .int .i64 n1], .agg #[.int .i64 k0, .int .i64 k1], .agg #[.int .i64 s0, .int .i64 s1], .agg #[.int .i64 p0, .int .i64 p1, .int .i64 q0, .int .i64 q1]] w (OutP (gdW n0 k0 s0 p0 q0 && gdW n1 k1 s1 p1 q1) (odW n0 k0 s0 p0 q0) (odW n1 k1 s1 p1 q1) w) := by
  have f0n := inB_o h0n
  have f0k := inB_o h0k
  have f0s := inB_o h0s
  have f0p := padB_o h0p
  have f0q := padB_o h0q
  have GG := Lib.hid (show (gdW n0 k0 s0 p0 q0 && gdW n1 k1 s1 p1 q1) = false by rw [show gdW n1 k1 s1 p1 q1 = false from decide_eq_false (fun h => by rw [inB_t (by omega)] at h1n; cases h1n)]; simp)
  have d0 := div_bd (x := n0 + p0 + q0 - k0) (s := s0) h0r (by omega) (by omega)
  go_enter Try.func94, Try.ntmps94
  go_wp2_with fail
  refine wp_loop_rounds 3 ?_
  rw [rounds_succ]
  go_wp2_with fail
  go_quiet (fail)
  go_wp2_with (first | (go_at_call 98; refine (within_any _ _ _ _).mono ?_; rintro e w' ⟨rfl, rfl⟩) | (go_at_call 99; refine (ispad_any _ _ _).mono ?_; rintro e w' ⟨rfl, rfl⟩))
  go_quiet (fail)
  go_wp2_with fail
  rw [rounds_succ]
  go_wp2_with fail
  go_quiet (fail)
  go_wp2_with (first | (go_at_call 98; refine (within_any _ _ _ _).mono ?_; rintro e w' ⟨rfl, rfl⟩) | (go_at_call 99; refine (ispad_any _ _ _).mono ?_; rintro e w' ⟨rfl, rfl⟩))
  exact bodyPost_ret (v := .tuple #[.agg #[.int .i64 0, .int .i64 0], .bool false]) (by simp [results, Try.results94, go_sem]) rfl (out_no GG.out (by repeat' (first | (with_reducible refine below_drewN ?_ _) | (with_reducible refine Below.setCell ?_ ?_ _) | (with_reducible refine Below.alloc ?_ ?_ _) | (with_reducible exact Below.refl _ _) | go_size)))
set_option maxHeartbeats 2000000 in
theorem out_b1 (n0 n1 k0 k1 s0 s1 p0 p1 q0 q1 : Int) (w : World) (h0n : inB n0 1 64 = true) (h0k : inB k0 1 8 = true) (h0s : inB s0 1 8 = true) (h0p : padB p0 k0 = true) (h0q : padB q0 k0 = true) (h0r : 0 ≤ n0 + p0 + q0 - k0) (h1n : inB n1 1 64 = true) (h1k : inB k1 1 8 = false) :
    Calls Try.prog 94 #[.agg #[.int .i64 n0, .int .i64 n1], .agg #[.int .i64 k0, .int .i64 k1], .agg #[.int .i64 s0, .int .i64 s1], .agg #[.int .i64 p0, .int .i64 p1, .int .i64 q0, .int .i64 q1]] w (OutP (gdW n0 k0 s0 p0 q0 && gdW n1 k1 s1 p1 q1) (odW n0 k0 s0 p0 q0) (odW n1 k1 s1 p1 q1) w) := by
  have f0n := inB_o h0n
  have f0k := inB_o h0k
  have f0s := inB_o h0s
  have f0p := padB_o h0p
  have f0q := padB_o h0q
  have f1n := inB_o h1n
  have GG := Lib.hid (show (gdW n0 k0 s0 p0 q0 && gdW n1 k1 s1 p1 q1) = false by rw [show gdW n1 k1 s1 p1 q1 = false from decide_eq_false (fun h => by rw [inB_t (by omega)] at h1k; cases h1k)]; simp)
  have d0 := div_bd (x := n0 + p0 + q0 - k0) (s := s0) h0r (by omega) (by omega)
  go_enter Try.func94, Try.ntmps94
  go_wp2_with fail
  refine wp_loop_rounds 3 ?_
  rw [rounds_succ]
  go_wp2_with fail
  go_quiet (fail)
  go_wp2_with (first | (go_at_call 98; refine (within_any _ _ _ _).mono ?_; rintro e w' ⟨rfl, rfl⟩) | (go_at_call 99; refine (ispad_any _ _ _).mono ?_; rintro e w' ⟨rfl, rfl⟩))
  go_quiet (fail)
  go_wp2_with fail
  rw [rounds_succ]
  go_wp2_with fail
  go_quiet (fail)
  go_wp2_with (first | (go_at_call 98; refine (within_any _ _ _ _).mono ?_; rintro e w' ⟨rfl, rfl⟩) | (go_at_call 99; refine (ispad_any _ _ _).mono ?_; rintro e w' ⟨rfl, rfl⟩))
  exact bodyPost_ret (v := .tuple #[.agg #[.int .i64 0, .int .i64 0], .bool false]) (by simp [results, Try.results94, go_sem]) rfl (out_no GG.out (by repeat' (first | (with_reducible refine below_drewN ?_ _) | (with_reducible refine Below.setCell ?_ ?_ _) | (with_reducible refine Below.alloc ?_ ?_ _) | (with_reducible exact Below.refl _ _) | go_size)))
set_option maxHeartbeats 2000000 in
theorem out_b2 (n0 n1 k0 k1 s0 s1 p0 p1 q0 q1 : Int) (w : World) (h0n : inB n0 1 64 = true) (h0k : inB k0 1 8 = true) (h0s : inB s0 1 8 = true) (h0p : padB p0 k0 = true) (h0q : padB q0 k0 = true) (h0r : 0 ≤ n0 + p0 + q0 - k0) (h1n : inB n1 1 64 = true) (h1k : inB k1 1 8 = true) (h1s : inB s1 1 8 = false) :
    Calls Try.prog 94 #[.agg #[.int .i64 n0, .int .i64 n1], .agg #[.int .i64 k0, .int .i64 k1], .agg #[.int .i64 s0, .int .i64 s1], .agg #[.int .i64 p0, .int .i64 p1, .int .i64 q0, .int .i64 q1]] w (OutP (gdW n0 k0 s0 p0 q0 && gdW n1 k1 s1 p1 q1) (odW n0 k0 s0 p0 q0) (odW n1 k1 s1 p1 q1) w) := by
  have f0n := inB_o h0n
  have f0k := inB_o h0k
  have f0s := inB_o h0s
  have f0p := padB_o h0p
  have f0q := padB_o h0q
  have f1n := inB_o h1n
  have f1k := inB_o h1k
  have GG := Lib.hid (show (gdW n0 k0 s0 p0 q0 && gdW n1 k1 s1 p1 q1) = false by rw [show gdW n1 k1 s1 p1 q1 = false from decide_eq_false (fun h => by rw [inB_t (by omega)] at h1s; cases h1s)]; simp)
  have d0 := div_bd (x := n0 + p0 + q0 - k0) (s := s0) h0r (by omega) (by omega)
  go_enter Try.func94, Try.ntmps94
  go_wp2_with fail
  refine wp_loop_rounds 3 ?_
  rw [rounds_succ]
  go_wp2_with fail
  go_quiet (fail)
  go_wp2_with (first | (go_at_call 98; refine (within_any _ _ _ _).mono ?_; rintro e w' ⟨rfl, rfl⟩) | (go_at_call 99; refine (ispad_any _ _ _).mono ?_; rintro e w' ⟨rfl, rfl⟩))
  go_quiet (fail)
  go_wp2_with fail
  rw [rounds_succ]
  go_wp2_with fail
  go_quiet (fail)
  go_wp2_with (first | (go_at_call 98; refine (within_any _ _ _ _).mono ?_; rintro e w' ⟨rfl, rfl⟩) | (go_at_call 99; refine (ispad_any _ _ _).mono ?_; rintro e w' ⟨rfl, rfl⟩))
  exact bodyPost_ret (v := .tuple #[.agg #[.int .i64 0, .int .i64 0], .bool false]) (by simp [results, Try.results94, go_sem]) rfl (out_no GG.out (by repeat' (first | (with_reducible refine below_drewN ?_ _) | (with_reducible refine Below.setCell ?_ ?_ _) | (with_reducible refine Below.alloc ?_ ?_ _) | (with_reducible exact Below.refl _ _) | go_size)))
set_option maxHeartbeats 2000000 in
theorem out_b3 (n0 n1 k0 k1 s0 s1 p0 p1 q0 q1 : Int) (w : World) (h0n : inB n0 1 64 = true) (h0k : inB k0 1 8 = true) (h0s : inB s0 1 8 = true) (h0p : padB p0 k0 = true) (h0q : padB q0 k0 = true) (h0r : 0 ≤ n0 + p0 + q0 - k0) (h1n : inB n1 1 64 = true) (h1k : inB k1 1 8 = true) (h1s : inB s1 1 8 = true) (h1p : padB p1 k1 = false) :
    Calls Try.prog 94 #[.agg #[.int .i64 n0, .int .i64 n1], .agg #[.int .i64 k0, .int .i64 k1], .agg #[.int .i64 s0, .int .i64 s1], .agg #[.int .i64 p0, .int .i64 p1, .int .i64 q0, .int .i64 q1]] w (OutP (gdW n0 k0 s0 p0 q0 && gdW n1 k1 s1 p1 q1) (odW n0 k0 s0 p0 q0) (odW n1 k1 s1 p1 q1) w) := by
  have f0n := inB_o h0n
  have f0k := inB_o h0k
  have f0s := inB_o h0s
  have f0p := padB_o h0p
  have f0q := padB_o h0q
  have f1n := inB_o h1n
  have f1k := inB_o h1k
  have f1s := inB_o h1s
  have GG := Lib.hid (show (gdW n0 k0 s0 p0 q0 && gdW n1 k1 s1 p1 q1) = false by rw [show gdW n1 k1 s1 p1 q1 = false from decide_eq_false (fun h => by rw [padB_t (by omega)] at h1p; cases h1p)]; simp)
  have d0 := div_bd (x := n0 + p0 + q0 - k0) (s := s0) h0r (by omega) (by omega)
  go_enter Try.func94, Try.ntmps94
  go_wp2_with fail
  refine wp_loop_rounds 3 ?_
  rw [rounds_succ]
  go_wp2_with fail
  go_quiet (fail)
  go_wp2_with (first | (go_at_call 98; refine (within_any _ _ _ _).mono ?_; rintro e w' ⟨rfl, rfl⟩) | (go_at_call 99; refine (ispad_any _ _ _).mono ?_; rintro e w' ⟨rfl, rfl⟩))
  go_quiet (fail)
  go_wp2_with fail
  rw [rounds_succ]
  go_wp2_with fail
  go_quiet (fail)
  go_wp2_with (first | (go_at_call 98; refine (within_any _ _ _ _).mono ?_; rintro e w' ⟨rfl, rfl⟩) | (go_at_call 99; refine (ispad_any _ _ _).mono ?_; rintro e w' ⟨rfl, rfl⟩))
  exact bodyPost_ret (v := .tuple #[.agg #[.int .i64 0, .int .i64 0], .bool false]) (by simp [results, Try.results94, go_sem]) rfl (out_no GG.out (by repeat' (first | (with_reducible refine below_drewN ?_ _) | (with_reducible refine Below.setCell ?_ ?_ _) | (with_reducible refine Below.alloc ?_ ?_ _) | (with_reducible exact Below.refl _ _) | go_size)))
set_option maxHeartbeats 2000000 in
theorem out_b4 (n0 n1 k0 k1 s0 s1 p0 p1 q0 q1 : Int) (w : World) (h0n : inB n0 1 64 = true) (h0k : inB k0 1 8 = true) (h0s : inB s0 1 8 = true) (h0p : padB p0 k0 = true) (h0q : padB q0 k0 = true) (h0r : 0 ≤ n0 + p0 + q0 - k0) (h1n : inB n1 1 64 = true) (h1k : inB k1 1 8 = true) (h1s : inB s1 1 8 = true) (h1p : padB p1 k1 = true) (h1q : padB q1 k1 = false) :
    Calls Try.prog 94 #[.agg #[.int .i64 n0, .int .i64 n1], .agg #[.int .i64 k0, .int .i64 k1], .agg #[.int .i64 s0, .int .i64 s1], .agg #[.int .i64 p0, .int .i64 p1, .int .i64 q0, .int .i64 q1]] w (OutP (gdW n0 k0 s0 p0 q0 && gdW n1 k1 s1 p1 q1) (odW n0 k0 s0 p0 q0) (odW n1 k1 s1 p1 q1) w) := by
  have f0n := inB_o h0n
  have f0k := inB_o h0k
  have f0s := inB_o h0s
  have f0p := padB_o h0p
  have f0q := padB_o h0q
  have f1n := inB_o h1n
  have f1k := inB_o h1k
  have f1s := inB_o h1s
  have f1p := padB_o h1p
  have GG := Lib.hid (show (gdW n0 k0 s0 p0 q0 && gdW n1 k1 s1 p1 q1) = false by rw [show gdW n1 k1 s1 p1 q1 = false from decide_eq_false (fun h => by rw [padB_t (by omega)] at h1q; cases h1q)]; simp)
  have d0 := div_bd (x := n0 + p0 + q0 - k0) (s := s0) h0r (by omega) (by omega)
  go_enter Try.func94, Try.ntmps94
  go_wp2_with fail
  refine wp_loop_rounds 3 ?_
  rw [rounds_succ]
  go_wp2_with fail
  go_quiet (fail)
  go_wp2_with (first | (go_at_call 98; refine (within_any _ _ _ _).mono ?_; rintro e w' ⟨rfl, rfl⟩) | (go_at_call 99; refine (ispad_any _ _ _).mono ?_; rintro e w' ⟨rfl, rfl⟩))
  go_quiet (fail)
  go_wp2_with fail
  rw [rounds_succ]
  go_wp2_with fail
  go_quiet (fail)
  go_wp2_with (first | (go_at_call 98; refine (within_any _ _ _ _).mono ?_; rintro e w' ⟨rfl, rfl⟩) | (go_at_call 99; refine (ispad_any _ _ _).mono ?_; rintro e w' ⟨rfl, rfl⟩))
  exact bodyPost_ret (v := .tuple #[.agg #[.int .i64 0, .int .i64 0], .bool false]) (by simp [results, Try.results94, go_sem]) rfl (out_no GG.out (by repeat' (first | (with_reducible refine below_drewN ?_ _) | (with_reducible refine Below.setCell ?_ ?_ _) | (with_reducible refine Below.alloc ?_ ?_ _) | (with_reducible exact Below.refl _ _) | go_size)))
set_option maxHeartbeats 2000000 in
theorem out_b5 (n0 n1 k0 k1 s0 s1 p0 p1 q0 q1 : Int) (w : World) (h0n : inB n0 1 64 = true) (h0k : inB k0 1 8 = true) (h0s : inB s0 1 8 = true) (h0p : padB p0 k0 = true) (h0q : padB q0 k0 = true) (h0r : 0 ≤ n0 + p0 + q0 - k0) (h1n : inB n1 1 64 = true) (h1k : inB k1 1 8 = true) (h1s : inB s1 1 8 = true) (h1p : padB p1 k1 = true) (h1q : padB q1 k1 = true) (h1r : n1 + p1 + q1 - k1 < 0) :
    Calls Try.prog 94 #[.agg #[.int .i64 n0, .int .i64 n1], .agg #[.int .i64 k0, .int .i64 k1], .agg #[.int .i64 s0, .int .i64 s1], .agg #[.int .i64 p0, .int .i64 p1, .int .i64 q0, .int .i64 q1]] w (OutP (gdW n0 k0 s0 p0 q0 && gdW n1 k1 s1 p1 q1) (odW n0 k0 s0 p0 q0) (odW n1 k1 s1 p1 q1) w) := by
  have f0n := inB_o h0n
  have f0k := inB_o h0k
  have f0s := inB_o h0s
  have f0p := padB_o h0p
  have f0q := padB_o h0q
  have f1n := inB_o h1n
  have f1k := inB_o h1k
  have f1s := inB_o h1s
  have f1p := padB_o h1p
  have f1q := padB_o h1q
  have GG := Lib.hid (show (gdW n0 k0 s0 p0 q0 && gdW n1 k1 s1 p1 q1) = false by rw [show gdW n1 k1 s1 p1 q1 = false from decide_eq_false (fun h => by omega)]; simp)
  have d0 := div_bd (x := n0 + p0 + q0 - k0) (s := s0) h0r (by omega) (by omega)
  go_enter Try.func94, Try.ntmps94
  go_wp2_with fail
  refine wp_loop_rounds 3 ?_
  rw [rounds_succ]
  go_wp2_with fail
  go_quiet (fail)
  go_wp2_with (first | (go_at_call 98; refine (within_any _ _ _ _).mono ?_; rintro e w' ⟨rfl, rfl⟩) | (go_at_call 99; refine (ispad_any _ _ _).mono ?_; rintro e w' ⟨rfl, rfl⟩))
  go_quiet (fail)
  go_wp2_with fail
  rw [rounds_succ]
  go_wp2_with fail
  go_quiet (fail)
  go_wp2_with (first | (go_at_call 98; refine (within_any _ _ _ _).mono ?_; rintro e w' ⟨rfl, rfl⟩) | (go_at_call 99; refine (ispad_any _ _ _).mono ?_; rintro e w' ⟨rfl, rfl⟩))
  go_quiet (fail)
  go_wp2_with fail
  exact bodyPost_ret (v := .tuple #[.agg #[.int .i64 0, .int .i64 0], .bool false]) (by simp [results, Try.results94, go_sem]) rfl (out_no GG.out (by repeat' (first | (with_reducible refine below_drewN ?_ _) | (with_reducible refine Below.setCell ?_ ?_ _) | (with_reducible refine Below.alloc ?_ ?_ _) | (with_reducible exact Below.refl _ _) | go_size)))
set_option maxHeartbeats 2000000 in
theorem out_y (n0 n1 k0 k1 s0 s1 p0 p1 q0 q1 : Int) (w : World) (h0n : inB n0 1 64 = true) (h0k : inB k0 1 8 = true) (h0s : inB s0 1 8 = true) (h0p : padB p0 k0 = true) (h0q : padB q0 k0 = true) (h0r : 0 ≤ n0 + p0 + q0 - k0) (h1n : inB n1 1 64 = true) (h1k : inB k1 1 8 = true) (h1s : inB s1 1 8 = true) (h1p : padB p1 k1 = true) (h1q : padB q1 k1 = true) (h1r : 0 ≤ n1 + p1 + q1 - k1) :
    Calls Try.prog 94 #[.agg #[.int .i64 n0, .int .i64 n1], .agg #[.int .i64 k0, .int .i64 k1], .agg #[.int .i64 s0, .int .i64 s1], .agg #[.int .i64 p0, .int .i64 p1, .int .i64 q0, .int .i64 q1]] w (OutP (gdW n0 k0 s0 p0 q0 && gdW n1 k1 s1 p1 q1) (odW n0 k0 s0 p0 q0) (odW n1 k1 s1 p1 q1) w) := by
  have f0n := inB_o h0n
  have f0k := inB_o h0k
  have f0s := inB_o h0s
  have f0p := padB_o h0p
  have f0q := padB_o h0q
  have f1n := inB_o h1n
  have f1k := inB_o h1k
  have f1s := inB_o h1s
  have f1p := padB_o h1p
  have f1q := padB_o h1q
  have GG := Lib.hid (show (gdW n0 k0 s0 p0 q0 && gdW n1 k1 s1 p1 q1) = true by rw [Bool.and_eq_true]; exact ⟨decide_eq_true (by omega), decide_eq_true (by omega)⟩)
  have d0 := div_bd (x := n0 + p0 + q0 - k0) (s := s0) h0r (by omega) (by omega)
  have d1 := div_bd (x := n1 + p1 + q1 - k1) (s := s1) h1r (by omega) (by omega)
  go_enter Try.func94, Try.ntmps94
  go_wp2_with fail
  refine wp_loop_rounds 3 ?_
  rw [rounds_succ]
  go_wp2_with fail
  go_quiet (fail)
  go_wp2_with (first | (go_at_call 98; refine (within_any _ _ _ _).mono ?_; rintro e w' ⟨rfl, rfl⟩) | (go_at_call 99; refine (ispad_any _ _ _).mono ?_; rintro e w' ⟨rfl, rfl⟩))
  go_quiet (fail)
  go_wp2_with fail
  rw [rounds_succ]
  go_wp2_with fail
  go_quiet (fail)
  go_wp2_with (first | (go_at_call 98; refine (within_any _ _ _ _).mono ?_; rintro e w' ⟨rfl, rfl⟩) | (go_at_call 99; refine (ispad_any _ _ _).mono ?_; rintro e w' ⟨rfl, rfl⟩))
  go_quiet (fail)
  go_wp2_with fail
  rw [rounds_succ]
  go_wp2_with fail
  exact bodyPost_ret (v := .tuple #[.agg #[.int .i64 ((n0 + p0 + q0 - k0) / s0 + 1), .int .i64 ((n1 + p1 + q1 - k1) / s1 + 1)], .bool true]) (by simp [results, Try.results94, go_sem]) rfl (out_yes GG.out rfl rfl (by repeat' (first | (with_reducible refine below_drewN ?_ _) | (with_reducible refine Below.setCell ?_ ?_ _) | (with_reducible refine Below.alloc ?_ ?_ _) | (with_reducible exact Below.refl _ _) | go_size)))
end Go.Proofs.Ytdbfakllcaojcaa

namespace Go.Proofs.Ytdbfakllcaojcaa
open Go Go.RowKit
set_option linter.unusedVariables false

theorem gdW_o {n k s p q : Int} (h : gdW n k s p q = true) : 1 ≤ n ∧ n ≤ 64 ∧ 1 ≤ k ∧ k ≤ 8 ∧ 1 ≤ s ∧ s ≤ 8 ∧ 0 ≤ p ∧ p < k ∧ 0 ≤ q ∧ q < k ∧ k ≤ n + p + q := of_decide_eq_true h

end Go.Proofs.Ytdbfakllcaojcaa

namespace Go.Proofs.Ytdbfakllcaojcaa
open Go Go.RowKit
set_option linter.unusedVariables false

theorem od_lt {n k s p q : Int} (hs : 1 ≤ s) (x : Int) : x * s + k ≤ n + p + q ↔ x < odW n k s p q := by
  unfold odW
  have h := Int.le_ediv_iff_mul_le (a := x) (b := n + p + q - k) (c := s) (by omega)
  constructor
  · intro g
    have := h.2 (by omega)
    omega
  · intro g
    have := h.1 (by omega)
    omega
theorem od_bd {n k s p q : Int} (h : gdW n k s p q = true) : 1 ≤ odW n k s p q ∧ odW n k s p q ≤ 1001 := by
  have g := gdW_o h
  unfold odW
  have := div_bd (x := n + p + q - k) (s := s) (by omega) (by omega) (by omega)
  omega
theorem mul_bdW {x s : Int} (h0 : 0 ≤ x) (h1 : x ≤ 1001) (g0 : 1 ≤ s) (g1 : s ≤ 8) : 0 ≤ x * s ∧ x * s ≤ 8008 := by
  refine ⟨Int.mul_nonneg h0 (by omega), ?_⟩
  have := Int.mul_le_mul h1 g1 (by omega) (by omega)
  omega
/-- the four arrays and the result's block -/
structure InW (B : Nat) (n0 n1 k0 k1 s0 s1 p0 p1 q0 q1 : Int) (w : World) : Prop where
  n0 : w.cell? ⟨B, 0, none⟩ = some (.int .i64 n0)
  n1 : w.cell? ⟨B, 1, none⟩ = some (.int .i64 n1)
  k0 : w.cell? ⟨B + 1, 0, none⟩ = some (.int .i64 k0)
  k1 : w.cell? ⟨B + 1, 1, none⟩ = some (.int .i64 k1)
  s0 : w.cell? ⟨B + 1 + 1, 0, none⟩ = some (.int .i64 s0)
  s1 : w.cell? ⟨B + 1 + 1, 1, none⟩ = some (.int .i64 s1)
  p0 : w.cell? ⟨B + 1 + 1 + 1, 0, none⟩ = some (.int .i64 p0)
  p1 : w.cell? ⟨B + 1 + 1 + 1, 1, none⟩ = some (.int .i64 p1)
  q0 : w.cell? ⟨B + 1 + 1 + 1, 2, none⟩ = some (.int .i64 q0)
  q1 : w.cell? ⟨B + 1 + 1 + 1, 3, none⟩ = some (.int .i64 q1)
  r : w.heap[B + 1 + 1 + 1 + 1]? = some (.cells #[.int .i64 0, .int .i64 0] 54 (0, 0))
  lt : B + 1 + 1 + 1 + 1 + 1 < w.heap.size
theorem InW.grown {B : Nat} {n0 n1 k0 k1 s0 s1 p0 p1 q0 q1 : Int} {w w' : World} (h : InW B n0 n1 k0 k1 s0 s1 p0 p1 q0 q1 w) (hg : w.grownBy w' (some (B + 1 + 1 + 1 + 1 + 1))) : InW B n0 n1 k0 k1 s0 s1 p0 p1 q0 q1 w' :=
  ⟨hg.cell h.n0 (by first | (simp; done) | (simp; omega)), hg.cell h.n1 (by first | (simp; done) | (simp; omega)), hg.cell h.k0 (by first | (simp; done) | (simp; omega)), hg.cell h.k1 (by first | (simp; done) | (simp; omega)), hg.cell h.s0 (by first | (simp; done) | (simp; omega)), hg.cell h.s1 (by first | (simp; done) | (simp; omega)), hg.cell h.p0 (by first | (simp; done) | (simp; omega)), hg.cell h.p1 (by first | (simp; done) | (simp; omega)), hg.cell h.q0 (by first | (simp; done) | (simp; omega)), hg.cell h.q1 (by first | (simp; done) | (simp; omega)),
    (hg.block _ (by have := h.lt; omega) (by first | (simp; done) | (simp; omega))).trans h.r, Nat.lt_of_lt_of_le h.lt hg.size⟩
def iW (x : Int) : Value := .int .i64 x
theorem own_laterW {w w1 : World} {base n size : Nat} {e : TypeId} {v : Value} {xs : List Value} (h : w.ownsRow base e size v n xs) (hb : Below w.heap.size w w1) : w1.ownsRow base e size v n xs :=
  h.kept (show w.grownBy w1 none from ⟨hb.os, hb.tape, hb.output, hb.size, fun i hi _ => hb.block i hi⟩) (by cases v.ownBlock <;> simp)
theorem grown_drewN (w : World) (n : Nat) (r : Option Nat) : w.grownBy (w.drewN n) r := ⟨rfl, rfl, rfl, Nat.le_refl _, fun _ _ _ => rfl⟩

theorem inW_new (n0 n1 k0 k1 s0 s1 p0 p1 q0 q1 : Int) (w : World) : InW w.heap.size n0 n1 k0 k1 s0 s1 p0 p1 q0 q1 ((((((w.alloc (.cells #[.int .i64 n0, .int .i64 n1] 54)).alloc (.cells #[.int .i64 k0, .int .i64 k1] 54)).alloc (.cells #[.int .i64 s0, .int .i64 s1] 54)).alloc (.cells #[.int .i64 p0, .int .i64 p1, .int .i64 q0, .int .i64 q1] 55)).alloc (.cells #[.int .i64 0, .int .i64 0] 54)).alloc (.cells #[.int .i64 0, .int .i64 0] 54)) := by
  have e4 : ((((w.alloc (.cells #[.int .i64 n0, .int .i64 n1] 54)).alloc (.cells #[.int .i64 k0, .int .i64 k1] 54)).alloc (.cells #[.int .i64 s0, .int .i64 s1] 54)).alloc (.cells #[.int .i64 p0, .int .i64 p1, .int .i64 q0, .int .i64 q1] 55)).heap.size = w.heap.size + 1 + 1 + 1 + 1 := by simp
  refine ⟨?_, ?_, ?_, ?_, ?_, ?_, ?_, ?_, ?_, ?_, ?_, by simp⟩
  case refine_11 =>
    rw [heap_alloc_old _ _ (by simp), ← e4, heap_alloc_new]
  all_goals go_simp
end Go.Proofs.Ytdbfakllcaojcaa

namespace Go.Proofs.Ytdbfakllcaojcaa
open Go Go.RowKit
set_option linter.unusedVariables false

theorem out_any (n0 n1 k0 k1 s0 s1 p0 p1 q0 q1 : Int) (w : World) :
    Calls Try.prog 94 #[.agg #[.int .i64 n0, .int .i64 n1], .agg #[.int .i64 k0, .int .i64 k1], .agg #[.int .i64 s0, .int .i64 s1], .agg #[.int .i64 p0, .int .i64 p1, .int .i64 q0, .int .i64 q1]] w (OutP (gdW n0 k0 s0 p0 q0 && gdW n1 k1 s1 p1 q1) (odW n0 k0 s0 p0 q0) (odW n1 k1 s1 p1 q1) w) := by
  cases h0n : inB n0 1 64
  · exact out_a0 n0 n1 k0 k1 s0 s1 p0 p1 q0 q1 w  h0n
  cases h0k : inB k0 1 8
  · exact out_a1 n0 n1 k0 k1 s0 s1 p0 p1 q0 q1 w h0n h0k
  cases h0s : inB s0 1 8
  · exact out_a2 n0 n1 k0 k1 s0 s1 p0 p1 q0 q1 w h0n h0k h0s
  cases h0p : padB p0 k0
  · exact out_a3 n0 n1 k0 k1 s0 s1 p0 p1 q0 q1 w h0n h0k h0s h0p
  cases h0q : padB q0 k0
  · exact out_a4 n0 n1 k0 k1 s0 s1 p0 p1 q0 q1 w h0n h0k h0s h0p h0q
  by_cases h0r : 0 ≤ n0 + p0 + q0 - k0
  case neg => exact out_a5 n0 n1 k0 k1 s0 s1 p0 p1 q0 q1 w h0n h0k h0s h0p h0q (by omega)
  cases h1n : inB n1 1 64
  · exact out_b0 n0 n1 k0 k1 s0 s1 p0 p1 q0 q1 w h0n h0k h0s h0p h0q h0r h1n
  cases h1k : inB k1 1 8
  · exact out_b1 n0 n1 k0 k1 s0 s1 p0 p1 q0 q1 w h0n h0k h0s h0p h0q h0r h1n h1k
  cases h1s : inB s1 1 8
  · exact out_b2 n0 n1 k0 k1 s0 s1 p0 p1 q0 q1 w h0n h0k h0s h0p h0q h0r h1n h1k h1s
  cases h1p : padB p1 k1
  · exact out_b3 n0 n1 k0 k1 s0 s1 p0 p1 q0 q1 w h0n h0k h0s h0p h0q h0r h1n h1k h1s h1p
  cases h1q : padB q1 k1
  · exact out_b4 n0 n1 k0 k1 s0 s1 p0 p1 q0 q1 w h0n h0k h0s h0p h0q h0r h1n h1k h1s h1p h1q
  by_cases h1r : 0 ≤ n1 + p1 + q1 - k1
  case neg => exact out_b5 n0 n1 k0 k1 s0 s1 p0 p1 q0 q1 w h0n h0k h0s h0p h0q h0r h1n h1k h1s h1p h1q (by omega)
  exact out_y n0 n1 k0 k1 s0 s1 p0 p1 q0 q1 w h0n h0k h0s h0p h0q h0r h1n h1k h1s h1p h1q h1r
end Go.Proofs.Ytdbfakllcaojcaa
