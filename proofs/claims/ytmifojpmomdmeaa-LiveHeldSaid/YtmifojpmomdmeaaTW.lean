/- Plain facts on words of 32 bits, with no program in sight. -/
import Derived.WalkKit
import Derived.WalkLawsBesides
import Derived.Test.YtmifojpmomdmeaaProg
import Derived.WalkSpells
import Derived.WalkSmall
import Derived.Handy
import Derived.Lib.Hide
import Derived.BigQuiet
import Derived.StillTailTactics
import Derived.Deep.RegionHeld3
import Derived.ProofKit
import Derived.OpenShut
import Derived.ChangeKeysEq
import Derived.Laws.StructEq
import Derived.Deep.QuietTactic
import Derived.OwnWalk
import Derived.Deep.OwnRows
import Derived.Deep.LoopGhost
import Derived.BigRegion
namespace Go.Proofs.Ytmifojpmomdmeaa.Pl
open Go Go.RowKit

/-- a word as a number of two's complement -/
def sg (a : Int) : Int := if a < 2147483648 then a else a - 4294967296

theorem sg_bd {a : Int} (h0 : 0 ≤ a) (h1 : a < 4294967296) : -2147483648 ≤ sg a ∧ sg a ≤ 2147483647 := by
  unfold sg; split <;> omega
theorem wrap32_sg {a : Int} (h0 : 0 ≤ a) (h1 : a < 4294967296) : wrap32 a = sg a := by
  unfold wrap32 sg; split <;> omega
theorem sg_mod {a : Int} (h0 : 0 ≤ a) (h1 : a < 4294967296) : sg a % 4294967296 = a := by
  unfold sg; split <;> omega
theorem sg_zero {a : Int} (_ : 0 ≤ a) (_ : a < 4294967296) : sg a = 0 ↔ a = 0 := by
  unfold sg; split <;> omega
theorem sg_div {a : Int} (_ : 0 ≤ a) (_ : a < 4294967296) : (sg a - a) % 4294967296 = 0 := by
  unfold sg; split <;> omega
theorem wrap64_in' {n : Int} (h : -9223372036854775808 ≤ n ∧ n ≤ 9223372036854775807) : wrap64 n = n := IntWalk.wrap64_in n h

theorem and31 {b : Int} (h0 : 0 ≤ b) (h1 : b < 4294967296) : bits .and .u32 b 31 = b % 32 := by
  rw [u32_and b 31 h0 h1 (by omega) (by omega)]
  have : (31 : Int).toNat = 31 := rfl
  rw [this, nat_mask5]
  omega

theorem mul_bd {x y : Int} {A B : Nat} (hx : x.natAbs ≤ A) (hy : y.natAbs ≤ B) : (x * y).natAbs ≤ A * B := by
  rw [Int.natAbs_mul]; exact Nat.mul_le_mul hx hy

theorem mul_ss {a b : Int} (h0 : 0 ≤ a) (h1 : a < 4294967296) (g0 : 0 ≤ b) (g1 : b < 4294967296) :
    -4611686018427387904 ≤ sg a * sg b ∧ sg a * sg b ≤ 4611686018427387904 := by
  have ha := sg_bd h0 h1
  have hb := sg_bd g0 g1
  have := mul_bd (x := sg a) (y := sg b) (A := 2147483648) (B := 2147483648) (by omega) (by omega)
  omega
theorem mul_su {a b : Int} (h0 : 0 ≤ a) (h1 : a < 4294967296) (g0 : 0 ≤ b) (g1 : b < 4294967296) :
    -9223372034707292160 ≤ sg a * b ∧ sg a * b ≤ 9223372034707292160 := by
  have ha := sg_bd h0 h1
  have := mul_bd (x := sg a) (y := b) (A := 2147483648) (B := 4294967295) (by omega) (by omega)
  omega
theorem mul_uu {a b : Int} (h0 : 0 ≤ a) (h1 : a < 4294967296) (g0 : 0 ≤ b) (g1 : b < 4294967296) :
    0 ≤ a * b ∧ a * b < 18446744073709551615 := by
  have := mul_bd (x := a) (y := b) (A := 4294967295) (B := 4294967295) (by omega) (by omega)
  have := Int.mul_nonneg h0 g0
  omega

/-- what an operation of two registers answers -/
def aluS (op a b : Int) : Int :=
  if op = 1 then (a + b) % 4294967296 else
  if op = 2 then (a - b) % 4294967296 else
  if op = 3 then a * 2 ^ (b % 32).toNat % 4294967296 else
  if op = 4 then (if sg a < sg b then 1 else 0) else
  if op = 5 then (if a < b then 1 else 0) else
  if op = 6 then ((a.toNat ^^^ b.toNat : Nat) : Int) else
  if op = 7 then a / 2 ^ (b % 32).toNat else
  if op = 8 then sg a / 2 ^ (b % 32).toNat % 4294967296 else
  if op = 9 then ((a.toNat ||| b.toNat : Nat) : Int) else
  if op = 10 then ((a.toNat &&& b.toNat : Nat) : Int) else
  if op = 11 then a * b % 4294967296 else
  if op = 12 then sg a * sg b / 4294967296 % 4294967296 else
  if op = 13 then sg a * b / 4294967296 % 4294967296 else
  if op = 14 then a * b / 4294967296 else
  if op = 15 then (if b = 0 then 4294967295 else (sg a).tdiv (sg b) % 4294967296) else
  if op = 16 then (if b = 0 then 4294967295 else a / b) else
  if op = 17 then (if b = 0 then a else (sg a).tmod (sg b) % 4294967296) else
  (if b = 0 then a else a % b)

theorem pow_toNat_pos (n : Nat) : (0 : Int) < 2 ^ n := Int.pow_pos (by omega)

theorem div_le_self {a : Int} (n : Nat) (h0 : 0 ≤ a) : 0 ≤ a / 2 ^ n ∧ a / 2 ^ n ≤ a :=
  ⟨Int.ediv_nonneg h0 (Int.le_of_lt (pow_toNat_pos n)), Int.ediv_le_self _ h0⟩

theorem mod_pos_bd (x : Int) : 0 ≤ x % 4294967296 ∧ x % 4294967296 < 4294967296 := by omega

theorem nat_lt_xor {a b : Int} (h0 : 0 ≤ a) (h1 : a < 4294967296) (g0 : 0 ≤ b) (g1 : b < 4294967296) : a.toNat ^^^ b.toNat < 4294967296 :=
  Nat.xor_lt_two_pow (n := 32) (by omega) (by omega)
theorem nat_lt_or {a b : Int} (h0 : 0 ≤ a) (h1 : a < 4294967296) (g0 : 0 ≤ b) (g1 : b < 4294967296) : a.toNat ||| b.toNat < 4294967296 :=
  Nat.or_lt_two_pow (n := 32) (by omega) (by omega)
theorem nat_lt_and {a b : Int} (h0 : 0 ≤ a) (h1 : a < 4294967296) (_ : 0 ≤ b) (_ : b < 4294967296) : a.toNat &&& b.toNat < 4294967296 :=
  Nat.lt_of_le_of_lt Nat.and_le_left (by omega)

theorem ite_bd {c : Prop} [Decidable c] {x y : Int} (hx : c → 0 ≤ x ∧ x < 4294967296) (hy : ¬ c → 0 ≤ y ∧ y < 4294967296) : 0 ≤ (if c then x else y) ∧ (if c then x else y) < 4294967296 := by
  by_cases h : c
  · rw [if_pos h]; exact hx h
  · rw [if_neg h]; exact hy h

theorem aluS_bd {op a b : Int} (h0 : 0 ≤ a) (h1 : a < 4294967296) (g0 : 0 ≤ b) (g1 : b < 4294967296) : 0 ≤ aluS op a b ∧ aluS op a b < 4294967296 := by
  have hd := div_le_self (b % 32).toNat h0
  have hx := nat_lt_xor h0 h1 g0 g1
  have ho := nat_lt_or h0 h1 g0 g1
  have hn := nat_lt_and h0 h1 g0 g1
  have hm := mul_uu h0 h1 g0 g1
  have hm2 := mul_bd (x := a) (y := b) (A := 4294967295) (B := 4294967295) (by omega) (by omega)
  unfold aluS
  repeat' (apply ite_bd <;> intro hb)
  all_goals first
    | omega
    | exact mod_pos_bd _
    | (refine ⟨Int.ediv_nonneg h0 g0, ?_⟩; exact Int.lt_of_le_of_lt (Int.ediv_le_self _ h0) h1)
    | exact ⟨Int.emod_nonneg _ hb, Int.lt_trans (Int.emod_lt_of_pos _ (by omega)) g1⟩

/-! ### bit by bit -/
theorem bitq (n k : Nat) : n / 2^k % 2 = (n.testBit k).toNat := by
  rw [Nat.toNat_testBit]
theorem bstep (n k : Nat) : n / 2^k = n / 2^(k+1) * 2 + n / 2^k % 2 := by
  rw [Nat.pow_succ, ← Nat.div_div_eq_div_mul]; omega
theorem bit_xor (a b k : Nat) : (a ^^^ b) / 2^k % 2 = if a / 2^k % 2 + b / 2^k % 2 = 1 then 1 else 0 := by
  simp only [bitq, Nat.testBit_xor]
  cases a.testBit k <;> cases b.testBit k <;> rfl
theorem bit_or (a b k : Nat) : (a ||| b) / 2^k % 2 = if a / 2^k % 2 + b / 2^k % 2 = 0 then 0 else 1 := by
  simp only [bitq, Nat.testBit_or]
  cases a.testBit k <;> cases b.testBit k <;> rfl
theorem bit_and (a b k : Nat) : (a &&& b) / 2^k % 2 = if a / 2^k % 2 + b / 2^k % 2 = 2 then 1 else 0 := by
  simp only [bitq, Nat.testBit_and]
  cases a.testBit k <;> cases b.testBit k <;> rfl

end Go.Proofs.Ytmifojpmomdmeaa.Pl

namespace Go.Proofs.Ytmifojpmomdmeaa
open Go Go.RowKit Pl
set_option linter.unusedVariables false

theorem ret_bool {a b : Bool} (h : a = b) : Ending.returned (.bool a) = .returned (.bool b) := by rw [h]
theorem ret_i64 {a b : Int} (h : a = b) : Ending.returned (.int .i64 a) = .returned (.int .i64 b) := by rw [h]

/-- three numbers as a value -/
def sh (x y z : Int) : Value := .agg #[.int .i64 x, .int .i64 y, .int .i64 z]
def goodB (x y z : Int) : Bool := decide (1 ≤ x ∧ x ≤ 64 ∧ 1 ≤ y ∧ y ≤ 64 ∧ 1 ≤ z ∧ z ≤ 64 ∧ x * y * z ≤ 16384)

theorem goodB_no {x y z : Int} (h : ¬ (1 ≤ x ∧ x ≤ 64 ∧ 1 ≤ y ∧ y ≤ 64 ∧ 1 ≤ z ∧ z ≤ 64 ∧ x * y * z ≤ 16384)) : goodB x y z = false := decide_eq_false h
theorem goodB_yes {x y z : Int} (h : 1 ≤ x ∧ x ≤ 64 ∧ 1 ≤ y ∧ y ≤ 64 ∧ 1 ≤ z ∧ z ≤ 64 ∧ x * y * z ≤ 16384) : goodB x y z = true := decide_eq_true h
theorem mul3 {x y z : Int} (hx : 1 ≤ x ∧ x ≤ 64) (hy : 1 ≤ y ∧ y ≤ 64) (hz : 1 ≤ z ∧ z ≤ 64) : 0 ≤ x * y ∧ x * y ≤ 4096 ∧ 0 ≤ x * y * z ∧ x * y * z ≤ 262144 := by
  have h1 := mul_bd (x := x) (y := y) (A := 64) (B := 64) (by omega) (by omega)
  have h2 := mul_bd (x := x * y) (y := z) (A := 4096) (B := 64) h1 (by omega)
  have h3 : 0 ≤ x * y := Int.mul_nonneg (by omega) (by omega)
  have h4 : 0 ≤ x * y * z := Int.mul_nonneg h3 (by omega)
  omega

theorem good_last {x y z : Int} (hx : 1 ≤ x ∧ x ≤ 64) (hy : 1 ≤ y ∧ y ≤ 64) (hz : 1 ≤ z ∧ z ≤ 64) : decide (wrap64 (wrap64 (x * y) * z) ≤ 16384) = goodB x y z := by
  obtain ⟨a, b, c, d⟩ := mul3 hx hy hz
  rw [wrap64_in' (n := x * y) (by omega), wrap64_in' (by omega)]
  unfold goodB
  rw [decide_eq_decide]
  exact ⟨fun h => ⟨hx.1, hx.2, hy.1, hy.2, hz.1, hz.2, h⟩, fun h => h.2.2.2.2.2.2⟩

set_option maxHeartbeats 400000 in
theorem good_any (x y z : Int) (w : World) :
    Calls Try.prog 39 #[.agg #[.int .i64 x, .int .i64 y, .int .i64 z]] w fun e w' => e = .returned (.bool (goodB x y z)) ∧ w' = w.alloc (.cells #[.int .i64 x, .int .i64 y, .int .i64 z] 22) := by
  have i0 : ∀ w, (Instr.index 22 (.agg #[.int .i64 x, .int .i64 y, .int .i64 z]) (.int .i64 0)).run Try.prog w = .ok (.int .i64 x) w := fun _ => by kernel_rfl
  have i1 : ∀ w, (Instr.index 22 (.agg #[.int .i64 x, .int .i64 y, .int .i64 z]) (.int .i64 1)).run Try.prog w = .ok (.int .i64 y) w := fun _ => by kernel_rfl
  have i2 : ∀ w, (Instr.index 22 (.agg #[.int .i64 x, .int .i64 y, .int .i64 z]) (.int .i64 2)).run Try.prog w = .ok (.int .i64 z) w := fun _ => by kernel_rfl
  go_enter Try.func39, Try.ntmps39
  go_wp2
  go_rounds 4
  all_goals go_ret
  all_goals first | exact ⟨ret_bool (goodB_no (by omega)).symm, rfl⟩ | exact ⟨ret_bool (good_last ⟨by omega, by omega⟩ ⟨by omega, by omega⟩ ⟨by omega, by omega⟩), rfl⟩

set_option maxHeartbeats 400000 in
theorem ref_good (x y z : Int) (w : World) :
    Calls Try.prog 40 #[.agg #[.int .i64 x, .int .i64 y, .int .i64 z]] w fun e w' => e = .returned (.bool (goodB x y z)) ∧ w' = w.alloc (.cells #[.int .i64 x, .int .i64 y, .int .i64 z] 22) := by
  have i0 : ∀ w, (Instr.index 22 (.agg #[.int .i64 x, .int .i64 y, .int .i64 z]) (.int .i64 0)).run Try.prog w = .ok (.int .i64 x) w := fun _ => by kernel_rfl
  have i1 : ∀ w, (Instr.index 22 (.agg #[.int .i64 x, .int .i64 y, .int .i64 z]) (.int .i64 1)).run Try.prog w = .ok (.int .i64 y) w := fun _ => by kernel_rfl
  have i2 : ∀ w, (Instr.index 22 (.agg #[.int .i64 x, .int .i64 y, .int .i64 z]) (.int .i64 2)).run Try.prog w = .ok (.int .i64 z) w := fun _ => by kernel_rfl
  go_enter Try.func40, Try.ntmps40
  go_wp2
  go_rounds 4
  all_goals go_ret
  all_goals first | exact ⟨ret_bool (goodB_no (by omega)).symm, rfl⟩ | exact ⟨ret_bool (good_last ⟨by omega, by omega⟩ ⟨by omega, by omega⟩ ⟨by omega, by omega⟩), rfl⟩

def sizeS (x y z : Int) : Int := if goodB x y z then x * y * z else 0
theorem goodB_out {x y z : Int} (h : goodB x y z = true) : 1 ≤ x ∧ x ≤ 64 ∧ 1 ≤ y ∧ y ≤ 64 ∧ 1 ≤ z ∧ z ≤ 64 ∧ x * y * z ≤ 16384 := of_decide_eq_true h

set_option maxHeartbeats 400000 in
theorem size_any (x y z : Int) (w : World) :
    Calls Try.prog 20 #[.agg #[.int .i64 x, .int .i64 y, .int .i64 z]] w fun e w' => e = .returned (.int .i64 (sizeS x y z)) ∧ w' = (w.alloc (.cells #[.int .i64 x, .int .i64 y, .int .i64 z] 22)).alloc (.cells #[.int .i64 x, .int .i64 y, .int .i64 z] 22) := by
  by_cases hg : goodB x y z = true
  · obtain ⟨x0, x1, y0, y1, z0, z1, _⟩ := goodB_out hg
    obtain ⟨m0, m1, m2, m3⟩ := mul3 ⟨x0, x1⟩ ⟨y0, y1⟩ ⟨z0, z1⟩
    have hs : sizeS x y z = x * y * z := by unfold sizeS; rw [if_pos hg]
    rw [hs]
    clear hs
    go_enter Try.func20, Try.ntmps20
    go_wp2_with (go_at_call 39; refine (good_any x y z _).mono ?_; rintro e w' ⟨rfl, rfl⟩)
    go_ret
    exact ⟨rfl, rfl⟩
  · have hg : goodB x y z = false := by simpa using hg
    have hs : sizeS x y z = 0 := by unfold sizeS; rw [hg]; rfl
    rw [hs]
    clear hs
    go_enter Try.func20, Try.ntmps20
    go_wp2_with (go_at_call 39; refine (good_any x y z _).mono ?_; rintro e w' ⟨rfl, rfl⟩)
    go_ret
    exact ⟨rfl, rfl⟩

/-- an element of a shape -/
def inS (x y z a b c : Int) : Prop := 0 ≤ a ∧ a < x ∧ 0 ≤ b ∧ b < y ∧ 0 ≤ c ∧ c < z
theorem prods {x y z a b c : Int} (hx : 1 ≤ x ∧ x ≤ 64) (hy : 1 ≤ y ∧ y ≤ 64) (hz : 1 ≤ z ∧ z ≤ 64) (h : inS x y z a b c) :
    0 ≤ a * y ∧ a * y ≤ 4096 ∧ 0 ≤ b * z ∧ b * z ≤ 4096 ∧ 0 ≤ a * y * z ∧ a * y * z ≤ 262144 ∧ 0 ≤ (a * y + b) * z ∧ (a * y + b) * z ≤ 266240 ∧ a * y * z + b * z = (a * y + b) * z := by
  obtain ⟨a0, a1, b0, b1, c0, c1⟩ := h
  have h1 := mul_bd (x := a) (y := y) (A := 64) (B := 64) (by omega) (by omega)
  have h2 := mul_bd (x := b) (y := z) (A := 64) (B := 64) (by omega) (by omega)
  have h3 := mul_bd (x := a * y) (y := z) (A := 4096) (B := 64) h1 (by omega)
  have p1 : 0 ≤ a * y := Int.mul_nonneg a0 (by omega)
  have p2 : 0 ≤ b * z := Int.mul_nonneg b0 (by omega)
  have p3 : 0 ≤ a * y * z := Int.mul_nonneg p1 (by omega)
  have e : (a * y + b) * z = a * y * z + b * z := Int.add_mul _ _ _
  omega

end Go.Proofs.Ytmifojpmomdmeaa

namespace Go.Proofs.Ytmifojpmomdmeaa
open Go Go.RowKit Pl
set_option linter.unusedVariables false
theorem good_b (x y z : Int) (w : World) : Calls Try.prog 39 #[.agg #[.int .i64 x, .int .i64 y, .int .i64 z]] w fun e w' => e = .returned (.bool (goodB x y z)) ∧ Below w.heap.size w w' :=
  (good_any x y z w).mono fun e w' ⟨h, g⟩ => ⟨h, by subst g; go_grown⟩
theorem ref_good_b (x y z : Int) (w : World) : Calls Try.prog 40 #[.agg #[.int .i64 x, .int .i64 y, .int .i64 z]] w fun e w' => e = .returned (.bool (goodB x y z)) ∧ Below w.heap.size w w' :=
  (ref_good x y z w).mono fun e w' ⟨h, g⟩ => ⟨h, by subst g; go_grown⟩
/-- 0: no number below 1, and good; 1: a number below 1; 2: too great -/
def fitsN (x y z : Int) : Nat := if x < 1 ∨ y < 1 ∨ z < 1 then 1 else if goodB x y z then 0 else 2
def errOf : Nat → Int
  | 0 => 0
  | 1 => 10
  | _ => 12
theorem fitsN_1 {x y z : Int} (h : x < 1 ∨ y < 1 ∨ z < 1) : errOf (fitsN x y z) = 10 := by simp [fitsN, h, errOf]
theorem fitsN_0 {x y z : Int} (h : ¬ (x < 1 ∨ y < 1 ∨ z < 1)) (g : goodB x y z = true) : errOf (fitsN x y z) = 0 := by simp [fitsN, h, g, errOf]
theorem fitsN_2 {x y z : Int} (h : ¬ (x < 1 ∨ y < 1 ∨ z < 1)) (g : goodB x y z = false) : errOf (fitsN x y z) = 12 := by simp [fitsN, h, g, errOf]
theorem ret_k {k : IntKind} {a b : Int} (h : a = b) : Ending.returned (.int k a) = .returned (.int k b) := by rw [h]
set_option maxHeartbeats 1000000 in
theorem fits_any (x y z : Int) (w : World) :
    Calls Try.prog 36 #[.agg #[.int .i64 x, .int .i64 y, .int .i64 z]] w fun e w' => e = .returned (.int .i64 (errOf (fitsN x y z))) ∧ Below w.heap.size w w' := by
  have i0 : ∀ w, (Instr.index 22 (.agg #[.int .i64 x, .int .i64 y, .int .i64 z]) (.int .i64 0)).run Try.prog w = .ok (.int .i64 x) w := fun _ => by kernel_rfl
  have i1 : ∀ w, (Instr.index 22 (.agg #[.int .i64 x, .int .i64 y, .int .i64 z]) (.int .i64 1)).run Try.prog w = .ok (.int .i64 y) w := fun _ => by kernel_rfl
  have i2 : ∀ w, (Instr.index 22 (.agg #[.int .i64 x, .int .i64 y, .int .i64 z]) (.int .i64 2)).run Try.prog w = .ok (.int .i64 z) w := fun _ => by kernel_rfl
  have G := Lib.hid (good_b x y z)
  have F1 := Lib.hid (@fitsN_1 x y z)
  have F0 := Lib.hid (@fitsN_0 x y z)
  have F2 := Lib.hid (@fitsN_2 x y z)
  generalize errOf (fitsN x y z) = r at F1 F0 F2
  cases hg : goodB x y z
  all_goals
    rw [hg] at G F0 F2
    clear hg
    go_enter Try.func36, Try.ntmps36
    go_wp2_with (first | (go_at_call 39; refine (G.out _).mono ?_; rintro e w1 ⟨rfl, hb⟩))
    refine wp_loop_rounds 4 ?_
    repeat any_goals (rw [rounds_succ]; go_wp2_with (first | (go_at_call 39; refine (G.out _).mono ?_; rintro e w1 ⟨rfl, hb⟩)))
    all_goals (try go_wp2_with (first | (go_at_call 39; refine (G.out _).mono ?_; rintro e w1 ⟨rfl, hb⟩)))
    all_goals go_ret
    all_goals first | exact ⟨ret_k (F1.out (by omega)).symm, by go_grown⟩ | exact ⟨ret_k (F0.out (by omega) (by trivial)).symm, ((Below.refl _ _).alloc (Nat.le_refl _) _).trans (hb.mono (by simp))⟩ | exact ⟨ret_k (F2.out (by omega) (by trivial)).symm, ((Below.refl _ _).alloc (Nat.le_refl _) _).trans (hb.mono (by simp))⟩ | trace_state
end Go.Proofs.Ytmifojpmomdmeaa

namespace Go.Proofs.Ytmifojpmomdmeaa
open Go Go.RowKit Go.ChangeShapes Go.WideShapes

theorem wf_of_has {k : IntKind} {n : Int} (h : k.has n) : (Lit.int k n).wf = true := by
  obtain ⟨a, b⟩ := h
  simp [Lit.wf, a, b]

theorem cell_int {P : Program} {w : World} {r : Reach} {b : Nat} {t : TypeId} {k : IntKind} {v : Value} (ht : P.underlying t = some (.int k)) (h : Cell.okWide P w r b t v) :
    ∃ n, v = .int k n ∧ k.has n := by
  unfold Cell.okWide Cell.ok at h
  rw [ht] at h
  cases v <;> simp at h
  obtain ⟨rfl, h⟩ := h
  exact ⟨_, rfl, h⟩

/-- a struct or an array whose cells are all integers -/
theorem flat_ints {P : Program} {w : World} {r : Reach} {b : Nat} {t : TypeId} {v : Value} (ks : List IntKind) {ts : List TypeId}
    (hu : (∃ fs, P.underlying t = some (.struct fs)) ∨ (∃ n e, P.underlying t = some (.array n e)))
    (hts : P.cellTypes P.depth t = some ts) (hks : ts.map P.underlying = ks.map fun k => some (.int k)) (hC : P.cellsOf t = ks.length)
    (h : Value.okWide P w r b t v) :
    ∃ zs : List Int, zs.length = ks.length ∧ v = .agg (List.zipWith Value.int ks zs).toArray ∧ ∀ (i : Nat) k z, ks[i]? = some k → zs[i]? = some z → (Lit.int k z).wf = true := by
  have hl : ts.length = ks.length := by have := congrArg List.length hks; simpa using this
  have : ∃ cs, v = .agg cs ∧ cs.size = P.cellsOf t ∧ Row.okWide P w r b t cs := by
    unfold Value.okWide at h
    rcases hu with ⟨fs, hu⟩ | ⟨n, e, hu⟩ <;> (rw [hu] at h; exact h)
  obtain ⟨cs, rfl, hsz, ts', hts', _, hc⟩ := this
  obtain rfl : ts = ts' := by rw [hts] at hts'; exact Option.some.inj hts'
  have hcell : ∀ i, i < ks.length → ∃ z k, ks[i]? = some k ∧ cs[i]? = some (.int k z) ∧ k.has z := by
    intro i hi
    have hi' : i < cs.size := by omega
    obtain ⟨u, h1, h2⟩ := hc i cs[i] (by simp [hi'])
    have e1 : i % ts.length = i := Nat.mod_eq_of_lt (by omega)
    rw [e1] at h1
    have hk : ks[i]? = some ks[i] := by simp [hi]
    have h3 : P.underlying u = some (.int ks[i]) := by
      have := congrArg (·[i]?) hks
      simp [h1, hi] at this
      exact this
    obtain ⟨z, hz, hh⟩ := cell_int h3 h2
    exact ⟨z, ks[i], hk, by rw [Array.getElem?_eq_getElem hi', hz], hh⟩
  refine ⟨cs.toList.map intOf, by simp; omega, ?_, ?_⟩
  · congr 1
    apply Array.ext
    · simp; omega
    · intro i h1 h2
      obtain ⟨z, k, hk, hz, _⟩ := hcell i (by omega)
      have e : cs[i] = .int k z := by rw [Array.getElem?_eq_getElem h1] at hz; exact Option.some.inj hz
      have hk' : ks[i]'(by omega) = k := by
        have := List.getElem?_eq_getElem (l := ks) (i := i) (by omega)
        rw [this] at hk; exact Option.some.inj hk
      simp [e, intOf, hk']
  · intro i k z hk hz
    have hi : i < ks.length := by
      rcases Nat.lt_or_ge i ks.length with g | g
      · exact g
      · rw [List.getElem?_eq_none g] at hk; cases hk
    obtain ⟨z', k', hk', hz', hh⟩ := hcell i hi
    rw [hk] at hk'
    obtain rfl := Option.some.inj hk'
    have : z = z' := by
      rw [List.getElem?_map, ← Array.getElem?_toList] at *
      rw [hz'] at hz
      simpa [intOf] using hz.symm
    subst this
    exact wf_of_has hh

theorem len1 {α : Type} {l : List α} (h : l.length = 1) : ∃ a, l = [a] := by
  match l, h with | [a], _ => exact ⟨a, rfl⟩
theorem len2 {α : Type} {l : List α} (h : l.length = 2) : ∃ a b, l = [a, b] := by
  match l, h with | [a, b], _ => exact ⟨a, b, rfl⟩
theorem len3 {α : Type} {l : List α} (h : l.length = 3) : ∃ a b c, l = [a, b, c] := by
  match l, h with | [a, b, c], _ => exact ⟨a, b, c, rfl⟩
theorem len4 {α : Type} {l : List α} (h : l.length = 4) : ∃ a b c d, l = [a, b, c, d] := by
  match l, h with | [a, b, c, d], _ => exact ⟨a, b, c, d, rfl⟩
theorem len5 {α : Type} {l : List α} (h : l.length = 5) : ∃ a b c d e, l = [a, b, c, d, e] := by
  match l, h with | [a, b, c, d, e], _ => exact ⟨a, b, c, d, e, rfl⟩
theorem len6 {α : Type} {l : List α} (h : l.length = 6) : ∃ a b c d e f, l = [a, b, c, d, e, f] := by
  match l, h with | [a, b, c, d, e, f], _ => exact ⟨a, b, c, d, e, f, rfl⟩
theorem len10 {α : Type} {l : List α} (h : l.length = 10) : ∃ a b c d e f g i j k, l = [a, b, c, d, e, f, g, i, j, k] := by
  match l, h with | [a, b, c, d, e, f, g, i, j, k], _ => exact ⟨a, b, c, d, e, f, g, i, j, k, rfl⟩

theorem bd_u8 {a : Int} (h : (Lit.int .u8 a).wf = true) : 0 ≤ a ∧ a < 256 := by
  have : 0 ≤ a ∧ a ≤ 255 := by simpa [Lit.wf, IntKind.min, IntKind.max, IntKind.signed, IntKind.bits] using h
  omega
theorem bd_u32 {a : Int} (h : (Lit.int .u32 a).wf = true) : 0 ≤ a ∧ a < 4294967296 := by
  have : 0 ≤ a ∧ a ≤ 4294967295 := by simpa [Lit.wf, IntKind.min, IntKind.max, IntKind.signed, IntKind.bits] using h
  omega
theorem bd_i32 {a : Int} (h : (Lit.int .i32 a).wf = true) : -2147483648 ≤ a ∧ a ≤ 2147483647 := by
  have : -2147483648 ≤ a ∧ a ≤ 2147483647 := by simpa [Lit.wf, IntKind.min, IntKind.max, IntKind.signed, IntKind.bits] using h
  omega
theorem bd_i64 {a : Int} (h : (Lit.int .i64 a).wf = true) : -9223372036854775808 ≤ a ∧ a ≤ 9223372036854775807 := by
  have : -9223372036854775808 ≤ a ∧ a ≤ 9223372036854775807 := by simpa [Lit.wf, IntKind.min, IntKind.max, IntKind.signed, IntKind.bits] using h
  omega
theorem below_of_draw {w w' : World} (h : ∃ n, w' = w.drewN n) : Below w.heap.size w w' := by
  obtain ⟨n, rfl⟩ := h
  exact below_drewN (Below.refl _ _) n
theorem below_trans {w a b : World} (h : Below w.heap.size w a) (k : Below a.heap.size a b) : Below w.heap.size w b := h.trans (k.mono h.size)
theorem part0 {P : Program} {e : TypeId} (he : P.underlying e = some (.int .i64)) (xs : Array Value) (k : Nat) (v : Value) (h : xs[k]? = some v) (w : World) : (Go.part e xs k).run P w = .ok v w := by
  simp [Go.part, Go.isAgg, run_underlying he, h]
theorem eqA3 {P : Program} {t e : TypeId} {i : TypeInfo} (hu : P.underlying t = some (.array 3 e)) (he : P.underlying e = some (.int .i64)) (hi : P.info? e = some i) (hC : P.cellsOf e = 1) (x y z a b c : Int) (w : World) :
    (Op.equalIn 10000 t (.agg #[.int .i64 x, .int .i64 y, .int .i64 z]) (.agg #[.int .i64 a, .int .i64 b, .int .i64 c])).run P w = .ok (x == a && (y == b && z == c)) w := by
  rw [run_equalIn_array w 9999 _ _ hu hi, hC, show List.range 3 = [0, 1, 2] from rfl]
  have pe : ∀ u v : Int, (Op.equalIn 9999 e (.int .i64 u) (.int .i64 v)).run P w = .ok (u == v) w := fun u v => run_equalIn_int w 9998 e .i64 .i64 u v he
  have p0 := fun (x y z : Int) => part0 he #[.int .i64 x, .int .i64 y, .int .i64 z] (0 * 1) (.int .i64 x) rfl w
  have p1 := fun (x y z : Int) => part0 he #[.int .i64 x, .int .i64 y, .int .i64 z] (1 * 1) (.int .i64 y) rfl w
  have p2 := fun (x y z : Int) => part0 he #[.int .i64 x, .int .i64 y, .int .i64 z] (2 * 1) (.int .i64 z) rfl w
  simp only [Op.eqItems, Sem.run_bind, p0, p1, p2, pe, Result.andThen_ok, Sem.run_ite, Sem.run_pure]
  cases h1 : (x == a) <;> cases h2 : (y == b) <;> cases h3 : (z == c) <;> simp
end Go.Proofs.Ytmifojpmomdmeaa

namespace Go.Proofs.Ytmifojpmomdmeaa
open Go Go.RowKit
set_option linter.unusedVariables false

/-- whether one side of a window is good, and how many come out of it -/
def gdW (n k s p q : Int) : Bool := decide (1 ≤ n ∧ n ≤ 64 ∧ 1 ≤ k ∧ k ≤ 8 ∧ 1 ≤ s ∧ s ≤ 8 ∧ 0 ≤ p ∧ p < k ∧ 0 ≤ q ∧ q < k ∧ k ≤ n + p + q)
def odW (n k s p q : Int) : Int := (n + p + q - k) / s + 1
def inB (n a b : Int) : Bool := decide (a ≤ n ∧ n ≤ b)
def padB (n k : Int) : Bool := decide (0 ≤ n ∧ n ≤ 7 ∧ n < k)
theorem inB_t {n a b : Int} (h : a ≤ n ∧ n ≤ b) : inB n a b = true := decide_eq_true h
theorem inB_f {n a b : Int} (h : ¬ (a ≤ n ∧ n ≤ b)) : inB n a b = false := decide_eq_false h
theorem padB_t {n k : Int} (h : 0 ≤ n ∧ n ≤ 7 ∧ n < k) : padB n k = true := decide_eq_true h
theorem padB_f {n k : Int} (h : ¬ (0 ≤ n ∧ n ≤ 7 ∧ n < k)) : padB n k = false := decide_eq_false h
theorem inB_o {n a b : Int} (h : inB n a b = true) : a ≤ n ∧ n ≤ b := of_decide_eq_true h
theorem padB_o {n k : Int} (h : padB n k = true) : 0 ≤ n ∧ n ≤ 7 ∧ n < k := of_decide_eq_true h
set_option maxHeartbeats 400000 in
theorem within_any (n a b : Int) (w : World) : Calls Try.prog 85 #[.int .i64 n, .int .i64 a, .int .i64 b] w fun e w' => e = .returned (.bool (inB n a b)) ∧ w = w' := by
  by_cases g : a ≤ n
  · have e : inB n a b = decide (n ≤ b) := by unfold inB; rw [decide_eq_decide]; omega
    rw [e]
    have h1 : decide (a ≤ n) = true := by simp; omega
    clear e
    go_enter Try.func85, Try.ntmps85
    go_wp2
    go_ret
    exact ⟨rfl, rfl⟩
  · rw [inB_f (by omega)]
    have h1 : decide (a ≤ n) = false := by simp; omega
    go_enter Try.func85, Try.ntmps85
    go_wp2
    go_ret
    exact ⟨rfl, rfl⟩
set_option maxHeartbeats 400000 in
theorem ispad_any (n k : Int) (w : World) : Calls Try.prog 86 #[.int .i64 n, .int .i64 k] w fun e w' => e = .returned (.bool (padB n k)) ∧ w = w' := by
  cases g : inB n 0 7
  · have e : padB n k = false := padB_f (fun h => by rw [inB_t (by omega)] at g; cases g)
    rw [e]
    have G := Lib.hid g
    clear e g
    go_enter Try.func86, Try.ntmps86
    go_wp2_with fail
    refine (within_any _ _ _ _).mono ?_
    rw [G.out]
    rintro e w1 ⟨rfl, rfl⟩
    go_wp2_with fail
    go_ret
    exact ⟨rfl, rfl⟩
  · have h := inB_o g
    have e : padB n k = decide (n < k) := by unfold padB; rw [decide_eq_decide]; omega
    rw [e]
    have G := Lib.hid g
    clear e g
    go_enter Try.func86, Try.ntmps86
    go_wp2_with fail
    refine (within_any _ _ _ _).mono ?_
    rw [G.out]
    rintro e w1 ⟨rfl, rfl⟩
    go_wp2_with fail
    go_ret
    exact ⟨rfl, rfl⟩
theorem div_bd {x s : Int} (h0 : 0 ≤ x) (h1 : x ≤ 1000) (hs : 1 ≤ s) : 0 ≤ x / s ∧ x / s ≤ 1000 :=
  ⟨Int.ediv_nonneg h0 (by omega), Int.le_trans (Int.ediv_le_self _ h0) h1⟩
def OutP (g : Bool) (a b : Int) (w : World) (e : Ending) (w' : World) : Prop := e = .returned (.tuple #[.agg #[.int .i64 (if g then a else 0), .int .i64 (if g then b else 0)], .bool g]) ∧ Below w.heap.size w w'
theorem out_no {g : Bool} {a b : Int} {w w' : World} (h : g = false) (hb : Below w.heap.size w w') : OutP g a b w (.returned (.tuple #[.agg #[.int .i64 0, .int .i64 0], .bool false])) w' := by subst h; exact ⟨rfl, hb⟩
theorem out_yes {g : Bool} {a b c d : Int} {w w' : World} (h : g = true) (ha : a = c) (hb' : b = d) (hb : Below w.heap.size w w') : OutP g a b w (.returned (.tuple #[.agg #[.int .i64 c, .int .i64 d], .bool true])) w' := by subst h ha hb'; exact ⟨rfl, hb⟩

set_option maxHeartbeats 2000000 in
theorem out_a0 (n0 n1 k0 k1 s0 s1 p0 p1 q0 q1 : Int) (w : World) (h0n : inB n0 1 64 = false) :
    Calls Try.prog 81 #[.agg #[.int .i64 n0, .int .i64 n1], .agg #[.int .i64 k0, .int .i64 k1], .agg #[.int .i64 s0, .int .i64 s1], .agg #[.int .i64 p0, .int .i64 p1, .int .i64 q0, .int .i64 q1]] w (OutP (gdW n0 k0 s0 p0 q0 && gdW n1 k1 s1 p1 q1) (odW n0 k0 s0 p0 q0) (odW n1 k1 s1 p1 q1) w) := by
  have GG := Lib.hid (show (gdW n0 k0 s0 p0 q0 && gdW n1 k1 s1 p1 q1) = false by rw [show gdW n0 k0 s0 p0 q0 = false from decide_eq_false (fun h => by rw [inB_t (by omega)] at h0n; cases h0n)]; simp)
  go_enter Try.func81, Try.ntmps81
  go_wp2_with fail
  refine wp_loop_rounds 3 ?_
  rw [rounds_succ]
  go_wp2_with fail
  go_quiet (fail)
  go_wp2_with (first | (go_at_call 85; refine (within_any _ _ _ _).mono ?_; rintro e w' ⟨rfl, rfl⟩) | (go_at_call 86; refine (ispad_any _ _ _).mono ?_; rintro e w' ⟨rfl, rfl⟩))
  exact bodyPost_ret (v := .tuple #[.agg #[.int .i64 0, .int .i64 0], .bool false]) (by simp [results, Try.results81, go_sem]) rfl (out_no GG.out (by repeat' (first | (with_reducible refine below_drewN ?_ _) | (with_reducible refine Below.setCell ?_ ?_ _) | (with_reducible refine Below.alloc ?_ ?_ _) | (with_reducible exact Below.refl _ _) | go_size)))
set_option maxHeartbeats 2000000 in
theorem out_a1 (n0 n1 k0 k1 s0 s1 p0 p1 q0 q1 : Int) (w : World) (h0n : inB n0 1 64 = true) (h0k : inB k0 1 8 = false) :
    Calls Try.prog 81 #[.agg #[.int .i64 n0, .int .i64 n1], .agg #[.int .i64 k0, .int .i64 k1], .agg #[.int .i64 s0, .int .i64 s1], .agg #[.int .i64 p0, .int .i64 p1, .int .i64 q0, .int .i64 q1]] w (OutP (gdW n0 k0 s0 p0 q0 && gdW n1 k1 s1 p1 q1) (odW n0 k0 s0 p0 q0) (odW n1 k1 s1 p1 q1) w) := by
  have f0n := inB_o h0n
  have GG := Lib.hid (show (gdW n0 k0 s0 p0 q0 && gdW n1 k1 s1 p1 q1) = false by rw [show gdW n0 k0 s0 p0 q0 = false from decide_eq_false (fun h => by rw [inB_t (by omega)] at h0k; cases h0k)]; simp)
  go_enter Try.func81, Try.ntmps81
  go_wp2_with fail
  refine wp_loop_rounds 3 ?_
  rw [rounds_succ]
  go_wp2_with fail
  go_quiet (fail)
  go_wp2_with (first | (go_at_call 85; refine (within_any _ _ _ _).mono ?_; rintro e w' ⟨rfl, rfl⟩) | (go_at_call 86; refine (ispad_any _ _ _).mono ?_; rintro e w' ⟨rfl, rfl⟩))
  exact bodyPost_ret (v := .tuple #[.agg #[.int .i64 0, .int .i64 0], .bool false]) (by simp [results, Try.results81, go_sem]) rfl (out_no GG.out (by repeat' (first | (with_reducible refine below_drewN ?_ _) | (with_reducible refine Below.setCell ?_ ?_ _) | (with_reducible refine Below.alloc ?_ ?_ _) | (with_reducible exact Below.refl _ _) | go_size)))
set_option maxHeartbeats 2000000 in
theorem out_a2 (n0 n1 k0 k1 s0 s1 p0 p1 q0 q1 : Int) (w : World) (h0n : inB n0 1 64 = true) (h0k : inB k0 1 8 = true) (h0s : inB s0 1 8 = false) :
    Calls Try.prog 81 #[.agg #[.int .i64 n0, .int .i64 n1], .agg #[.int .i64 k0, .int .i64 k1], .agg #[.int .i64 s0, .int .i64 s1], .agg #[.int .i64 p0, .int .i64 p1, .int .i64 q0, .int .i64 q1]] w (OutP (gdW n0 k0 s0 p0 q0 && gdW n1 k1 s1 p1 q1) (odW n0 k0 s0 p0 q0) (odW n1 k1 s1 p1 q1) w) := by
  have f0n := inB_o h0n
  have f0k := inB_o h0k
  have GG := Lib.hid (show (gdW n0 k0 s0 p0 q0 && gdW n1 k1 s1 p1 q1) = false by rw [show gdW n0 k0 s0 p0 q0 = false from decide_eq_false (fun h => by rw [inB_t (by omega)] at h0s; cases h0s)]; simp)
  go_enter Try.func81, Try.ntmps81
  go_wp2_with fail
  refine wp_loop_rounds 3 ?_
  rw [rounds_succ]
  go_wp2_with fail
  go_quiet (fail)
  go_wp2_with (first | (go_at_call 85; refine (within_any _ _ _ _).mono ?_; rintro e w' ⟨rfl, rfl⟩) | (go_at_call 86; refine (ispad_any _ _ _).mono ?_; rintro e w' ⟨rfl, rfl⟩))
  exact bodyPost_ret (v := .tuple #[.agg #[.int .i64 0, .int .i64 0], .bool false]) (by simp [results, Try.results81, go_sem]) rfl (out_no GG.out (by repeat' (first | (with_reducible refine below_drewN ?_ _) | (with_reducible refine Below.setCell ?_ ?_ _) | (with_reducible refine Below.alloc ?_ ?_ _) | (with_reducible exact Below.refl _ _) | go_size)))
set_option maxHeartbeats 2000000 in
theorem out_a3 (n0 n1 k0 k1 s0 s1 p0 p1 q0 q1 : Int) (w : World) (h0n : inB n0 1 64 = true) (h0k : inB k0 1 8 = true) (h0s : inB s0 1 8 = true) (h0p : padB p0 k0 = false) :
    Calls Try.prog 81 #[.agg #[.int .i64 n0, .int .i64 n1], .agg #[.int .i64 k0, .int .i64 k1], .agg #[.int .i64 s0, .int .i64 s1], .agg #[.int .i64 p0, .int .i64 p1, .int .i64 q0, .int .i64 q1]] w (OutP (gdW n0 k0 s0 p0 q0 && gdW n1 k1 s1 p1 q1) (odW n0 k0 s0 p0 q0) (odW n1 k1 s1 p1 q1) w) := by
  have f0n := inB_o h0n
  have f0k := inB_o h0k
  have f0s := inB_o h0s
  have GG := Lib.hid (show (gdW n0 k0 s0 p0 q0 && gdW n1 k1 s1 p1 q1) = false by rw [show gdW n0 k0 s0 p0 q0 = false from decide_eq_false (fun h => by rw [padB_t (by omega)] at h0p; cases h0p)]; simp)
  go_enter Try.func81, Try.ntmps81
  go_wp2_with fail
  refine wp_loop_rounds 3 ?_
  rw [rounds_succ]
  go_wp2_with fail
  go_quiet (fail)
  go_wp2_with (first | (go_at_call 85; refine (within_any _ _ _ _).mono ?_; rintro e w' ⟨rfl, rfl⟩) | (go_at_call 86; refine (ispad_any _ _ _).mono ?_; rintro e w' ⟨rfl, rfl⟩))
  exact bodyPost_ret (v := .tuple #[.agg #[.int .i64 0, .int .i64 0], .bool false]) (by simp [results, Try.results81, go_sem]) rfl (out_no GG.out (by repeat' (first | (with_reducible refine below_drewN ?_ _) | (with_reducible refine Below.setCell ?_ ?_ _) | (with_reducible refine Below.alloc ?_ ?_ _) | (with_reducible exact Below.refl _ _) | go_size)))
set_option maxHeartbeats 2000000 in
theorem out_a4 (n0 n1 k0 k1 s0 s1 p0 p1 q0 q1 : Int) (w : World) (h0n : inB n0 1 64 = true) (h0k : inB k0 1 8 = true) (h0s : inB s0 1 8 = true) (h0p : padB p0 k0 = true) (h0q : padB q0 k0 = false) :
    Calls Try.prog 81 #[.agg #[.int .i64 n0, .int .i64 n1], .agg #[.int .i64 k0, .int .i64 k1], .agg #[.int .i64 s0, .int .i64 s1], .agg #[.int .i64 p0, .int .i64 p1, .int .i64 q0, .int .i64 q1]] w (OutP (gdW n0 k0 s0 p0 q0 && gdW n1 k1 s1 p1 q1) (odW n0 k0 s0 p0 q0) (odW n1 k1 s1 p1 q1) w) := by
  have f0n := inB_o h0n
  have f0k := inB_o h0k
  have f0s := inB_o h0s
  have f0p := padB_o h0p
  have GG := Lib.hid (show (gdW n0 k0 s0 p0 q0 && gdW n1 k1 s1 p1 q1) = false by rw [show gdW n0 k0 s0 p0 q0 = false from decide_eq_false (fun h => by rw [padB_t (by omega)] at h0q; cases h0q)]; simp)
  go_enter Try.func81, Try.ntmps81
  go_wp2_with fail
  refine wp_loop_rounds 3 ?_
  rw [rounds_succ]
  go_wp2_with fail
  go_quiet (fail)
  go_wp2_with (first | (go_at_call 85; refine (within_any _ _ _ _).mono ?_; rintro e w' ⟨rfl, rfl⟩) | (go_at_call 86; refine (ispad_any _ _ _).mono ?_; rintro e w' ⟨rfl, rfl⟩))
  exact bodyPost_ret (v := .tuple #[.agg #[.int .i64 0, .int .i64 0], .bool false]) (by simp [results, Try.results81, go_sem]) rfl (out_no GG.out (by repeat' (first | (with_reducible refine below_drewN ?_ _) | (with_reducible refine Below.setCell ?_ ?_ _) | (with_reducible refine Below.alloc ?_ ?_ _) | (with_reducible exact Below.refl _ _) | go_size)))
set_option maxHeartbeats 2000000 in
theorem out_a5 (n0 n1 k0 k1 s0 s1 p0 p1 q0 q1 : Int) (w : World) (h0n : inB n0 1 64 = true) (h0k : inB k0 1 8 = true) (h0s : inB s0 1 8 = true) (h0p : padB p0 k0 = true) (h0q : padB q0 k0 = true) (h0r : n0 + p0 + q0 - k0 < 0) :
    Calls Try.prog 81 #[.agg #[.int .i64 n0, .int .i64 n1], .agg #[.int .i64 k0, .int .i64 k1], .agg #[.int .i64 s0, .int .i64 s1], .agg #[.int .i64 p0, .int .i64 p1, .int .i64 q0, .int .i64 q1]] w (OutP (gdW n0 k0 s0 p0 q0 && gdW n1 k1 s1 p1 q1) (odW n0 k0 s0 p0 q0) (odW n1 k1 s1 p1 q1) w) := by
  have f0n := inB_o h0n
  have f0k := inB_o h0k
  have f0s := inB_o h0s
  have f0p := padB_o h0p
  have f0q := padB_o h0q
  have GG := Lib.hid (show (gdW n0 k0 s0 p0 q0 && gdW n1 k1 s1 p1 q1) = false by rw [show gdW n0 k0 s0 p0 q0 = false from decide_eq_false (fun h => by omega)]; simp)
  go_enter Try.func81, Try.ntmps81
  go_wp2_with fail
  refine wp_loop_rounds 3 ?_
  rw [rounds_succ]
  go_wp2_with fail
  go_quiet (fail)
  go_wp2_with (first | (go_at_call 85; refine (within_any _ _ _ _).mono ?_; rintro e w' ⟨rfl, rfl⟩) | (go_at_call 86; refine (ispad_any _ _ _).mono ?_; rintro e w' ⟨rfl, rfl⟩))
  go_quiet (fail)
  go_wp2_with fail
  exact bodyPost_ret (v := .tuple #[.agg #[.int .i64 0, .int .i64 0], .bool false]) (by simp [results, Try.results81, go_sem]) rfl (out_no GG.out (by repeat' (first | (with_reducible refine below_drewN ?_ _) | (with_reducible refine Below.setCell ?_ ?_ _) | (with_reducible refine Below.alloc ?_ ?_ _) | (with_reducible exact Below.refl _ _) | go_size)))
set_option maxHeartbeats 2000000 in
theorem out_b0 (n0 n1 k0 k1 s0 s1 p0 p1 q0 q1 : Int) (w : World) (h0n : inB n0 1 64 = true) (h0k : inB k0 1 8 = true) (h0s : inB s0 1 8 = true) (h0p : padB p0 k0 = true) (h0q : padB q0 k0 = true) (h0r : 0 ≤ n0 + p0 + q0 - k0) (h1n : inB n1 1 64 = false) :
    Calls Try.prog 81 #[.agg #[.int .i64 n0, .int .i64 n1], .agg #[.int .i64 k0, .int .i64 k1], .agg #[.int .i64 s0, .int .i64 s1], .agg #[.int .i64 p0, .int .i64 p1, .int .i64 q0, .int .i64 q1]] w (OutP (gdW n0 k0 s0 p0 q0 && gdW n1 k1 s1 p1 q1) (odW n0 k0 s0 p0 q0) (odW n1 k1 s1 p1 q1) w) := by
  have f0n := inB_o h0n
  have f0k := inB_o h0k
  have f0s := inB_o h0s
  have f0p := padB_o h0p
  have f0q := padB_o h0q
  have GG := Lib.hid (show (gdW n0 k0 s0 p0 q0 && gdW n1 k1 s1 p1 q1) = false by rw [show gdW n1 k1 s1 p1 q1 = false from decide_eq_false (fun h => by rw [inB_t (by omega)] at h1n; cases h1n)]; simp)
  have d0 := div_bd (x := n0 + p0 + q0 - k0) (s := s0) h0r (by omega) (by omega)
  go_enter Try.func81, Try.ntmps81
  go_wp2_with fail
  refine wp_loop_rounds 3 ?_
  rw [rounds_succ]
  go_wp2_with fail
  go_quiet (fail)
  go_wp2_with (first | (go_at_call 85; refine (within_any _ _ _ _).mono ?_; rintro e w' ⟨rfl, rfl⟩) | (go_at_call 86; refine (ispad_any _ _ _).mono ?_; rintro e w' ⟨rfl, rfl⟩))
  go_quiet (fail)
  go_wp2_with fail
  rw [rounds_succ]
  go_wp2_with fail
  go_quiet (fail)
  go_wp2_with (first | (go_at_call 85; refine (within_any _ _ _ _).mono ?_; rintro e w' ⟨rfl, rfl⟩) | (go_at_call 86; refine (ispad_any _ _ _).mono ?_; rintro e w' ⟨rfl, rfl⟩))
  exact bodyPost_ret (v := .tuple #[.agg #[.int .i64 0, .int .i64 0], .bool false]) (by simp [results, Try.results81, go_sem]) rfl (out_no GG.out (by repeat' (first | (with_reducible refine below_drewN ?_ _) | (with_reducible refine Below.setCell ?_ ?_ _) | (with_reducible refine Below.alloc ?_ ?_ _) | (with_reducible exact Below.refl _ _) | go_size)))
set_option maxHeartbeats 2000000 in
theorem out_b1 (n0 n1 k0 k1 s0 s1 p0 p1 q0 q1 : Int) (w : World) (h0n : inB n0 1 64 = true) (h0k : inB k0 1 8 = true) (h0s : inB s0 1 8 = true) (h0p : padB p0 k0 = true) (h0q : padB q0 k0 = true) (h0r : 0 ≤ n0 + p0 + q0 - k0) (h1n : inB n1 1 64 = true) (h1k : inB k1 1 8 = false) :
    Calls Try.prog 81 #[.agg #[.int .i64 n0, .int .i64 n1], .agg #[.int .i64 k0, .int .i64 k1], .agg #[.int .i64 s0, .int .i64 s1], .agg #[.int .i64 p0, .int .i64 p1, .int .i64 q0, .int .i64 q1]] w (OutP (gdW n0 k0 s0 p0 q0 && gdW n1 k1 s1 p1 q1) (odW n0 k0 s0 p0 q0) (odW n1 k1 s1 p1 q1) w) := by
  have f0n := inB_o h0n
  have f0k := inB_o h0k
  have f0s := inB_o h0s
  have f0p := padB_o h0p
  have f0q := padB_o h0q
  have f1n := inB_o h1n
  have GG := Lib.hid (show (gdW n0 k0 s0 p0 q0 && gdW n1 k1 s1 p1 q1) = false by rw [show gdW n1 k1 s1 p1 q1 = false from decide_eq_false (fun h => by rw [inB_t (by omega)] at h1k; cases h1k)]; simp)
  have d0 := div_bd (x := n0 + p0 + q0 - k0) (s := s0) h0r (by omega) (by omega)
  go_enter Try.func81, Try.ntmps81
  go_wp2_with fail
  refine wp_loop_rounds 3 ?_
  rw [rounds_succ]
  go_wp2_with fail
  go_quiet (fail)
  go_wp2_with (first | (go_at_call 85; refine (within_any _ _ _ _).mono ?_; rintro e w' ⟨rfl, rfl⟩) | (go_at_call 86; refine (ispad_any _ _ _).mono ?_; rintro e w' ⟨rfl, rfl⟩))
  go_quiet (fail)
  go_wp2_with fail
  rw [rounds_succ]
  go_wp2_with fail
  go_quiet (fail)
  go_wp2_with (first | (go_at_call 85; refine (within_any _ _ _ _).mono ?_; rintro e w' ⟨rfl, rfl⟩) | (go_at_call 86; refine (ispad_any _ _ _).mono ?_; rintro e w' ⟨rfl, rfl⟩))
  exact bodyPost_ret (v := .tuple #[.agg #[.int .i64 0, .int .i64 0], .bool false]) (by simp [results, Try.results81, go_sem]) rfl (out_no GG.out (by repeat' (first | (with_reducible refine below_drewN ?_ _) | (with_reducible refine Below.setCell ?_ ?_ _) | (with_reducible refine Below.alloc ?_ ?_ _) | (with_reducible exact Below.refl _ _) | go_size)))
set_option maxHeartbeats 2000000 in
theorem out_b2 (n0 n1 k0 k1 s0 s1 p0 p1 q0 q1 : Int) (w : World) (h0n : inB n0 1 64 = true) (h0k : inB k0 1 8 = true) (h0s : inB s0 1 8 = true) (h0p : padB p0 k0 = true) (h0q : padB q0 k0 = true) (h0r : 0 ≤ n0 + p0 + q0 - k0) (h1n : inB n1 1 64 = true) (h1k : inB k1 1 8 = true) (h1s : inB s1 1 8 = false) :
    Calls Try.prog 81 #[.agg #[.int .i64 n0, .int .i64 n1], .agg #[.int .i64 k0, .int .i64 k1], .agg #[.int .i64 s0, .int .i64 s1], .agg #[.int .i64 p0, .int .i64 p1, .int .i64 q0, .int .i64 q1]] w (OutP (gdW n0 k0 s0 p0 q0 && gdW n1 k1 s1 p1 q1) (odW n0 k0 s0 p0 q0) (odW n1 k1 s1 p1 q1) w) := by
  have f0n := inB_o h0n
  have f0k := inB_o h0k
  have f0s := inB_o h0s
  have f0p := padB_o h0p
  have f0q := padB_o h0q
  have f1n := inB_o h1n
  have f1k := inB_o h1k
  have GG := Lib.hid (show (gdW n0 k0 s0 p0 q0 && gdW n1 k1 s1 p1 q1) = false by rw [show gdW n1 k1 s1 p1 q1 = false from decide_eq_false (fun h => by rw [inB_t (by omega)] at h1s; cases h1s)]; simp)
  have d0 := div_bd (x := n0 + p0 + q0 - k0) (s := s0) h0r (by omega) (by omega)
  go_enter Try.func81, Try.ntmps81
  go_wp2_with fail
  refine wp_loop_rounds 3 ?_
  rw [rounds_succ]
  go_wp2_with fail
  go_quiet (fail)
  go_wp2_with (first | (go_at_call 85; refine (within_any _ _ _ _).mono ?_; rintro e w' ⟨rfl, rfl⟩) | (go_at_call 86; refine (ispad_any _ _ _).mono ?_; rintro e w' ⟨rfl, rfl⟩))
  go_quiet (fail)
  go_wp2_with fail
  rw [rounds_succ]
  go_wp2_with fail
  go_quiet (fail)
  go_wp2_with (first | (go_at_call 85; refine (within_any _ _ _ _).mono ?_; rintro e w' ⟨rfl, rfl⟩) | (go_at_call 86; refine (ispad_any _ _ _).mono ?_; rintro e w' ⟨rfl, rfl⟩))
  exact bodyPost_ret (v := .tuple #[.agg #[.int .i64 0, .int .i64 0], .bool false]) (by simp [results, Try.results81, go_sem]) rfl (out_no GG.out (by repeat' (first | (with_reducible refine below_drewN ?_ _) | (with_reducible refine Below.setCell ?_ ?_ _) | (with_reducible refine Below.alloc ?_ ?_ _) | (with_reducible exact Below.refl _ _) | go_size)))
set_option maxHeartbeats 2000000 in
theorem out_b3 (n0 n1 k0 k1 s0 s1 p0 p1 q0 q1 : Int) (w : World) (h0n : inB n0 1 64 = true) (h0k : inB k0 1 8 = true) (h0s : inB s0 1 8 = true) (h0p : padB p0 k0 = true) (h0q : padB q0 k0 = true) (h0r : 0 ≤ n0 + p0 + q0 - k0) (h1n : inB n1 1 64 = true) (h1k : inB k1 1 8 = true) (h1s : inB s1 1 8 = true) (h1p : padB p1 k1 = false) :
    Calls Try.prog 81 #[.agg #[.int .i64 n0, .int .i64 n1], .agg #[.int .i64 k0, .int .i64 k1], .agg #[.int .i64 s0, .int .i64 s1], .agg #[.int .i64 p0, .int .i64 p1, .int .i64 q0, .int .i64 q1]] w (OutP (gdW n0 k0 s0 p0 q0 && gdW n1 k1 s1 p1 q1) (odW n0 k0 s0 p0 q0) (odW n1 k1 s1 p1 q1) w) := by
  have f0n := inB_o h0n
  have f0k := inB_o h0k
  have f0s := inB_o h0s
  have f0p := padB_o h0p
  have f0q := padB_o h0q
  have f1n := inB_o h1n
  have f1k := inB_o h1k
  have f1s := inB_o h1s
  have GG := Lib.hid (show (gdW n0 k0 s0 p0 q0 && gdW n1 k1 s1 p1 q1) = false by rw [show gdW n1 k1 s1 p1 q1 = false from decide_eq_false (fun h => by rw [padB_t (by omega)] at h1p; cases h1p)]; simp)
  have d0 := div_bd (x := n0 + p0 + q0 - k0) (s := s0) h0r (by omega) (by omega)
  go_enter Try.func81, Try.ntmps81
  go_wp2_with fail
  refine wp_loop_rounds 3 ?_
  rw [rounds_succ]
  go_wp2_with fail
  go_quiet (fail)
  go_wp2_with (first | (go_at_call 85; refine (within_any _ _ _ _).mono ?_; rintro e w' ⟨rfl, rfl⟩) | (go_at_call 86; refine (ispad_any _ _ _).mono ?_; rintro e w' ⟨rfl, rfl⟩))
  go_quiet (fail)
  go_wp2_with fail
  rw [rounds_succ]
  go_wp2_with fail
  go_quiet (fail)
  go_wp2_with (first | (go_at_call 85; refine (within_any _ _ _ _).mono ?_; rintro e w' ⟨rfl, rfl⟩) | (go_at_call 86; refine (ispad_any _ _ _).mono ?_; rintro e w' ⟨rfl, rfl⟩))
  exact bodyPost_ret (v := .tuple #[.agg #[.int .i64 0, .int .i64 0], .bool false]) (by simp [results, Try.results81, go_sem]) rfl (out_no GG.out (by repeat' (first | (with_reducible refine below_drewN ?_ _) | (with_reducible refine Below.setCell ?_ ?_ _) | (with_reducible refine Below.alloc ?_ ?_ _) | (with_reducible exact Below.refl _ _) | go_size)))
set_option maxHeartbeats 2000000 in
theorem out_b4 (n0 n1 k0 k1 s0 s1 p0 p1 q0 q1 : Int) (w : World) (h0n : inB n0 1 64 = true) (h0k : inB k0 1 8 = true) (h0s : inB s0 1 8 = true) (h0p : padB p0 k0 = true) (h0q : padB q0 k0 = true) (h0r : 0 ≤ n0 + p0 + q0 - k0) (h1n : inB n1 1 64 = true) (h1k : inB k1 1 8 = true) (h1s : inB s1 1 8 = true) (h1p : padB p1 k1 = true) (h1q : padB q1 k1 = false) :
    Calls Try.prog 81 #[.agg #[.int .i64 n0, .int .i64 n1], .agg #[.int .i64 k0, .int .i64 k1], .agg #[.int .i64 s0, .int .i64 s1], .agg #[.int .i64 p0, .int .i64 p1, .int .i64 q0, .int .i64 q1]] w (OutP (gdW n0 k0 s0 p0 q0 && gdW n1 k1 s1 p1 q1) (odW n0 k0 s0 p0 q0) (odW n1 k1 s1 p1 q1) w) := by
  have f0n := inB_o h0n
  have f0k := inB_o h0k
  have f0s := inB_o h0s
  have f0p := padB_o h0p
  have f0q := padB_o h0q
  have f1n := inB_o h1n
  have f1k := inB_o h1k
  have f1s := inB_o h1s
  have f1p := padB_o h1p
  have GG := Lib.hid (show (gdW n0 k0 s0 p0 q0 && gdW n1 k1 s1 p1 q1) = false by rw [show gdW n1 k1 s1 p1 q1 = false from decide_eq_false (fun h => by rw [padB_t (by omega)] at h1q; cases h1q)]; simp)
  have d0 := div_bd (x := n0 + p0 + q0 - k0) (s := s0) h0r (by omega) (by omega)
  go_enter Try.func81, Try.ntmps81
  go_wp2_with fail
  refine wp_loop_rounds 3 ?_
  rw [rounds_succ]
  go_wp2_with fail
  go_quiet (fail)
  go_wp2_with (first | (go_at_call 85; refine (within_any _ _ _ _).mono ?_; rintro e w' ⟨rfl, rfl⟩) | (go_at_call 86; refine (ispad_any _ _ _).mono ?_; rintro e w' ⟨rfl, rfl⟩))
  go_quiet (fail)
  go_wp2_with fail
  rw [rounds_succ]
  go_wp2_with fail
  go_quiet (fail)
  go_wp2_with (first | (go_at_call 85; refine (within_any _ _ _ _).mono ?_; rintro e w' ⟨rfl, rfl⟩) | (go_at_call 86; refine (ispad_any _ _ _).mono ?_; rintro e w' ⟨rfl, rfl⟩))
  exact bodyPost_ret (v := .tuple #[.agg #[.int .i64 0, .int .i64 0], .bool false]) (by simp [results, Try.results81, go_sem]) rfl (out_no GG.out (by repeat' (first | (with_reducible refine below_drewN ?_ _) | (with_reducible refine Below.setCell ?_ ?_ _) | (with_reducible refine Below.alloc ?_ ?_ _) | (with_reducible exact Below.refl _ _) | go_size)))
set_option maxHeartbeats 2000000 in
theorem out_b5 (n0 n1 k0 k1 s0 s1 p0 p1 q0 q1 : Int) (w : World) (h0n : inB n0 1 64 = true) (h0k : inB k0 1 8 = true) (h0s : inB s0 1 8 = true) (h0p : padB p0 k0 = true) (h0q : padB q0 k0 = true) (h0r : 0 ≤ n0 + p0 + q0 - k0) (h1n : inB n1 1 64 = true) (h1k : inB k1 1 8 = true) (h1s : inB s1 1 8 = true) (h1p : padB p1 k1 = true) (h1q : padB q1 k1 = true) (h1r : n1 + p1 + q1 - k1 < 0) :
    Calls Try.prog 81 #[.agg #[.int .i64 n0, .int .i64 n1], .agg #[.int .i64 k0, .int .i64 k1], .agg #[.int .i64 s0, .int .i64 s1], .agg #[.int .i64 p0, .int .i64 p1, .int .i64 q0, .int .i64 q1]] w (OutP (gdW n0 k0 s0 p0 q0 && gdW n1 k1 s1 p1 q1) (odW n0 k0 s0 p0 q0) (odW n1 k1 s1 p1 q1) w) := by
  have f0n := inB_o h0n
  have f0k := inB_o h0k
  have f0s := inB_o h0s
  have f0p := padB_o h0p
  have f0q := padB_o h0q
  have f1n := inB_o h1n
  have f1k := inB_o h1k
  have f1s := inB_o h1s
  have f1p := padB_o h1p
  have f1q := padB_o h1q
  have GG := Lib.hid (show (gdW n0 k0 s0 p0 q0 && gdW n1 k1 s1 p1 q1) = false by rw [show gdW n1 k1 s1 p1 q1 = false from decide_eq_false (fun h => by omega)]; simp)
  have d0 := div_bd (x := n0 + p0 + q0 - k0) (s := s0) h0r (by omega) (by omega)
  go_enter Try.func81, Try.ntmps81
  go_wp2_with fail
  refine wp_loop_rounds 3 ?_
  rw [rounds_succ]
  go_wp2_with fail
  go_quiet (fail)
  go_wp2_with (first | (go_at_call 85; refine (within_any _ _ _ _).mono ?_; rintro e w' ⟨rfl, rfl⟩) | (go_at_call 86; refine (ispad_any _ _ _).mono ?_; rintro e w' ⟨rfl, rfl⟩))
  go_quiet (fail)
  go_wp2_with fail
  rw [rounds_succ]
  go_wp2_with fail
  go_quiet (fail)
  go_wp2_with (first | (go_at_call 85; refine (within_any _ _ _ _).mono ?_; rintro e w' ⟨rfl, rfl⟩) | (go_at_call 86; refine (ispad_any _ _ _).mono ?_; rintro e w' ⟨rfl, rfl⟩))
  go_quiet (fail)
  go_wp2_with fail
  exact bodyPost_ret (v := .tuple #[.agg #[.int .i64 0, .int .i64 0], .bool false]) (by simp [results, Try.results81, go_sem]) rfl (out_no GG.out (by repeat' (first | (with_reducible refine below_drewN ?_ _) | (with_reducible refine Below.setCell ?_ ?_ _) | (with_reducible refine Below.alloc ?_ ?_ _) | (with_reducible exact Below.refl _ _) | go_size)))
set_option maxHeartbeats 2000000 in
theorem out_y (n0 n1 k0 k1 s0 s1 p0 p1 q0 q1 : Int) (w : World) (h0n : inB n0 1 64 = true) (h0k : inB k0 1 8 = true) (h0s : inB s0 1 8 = true) (h0p : padB p0 k0 = true) (h0q : padB q0 k0 = true) (h0r : 0 ≤ n0 + p0 + q0 - k0) (h1n : inB n1 1 64 = true) (h1k : inB k1 1 8 = true) (h1s : inB s1 1 8 = true) (h1p : padB p1 k1 = true) (h1q : padB q1 k1 = true) (h1r : 0 ≤ n1 + p1 + q1 - k1) :
    Calls Try.prog 81 #[.agg #[.int .i64 n0, .int .i64 n1], .agg #[.int .i64 k0, .int .i64 k1], .agg #[.int .i64 s0, .int .i64 s1], .agg #[.int .i64 p0, .int .i64 p1, .int .i64 q0, .int .i64 q1]] w (OutP (gdW n0 k0 s0 p0 q0 && gdW n1 k1 s1 p1 q1) (odW n0 k0 s0 p0 q0) (odW n1 k1 s1 p1 q1) w) := by
  have f0n := inB_o h0n
  have f0k := inB_o h0k
  have f0s := inB_o h0s
  have f0p := padB_o h0p
  have f0q := padB_o h0q
  have f1n := inB_o h1n
  have f1k := inB_o h1k
  have f1s := inB_o h1s
  have f1p := padB_o h1p
  have f1q := padB_o h1q
  have GG := Lib.hid (show (gdW n0 k0 s0 p0 q0 && gdW n1 k1 s1 p1 q1) = true by rw [Bool.and_eq_true]; exact ⟨decide_eq_true (by omega), decide_eq_true (by omega)⟩)
  have d0 := div_bd (x := n0 + p0 + q0 - k0) (s := s0) h0r (by omega) (by omega)
  have d1 := div_bd (x := n1 + p1 + q1 - k1) (s := s1) h1r (by omega) (by omega)
  go_enter Try.func81, Try.ntmps81
  go_wp2_with fail
  refine wp_loop_rounds 3 ?_
  rw [rounds_succ]
  go_wp2_with fail
  go_quiet (fail)
  go_wp2_with (first | (go_at_call 85; refine (within_any _ _ _ _).mono ?_; rintro e w' ⟨rfl, rfl⟩) | (go_at_call 86; refine (ispad_any _ _ _).mono ?_; rintro e w' ⟨rfl, rfl⟩))
  go_quiet (fail)
  go_wp2_with fail
  rw [rounds_succ]
  go_wp2_with fail
  go_quiet (fail)
  go_wp2_with (first | (go_at_call 85; refine (within_any _ _ _ _).mono ?_; rintro e w' ⟨rfl, rfl⟩) | (go_at_call 86; refine (ispad_any _ _ _).mono ?_; rintro e w' ⟨rfl, rfl⟩))
  go_quiet (fail)
  go_wp2_with fail
  rw [rounds_succ]
  go_wp2_with fail
  exact bodyPost_ret (v := .tuple #[.agg #[.int .i64 ((n0 + p0 + q0 - k0) / s0 + 1), .int .i64 ((n1 + p1 + q1 - k1) / s1 + 1)], .bool true]) (by simp [results, Try.results81, go_sem]) rfl (out_yes GG.out rfl rfl (by repeat' (first | (with_reducible refine below_drewN ?_ _) | (with_reducible refine Below.setCell ?_ ?_ _) | (with_reducible refine Below.alloc ?_ ?_ _) | (with_reducible exact Below.refl _ _) | go_size)))
end Go.Proofs.Ytmifojpmomdmeaa

namespace Go.Proofs.Ytmifojpmomdmeaa
open Go Go.RowKit
set_option linter.unusedVariables false

theorem gdW_o {n k s p q : Int} (h : gdW n k s p q = true) : 1 ≤ n ∧ n ≤ 64 ∧ 1 ≤ k ∧ k ≤ 8 ∧ 1 ≤ s ∧ s ≤ 8 ∧ 0 ≤ p ∧ p < k ∧ 0 ≤ q ∧ q < k ∧ k ≤ n + p + q := of_decide_eq_true h

end Go.Proofs.Ytmifojpmomdmeaa

namespace Go.Proofs.Ytmifojpmomdmeaa
open Go Go.RowKit
set_option linter.unusedVariables false

theorem od_lt {n k s p q : Int} (hs : 1 ≤ s) (x : Int) : x * s + k ≤ n + p + q ↔ x < odW n k s p q := by
  unfold odW
  have h := Int.le_ediv_iff_mul_le (a := x) (b := n + p + q - k) (c := s) (by omega)
  constructor
  · intro g
    have := h.2 (by omega)
    omega
  · intro g
    have := h.1 (by omega)
    omega
theorem od_bd {n k s p q : Int} (h : gdW n k s p q = true) : 1 ≤ odW n k s p q ∧ odW n k s p q ≤ 1001 := by
  have g := gdW_o h
  unfold odW
  have := div_bd (x := n + p + q - k) (s := s) (by omega) (by omega) (by omega)
  omega
theorem mul_bdW {x s : Int} (h0 : 0 ≤ x) (h1 : x ≤ 1001) (g0 : 1 ≤ s) (g1 : s ≤ 8) : 0 ≤ x * s ∧ x * s ≤ 8008 := by
  refine ⟨Int.mul_nonneg h0 (by omega), ?_⟩
  have := Int.mul_le_mul h1 g1 (by omega) (by omega)
  omega
/-- the four arrays and the result's block -/
structure InW (B : Nat) (n0 n1 k0 k1 s0 s1 p0 p1 q0 q1 : Int) (w : World) : Prop where
  n0 : w.cell? ⟨B, 0, none⟩ = some (.int .i64 n0)
  n1 : w.cell? ⟨B, 1, none⟩ = some (.int .i64 n1)
  k0 : w.cell? ⟨B + 1, 0, none⟩ = some (.int .i64 k0)
  k1 : w.cell? ⟨B + 1, 1, none⟩ = some (.int .i64 k1)
  s0 : w.cell? ⟨B + 1 + 1, 0, none⟩ = some (.int .i64 s0)
  s1 : w.cell? ⟨B + 1 + 1, 1, none⟩ = some (.int .i64 s1)
  p0 : w.cell? ⟨B + 1 + 1 + 1, 0, none⟩ = some (.int .i64 p0)
  p1 : w.cell? ⟨B + 1 + 1 + 1, 1, none⟩ = some (.int .i64 p1)
  q0 : w.cell? ⟨B + 1 + 1 + 1, 2, none⟩ = some (.int .i64 q0)
  q1 : w.cell? ⟨B + 1 + 1 + 1, 3, none⟩ = some (.int .i64 q1)
  r : w.heap[B + 1 + 1 + 1 + 1]? = some (.cells #[.int .i64 0, .int .i64 0] 44 (0, 0))
  lt : B + 1 + 1 + 1 + 1 + 1 < w.heap.size
theorem InW.grown {B : Nat} {n0 n1 k0 k1 s0 s1 p0 p1 q0 q1 : Int} {w w' : World} (h : InW B n0 n1 k0 k1 s0 s1 p0 p1 q0 q1 w) (hg : w.grownBy w' (some (B + 1 + 1 + 1 + 1 + 1))) : InW B n0 n1 k0 k1 s0 s1 p0 p1 q0 q1 w' :=
  ⟨hg.cell h.n0 (by first | (simp; done) | (simp; omega)), hg.cell h.n1 (by first | (simp; done) | (simp; omega)), hg.cell h.k0 (by first | (simp; done) | (simp; omega)), hg.cell h.k1 (by first | (simp; done) | (simp; omega)), hg.cell h.s0 (by first | (simp; done) | (simp; omega)), hg.cell h.s1 (by first | (simp; done) | (simp; omega)), hg.cell h.p0 (by first | (simp; done) | (simp; omega)), hg.cell h.p1 (by first | (simp; done) | (simp; omega)), hg.cell h.q0 (by first | (simp; done) | (simp; omega)), hg.cell h.q1 (by first | (simp; done) | (simp; omega)),
    (hg.block _ (by have := h.lt; omega) (by first | (simp; done) | (simp; omega))).trans h.r, Nat.lt_of_lt_of_le h.lt hg.size⟩
def iW (x : Int) : Value := .int .i64 x
theorem own_laterW {w w1 : World} {base n size : Nat} {e : TypeId} {v : Value} {xs : List Value} (h : w.ownsRow base e size v n xs) (hb : Below w.heap.size w w1) : w1.ownsRow base e size v n xs :=
  h.kept (show w.grownBy w1 none from ⟨hb.os, hb.tape, hb.output, hb.size, fun i hi _ => hb.block i hi⟩) (by cases v.ownBlock <;> simp)
theorem grown_drewN (w : World) (n : Nat) (r : Option Nat) : w.grownBy (w.drewN n) r := ⟨rfl, rfl, rfl, Nat.le_refl _, fun _ _ _ => rfl⟩

theorem inW_new (n0 n1 k0 k1 s0 s1 p0 p1 q0 q1 : Int) (w : World) : InW w.heap.size n0 n1 k0 k1 s0 s1 p0 p1 q0 q1 ((((((w.alloc (.cells #[.int .i64 n0, .int .i64 n1] 44)).alloc (.cells #[.int .i64 k0, .int .i64 k1] 44)).alloc (.cells #[.int .i64 s0, .int .i64 s1] 44)).alloc (.cells #[.int .i64 p0, .int .i64 p1, .int .i64 q0, .int .i64 q1] 45)).alloc (.cells #[.int .i64 0, .int .i64 0] 44)).alloc (.cells #[.int .i64 0, .int .i64 0] 44)) := by
  have e4 : ((((w.alloc (.cells #[.int .i64 n0, .int .i64 n1] 44)).alloc (.cells #[.int .i64 k0, .int .i64 k1] 44)).alloc (.cells #[.int .i64 s0, .int .i64 s1] 44)).alloc (.cells #[.int .i64 p0, .int .i64 p1, .int .i64 q0, .int .i64 q1] 45)).heap.size = w.heap.size + 1 + 1 + 1 + 1 := by simp
  refine ⟨?_, ?_, ?_, ?_, ?_, ?_, ?_, ?_, ?_, ?_, ?_, by simp⟩
  case refine_11 =>
    rw [heap_alloc_old _ _ (by simp), ← e4, heap_alloc_new]
  all_goals go_simp
end Go.Proofs.Ytmifojpmomdmeaa

namespace Go.Proofs.Ytmifojpmomdmeaa
open Go Go.RowKit
set_option linter.unusedVariables false

theorem out_any (n0 n1 k0 k1 s0 s1 p0 p1 q0 q1 : Int) (w : World) :
    Calls Try.prog 81 #[.agg #[.int .i64 n0, .int .i64 n1], .agg #[.int .i64 k0, .int .i64 k1], .agg #[.int .i64 s0, .int .i64 s1], .agg #[.int .i64 p0, .int .i64 p1, .int .i64 q0, .int .i64 q1]] w (OutP (gdW n0 k0 s0 p0 q0 && gdW n1 k1 s1 p1 q1) (odW n0 k0 s0 p0 q0) (odW n1 k1 s1 p1 q1) w) := by
  cases h0n : inB n0 1 64
  · exact out_a0 n0 n1 k0 k1 s0 s1 p0 p1 q0 q1 w  h0n
  cases h0k : inB k0 1 8
  · exact out_a1 n0 n1 k0 k1 s0 s1 p0 p1 q0 q1 w h0n h0k
  cases h0s : inB s0 1 8
  · exact out_a2 n0 n1 k0 k1 s0 s1 p0 p1 q0 q1 w h0n h0k h0s
  cases h0p : padB p0 k0
  · exact out_a3 n0 n1 k0 k1 s0 s1 p0 p1 q0 q1 w h0n h0k h0s h0p
  cases h0q : padB q0 k0
  · exact out_a4 n0 n1 k0 k1 s0 s1 p0 p1 q0 q1 w h0n h0k h0s h0p h0q
  by_cases h0r : 0 ≤ n0 + p0 + q0 - k0
  case neg => exact out_a5 n0 n1 k0 k1 s0 s1 p0 p1 q0 q1 w h0n h0k h0s h0p h0q (by omega)
  cases h1n : inB n1 1 64
  · exact out_b0 n0 n1 k0 k1 s0 s1 p0 p1 q0 q1 w h0n h0k h0s h0p h0q h0r h1n
  cases h1k : inB k1 1 8
  · exact out_b1 n0 n1 k0 k1 s0 s1 p0 p1 q0 q1 w h0n h0k h0s h0p h0q h0r h1n h1k
  cases h1s : inB s1 1 8
  · exact out_b2 n0 n1 k0 k1 s0 s1 p0 p1 q0 q1 w h0n h0k h0s h0p h0q h0r h1n h1k h1s
  cases h1p : padB p1 k1
  · exact out_b3 n0 n1 k0 k1 s0 s1 p0 p1 q0 q1 w h0n h0k h0s h0p h0q h0r h1n h1k h1s h1p
  cases h1q : padB q1 k1
  · exact out_b4 n0 n1 k0 k1 s0 s1 p0 p1 q0 q1 w h0n h0k h0s h0p h0q h0r h1n h1k h1s h1p h1q
  by_cases h1r : 0 ≤ n1 + p1 + q1 - k1
  case neg => exact out_b5 n0 n1 k0 k1 s0 s1 p0 p1 q0 q1 w h0n h0k h0s h0p h0q h0r h1n h1k h1s h1p h1q (by omega)
  exact out_y n0 n1 k0 k1 s0 s1 p0 p1 q0 q1 w h0n h0k h0s h0p h0q h0r h1n h1k h1s h1p h1q h1r
theorem out_live (w : World) : Calls Try.prog 81 #[.agg #[.int .i64 5, .int .i64 5], .agg #[.int .i64 3, .int .i64 3], .agg #[.int .i64 1, .int .i64 1], .agg #[.int .i64 1, .int .i64 1, .int .i64 1, .int .i64 1]] w fun e w' => e = .returned (.tuple #[.agg #[.int .i64 5, .int .i64 5], .bool true]) ∧ Below w.heap.size w w' := by
  have h := out_any 5 5 3 3 1 1 1 1 1 1 w
  unfold OutP at h
  rw [show (gdW 5 3 1 1 1 && gdW 5 3 1 1 1) = true by decide, show odW 5 3 1 1 1 = 5 by decide] at h
  exact h
end Go.Proofs.Ytmifojpmomdmeaa
