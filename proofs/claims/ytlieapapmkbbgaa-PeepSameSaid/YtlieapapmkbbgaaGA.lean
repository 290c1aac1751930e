/- Plain facts on words of 32 bits, with no program in sight. -/
import Derived.WalkKit
import Derived.WalkLawsBesides
import Derived.Test.YtlieapapmkbbgaaProg
import Derived.WalkSpells
import Derived.Handy
import Derived.Lib.Hide
import Derived.Deep.QuietTactic
import Derived.BigQuiet
import Derived.Below
import Derived.OwnWalk
namespace Go.Proofs.Ytlieapapmkbbgaa.Pl
open Go Go.RowKit

/-- a word as a number of two's complement -/
def sg (a : Int) : Int := if a < 2147483648 then a else a - 4294967296

theorem sg_bd {a : Int} (h0 : 0 ≤ a) (h1 : a < 4294967296) : -2147483648 ≤ sg a ∧ sg a ≤ 2147483647 := by
  unfold sg; split <;> omega
theorem wrap32_sg {a : Int} (h0 : 0 ≤ a) (h1 : a < 4294967296) : wrap32 a = sg a := by
  unfold wrap32 sg; split <;> omega
theorem sg_mod {a : Int} (h0 : 0 ≤ a) (h1 : a < 4294967296) : sg a % 4294967296 = a := by
  unfold sg; split <;> omega
theorem sg_zero {a : Int} (_ : 0 ≤ a) (_ : a < 4294967296) : sg a = 0 ↔ a = 0 := by
  unfold sg; split <;> omega
theorem sg_div {a : Int} (_ : 0 ≤ a) (_ : a < 4294967296) : (sg a - a) % 4294967296 = 0 := by
  unfold sg; split <;> omega
theorem wrap64_in' {n : Int} (h : -9223372036854775808 ≤ n ∧ n ≤ 9223372036854775807) : wrap64 n = n := IntWalk.wrap64_in n h

theorem and31 {b : Int} (h0 : 0 ≤ b) (h1 : b < 4294967296) : bits .and .u32 b 31 = b % 32 := by
  rw [u32_and b 31 h0 h1 (by omega) (by omega)]
  have : (31 : Int).toNat = 31 := rfl
  rw [this, nat_mask5]
  omega

theorem mul_bd {x y : Int} {A B : Nat} (hx : x.natAbs ≤ A) (hy : y.natAbs ≤ B) : (x * y).natAbs ≤ A * B := by
  rw [Int.natAbs_mul]; exact Nat.mul_le_mul hx hy

theorem mul_ss {a b : Int} (h0 : 0 ≤ a) (h1 : a < 4294967296) (g0 : 0 ≤ b) (g1 : b < 4294967296) :
    -4611686018427387904 ≤ sg a * sg b ∧ sg a * sg b ≤ 4611686018427387904 := by
  have ha := sg_bd h0 h1
  have hb := sg_bd g0 g1
  have := mul_bd (x := sg a) (y := sg b) (A := 2147483648) (B := 2147483648) (by omega) (by omega)
  omega
theorem mul_su {a b : Int} (h0 : 0 ≤ a) (h1 : a < 4294967296) (g0 : 0 ≤ b) (g1 : b < 4294967296) :
    -9223372034707292160 ≤ sg a * b ∧ sg a * b ≤ 9223372034707292160 := by
  have ha := sg_bd h0 h1
  have := mul_bd (x := sg a) (y := b) (A := 2147483648) (B := 4294967295) (by omega) (by omega)
  omega
theorem mul_uu {a b : Int} (h0 : 0 ≤ a) (h1 : a < 4294967296) (g0 : 0 ≤ b) (g1 : b < 4294967296) :
    0 ≤ a * b ∧ a * b < 18446744073709551615 := by
  have := mul_bd (x := a) (y := b) (A := 4294967295) (B := 4294967295) (by omega) (by omega)
  have := Int.mul_nonneg h0 g0
  omega

/-- what an operation of two registers answers -/
def aluS (op a b : Int) : Int :=
  if op = 1 then (a + b) % 4294967296 else
  if op = 2 then (a - b) % 4294967296 else
  if op = 3 then a * 2 ^ (b % 32).toNat % 4294967296 else
  if op = 4 then (if sg a < sg b then 1 else 0) else
  if op = 5 then (if a < b then 1 else 0) else
  if op = 6 then ((a.toNat ^^^ b.toNat : Nat) : Int) else
  if op = 7 then a / 2 ^ (b % 32).toNat else
  if op = 8 then sg a / 2 ^ (b % 32).toNat % 4294967296 else
  if op = 9 then ((a.toNat ||| b.toNat : Nat) : Int) else
  if op = 10 then ((a.toNat &&& b.toNat : Nat) : Int) else
  if op = 11 then a * b % 4294967296 else
  if op = 12 then sg a * sg b / 4294967296 % 4294967296 else
  if op = 13 then sg a * b / 4294967296 % 4294967296 else
  if op = 14 then a * b / 4294967296 else
  if op = 15 then (if b = 0 then 4294967295 else (sg a).tdiv (sg b) % 4294967296) else
  if op = 16 then (if b = 0 then 4294967295 else a / b) else
  if op = 17 then (if b = 0 then a else (sg a).tmod (sg b) % 4294967296) else
  (if b = 0 then a else a % b)

theorem pow_toNat_pos (n : Nat) : (0 : Int) < 2 ^ n := Int.pow_pos (by omega)

theorem div_le_self {a : Int} (n : Nat) (h0 : 0 ≤ a) : 0 ≤ a / 2 ^ n ∧ a / 2 ^ n ≤ a :=
  ⟨Int.ediv_nonneg h0 (Int.le_of_lt (pow_toNat_pos n)), Int.ediv_le_self _ h0⟩

theorem mod_pos_bd (x : Int) : 0 ≤ x % 4294967296 ∧ x % 4294967296 < 4294967296 := by omega

theorem nat_lt_xor {a b : Int} (h0 : 0 ≤ a) (h1 : a < 4294967296) (g0 : 0 ≤ b) (g1 : b < 4294967296) : a.toNat ^^^ b.toNat < 4294967296 :=
  Nat.xor_lt_two_pow (n := 32) (by omega) (by omega)
theorem nat_lt_or {a b : Int} (h0 : 0 ≤ a) (h1 : a < 4294967296) (g0 : 0 ≤ b) (g1 : b < 4294967296) : a.toNat ||| b.toNat < 4294967296 :=
  Nat.or_lt_two_pow (n := 32) (by omega) (by omega)
theorem nat_lt_and {a b : Int} (h0 : 0 ≤ a) (h1 : a < 4294967296) (_ : 0 ≤ b) (_ : b < 4294967296) : a.toNat &&& b.toNat < 4294967296 :=
  Nat.lt_of_le_of_lt Nat.and_le_left (by omega)

theorem ite_bd {c : Prop} [Decidable c] {x y : Int} (hx : c → 0 ≤ x ∧ x < 4294967296) (hy : ¬ c → 0 ≤ y ∧ y < 4294967296) : 0 ≤ (if c then x else y) ∧ (if c then x else y) < 4294967296 := by
  by_cases h : c
  · rw [if_pos h]; exact hx h
  · rw [if_neg h]; exact hy h

theorem aluS_bd {op a b : Int} (h0 : 0 ≤ a) (h1 : a < 4294967296) (g0 : 0 ≤ b) (g1 : b < 4294967296) : 0 ≤ aluS op a b ∧ aluS op a b < 4294967296 := by
  have hd := div_le_self (b % 32).toNat h0
  have hx := nat_lt_xor h0 h1 g0 g1
  have ho := nat_lt_or h0 h1 g0 g1
  have hn := nat_lt_and h0 h1 g0 g1
  have hm := mul_uu h0 h1 g0 g1
  have hm2 := mul_bd (x := a) (y := b) (A := 4294967295) (B := 4294967295) (by omega) (by omega)
  unfold aluS
  repeat' (apply ite_bd <;> intro hb)
  all_goals first
    | omega
    | exact mod_pos_bd _
    | (refine ⟨Int.ediv_nonneg h0 g0, ?_⟩; exact Int.lt_of_le_of_lt (Int.ediv_le_self _ h0) h1)
    | exact ⟨Int.emod_nonneg _ hb, Int.lt_trans (Int.emod_lt_of_pos _ (by omega)) g1⟩

/-! ### bit by bit -/
theorem bitq (n k : Nat) : n / 2^k % 2 = (n.testBit k).toNat := by
  rw [Nat.toNat_testBit]
theorem bstep (n k : Nat) : n / 2^k = n / 2^(k+1) * 2 + n / 2^k % 2 := by
  rw [Nat.pow_succ, ← Nat.div_div_eq_div_mul]; omega
theorem bit_xor (a b k : Nat) : (a ^^^ b) / 2^k % 2 = if a / 2^k % 2 + b / 2^k % 2 = 1 then 1 else 0 := by
  simp only [bitq, Nat.testBit_xor]
  cases a.testBit k <;> cases b.testBit k <;> rfl
theorem bit_or (a b k : Nat) : (a ||| b) / 2^k % 2 = if a / 2^k % 2 + b / 2^k % 2 = 0 then 0 else 1 := by
  simp only [bitq, Nat.testBit_or]
  cases a.testBit k <;> cases b.testBit k <;> rfl
theorem bit_and (a b k : Nat) : (a &&& b) / 2^k % 2 = if a / 2^k % 2 + b / 2^k % 2 = 2 then 1 else 0 := by
  simp only [bitq, Nat.testBit_and]
  cases a.testBit k <;> cases b.testBit k <;> rfl

end Go.Proofs.Ytlieapapmkbbgaa.Pl

namespace Go.Proofs.Ytlieapapmkbbgaa
open Go Go.RowKit Pl
set_option linter.unusedVariables false

theorem ret_u32 {a b : Int} (h : a = b) : Ending.returned (.int .u32 a) = .returned (.int .u32 b) := by rw [h]
theorem ret_i32 {a b : Int} (h : a = b) : Ending.returned (.int .i32 a) = .returned (.int .i32 b) := by rw [h]
theorem ret_i64 {a b : Int} (h : a = b) : Ending.returned (.int .i64 a) = .returned (.int .i64 b) := by rw [h]
theorem ret_u32b {a b : Int} {c d : Bool} (h : a = b) (g : c = d) : Ending.returned (.tuple #[.int .u32 a, .bool c]) = .returned (.tuple #[.int .u32 b, .bool d]) := by rw [h, g]
theorem ret_bool {a b : Bool} (h : a = b) : Ending.returned (.bool a) = .returned (.bool b) := by rw [h]

set_option maxHeartbeats 400000 in
theorem num_signed (a : Int) (w : World) (h0 : 0 ≤ a) (h1 : a < 4294967296) :
    Calls Try.prog 32 #[.int .u32 a] w fun e w' => e = .returned (.int .i32 (sg a)) ∧ w = w' := by
  go_enter Try.func32, Try.ntmps32
  go_wp2
  go_ret
  exact ⟨ret_i32 (wrap32_sg h0 h1), rfl⟩

set_option maxHeartbeats 400000 in
theorem num_simple (op a b : Int) (w : World) (h0 : 0 ≤ a) (h1 : a < 4294967296)  (g0 : 0 ≤ b) (g1 : b < 4294967296) (p0 : 1 ≤ op) (p1 : op ≤ 10) :
    Calls Try.prog 50 #[.int .i64 op, .int .u32 a, .int .u32 b] w fun e w' => e = .returned (.int .u32 (aluS op a b)) ∧ w = w' := by
  have e31 := and31 g0 g1
  have eq := wrap32_sg h0 h1
  have ew := wrap32_sg g0 g1
  have q0 : 0 ≤ b % 32 := by omega
  have q1 : b % 32 < 32 := by omega
  obtain rfl | rfl | rfl | rfl | rfl | rfl | rfl | rfl | rfl | rfl : op = 1 ∨ op = 2 ∨ op = 3 ∨ op = 4 ∨ op = 5 ∨ op = 6 ∨ op = 7 ∨ op = 8 ∨ op = 9 ∨ op = 10 := by omega
  all_goals
    go_enter Try.func50, Try.ntmps50
    go_wp2
    all_goals go_ret
    all_goals refine ⟨ret_u32 ?_, rfl⟩
    all_goals (show _ = aluS _ a b)
    all_goals first | rfl | (simp [aluS, *]; done) | (simp [aluS]; omega) | exact u32_xor a b h0 h1 g0 g1 | exact u32_or a b h0 h1 g0 g1 | exact u32_and a b h0 h1 g0 g1

set_option maxHeartbeats 400000 in
theorem num_multiply (op a b : Int) (w : World) (h0 : 0 ≤ a) (h1 : a < 4294967296)  (g0 : 0 ≤ b) (g1 : b < 4294967296) (p0 : 11 ≤ op) (p1 : op ≤ 14) :
    Calls Try.prog 49 #[.int .i64 op, .int .u32 a, .int .u32 b] w fun e w' => e = .returned (.int .u32 (aluS op a b)) ∧ w = w' := by
  have hss := mul_ss h0 h1 g0 g1
  have hsu := mul_su h0 h1 g0 g1
  have huu := mul_uu h0 h1 g0 g1
  have ba := sg_bd h0 h1
  have bb := sg_bd g0 g1
  have eq := wrap32_sg h0 h1
  have ew := wrap32_sg g0 g1
  obtain rfl | rfl | rfl | rfl : op = 11 ∨ op = 12 ∨ op = 13 ∨ op = 14 := by omega
  all_goals
    go_enter Try.func49, Try.ntmps49
    go_wp2
    all_goals go_ret
    all_goals refine ⟨ret_u32 ?_, rfl⟩
    all_goals (show _ = aluS _ a b)
  · rfl
  · rw [IntKind.wrap_u64, show aluS 12 a b = sg a * sg b / 4294967296 % 4294967296 from rfl]; omega
  · rw [IntKind.wrap_u64, show aluS 13 a b = sg a * b / 4294967296 % 4294967296 from rfl]; omega
  · rfl

theorem tdiv_bd {x y : Int} (h : -2147483648 ≤ x ∧ x ≤ 2147483647) : -2147483648 ≤ x.tdiv y ∧ x.tdiv y ≤ 2147483648 := by
  have := Int.natAbs_tdiv_le_natAbs x y
  omega
/-- the rest out of the quotient -/
theorem rest_of {a b : Int} (h0 : 0 ≤ a) (h1 : a < 4294967296) (g0 : 0 ≤ b) (g1 : b < 4294967296) :
    (a - (sg a).tdiv (sg b) % 4294967296 * b % 4294967296) % 4294967296 = (sg a).tmod (sg b) % 4294967296 := by
  have e : (sg a).tmod (sg b) = sg a - sg b * (sg a).tdiv (sg b) := by have := Int.mul_tdiv_add_tmod (sg a) (sg b); omega
  rw [e]
  generalize (sg a).tdiv (sg b) = q
  have ea := sg_mod h0 h1
  have eb := sg_mod g0 g1
  have e1 : q % 4294967296 * b % 4294967296 = sg b * q % 4294967296 := by
    conv => lhs; rw [← eb]
    rw [← Int.mul_emod, Int.mul_comm]
  rw [e1]
  conv => lhs; rw [← ea]
  rw [← Int.sub_emod]

set_option maxHeartbeats 400000 in
theorem num_divide (op a b : Int) (w : World) (h0 : 0 ≤ a) (h1 : a < 4294967296)  (g0 : 0 ≤ b) (g1 : b < 4294967296) (p0 : 15 ≤ op) (p1 : op ≤ 18) :
    Calls Try.prog 48 #[.int .i64 op, .int .u32 a, .int .u32 b] w fun e w' => e = .returned (.int .u32 (aluS op a b)) ∧ w = w' := by
  have ba := sg_bd h0 h1
  have bb := sg_bd g0 g1
  have eq := wrap32_sg h0 h1
  have ew := wrap32_sg g0 g1
  by_cases hb : b = 0
  · subst hb
    obtain rfl | rfl | rfl | rfl : op = 15 ∨ op = 16 ∨ op = 17 ∨ op = 18 := by omega
    all_goals
      go_enter Try.func48, Try.ntmps48
      go_wp2
      go_ret
      refine ⟨ret_u32 ?_, rfl⟩
      (show _ = aluS _ a 0)
      first | rfl | (simp [aluS]; omega)
  · have hs : sg b ≠ 0 := fun h => hb ((sg_zero g0 g1).1 h)
    have hb1 : 1 ≤ b := by omega
    have bq := tdiv_bd (y := sg b) ba
    obtain rfl | rfl | rfl | rfl : op = 15 ∨ op = 16 ∨ op = 17 ∨ op = 18 := by omega
    all_goals
      go_enter Try.func48, Try.ntmps48
      go_wp2
      go_ret
      refine ⟨ret_u32 ?_, rfl⟩
      (show _ = aluS _ a b)
    · simp [aluS, hb]
    · simp [aluS, hb]
    · simp only [aluS, hb, if_false]
      have := rest_of h0 h1 g0 g1
      simpa using this
    · simp [aluS, hb]

set_option maxHeartbeats 400000 in
theorem num_alu (op a b : Int) (w : World) (h0 : 0 ≤ a) (h1 : a < 4294967296)  (g0 : 0 ≤ b) (g1 : b < 4294967296) (p0 : 1 ≤ op) (p1 : op ≤ 18) :
    Calls Try.prog 35 #[.int .i64 op, .int .u32 a, .int .u32 b] w fun e w' => e = .returned (.tuple #[.int .u32 (aluS op a b), .bool true]) ∧ w = w' := by
  by_cases c1 : op ≤ 10
  · go_enter Try.func35, Try.ntmps35
    go_wp2_with (go_at_call 50; refine (num_simple _ _ _ _ h0 h1 g0 g1 p0 c1).mono ?_; rintro e w' ⟨rfl, rfl⟩)
    go_ret2
    exact ⟨rfl, rfl⟩
  · by_cases c2 : op ≤ 14
    · go_enter Try.func35, Try.ntmps35
      go_wp2_with (go_at_call 49; refine (num_multiply _ _ _ _ h0 h1 g0 g1 (by omega) c2).mono ?_; rintro e w' ⟨rfl, rfl⟩)
      go_ret2
      exact ⟨rfl, rfl⟩
    · go_enter Try.func35, Try.ntmps35
      go_wp2_with (go_at_call 48; refine (num_divide _ _ _ _ h0 h1 g0 g1 (by omega) p1).mono ?_; rintro e w' ⟨rfl, rfl⟩)
      go_ret2
      exact ⟨rfl, rfl⟩

set_option maxHeartbeats 400000 in
theorem num_alu_none (op a b : Int) (w : World) (p : op < 1 ∨ 18 < op) :
    Calls Try.prog 35 #[.int .i64 op, .int .u32 a, .int .u32 b] w fun e w' => e = .returned (.tuple #[.int .u32 0, .bool false]) ∧ w = w' := by
  obtain c | c := p
  · go_enter Try.func35, Try.ntmps35
    go_wp2
    go_ret2
    exact ⟨rfl, rfl⟩
  · go_enter Try.func35, Try.ntmps35
    go_wp2
    go_ret2
    exact ⟨rfl, rfl⟩

/-- the lowest n bits of a, with their sign -/
def sextS (a n : Int) : Int := if n < 1 then 0 else if 31 < n then a else
  (if a % 2 ^ n.toNat < 2 ^ (n - 1).toNat then a % 2 ^ n.toNat else a % 2 ^ n.toNat - 2 ^ n.toNat) % 4294967296

theorem sext_walk {a n : Int} (h0 : 0 ≤ a) (h1 : a < 4294967296) (n0 : 1 ≤ n) (n1 : n ≤ 31) :
    wrap32 (a * 2 ^ (32 - n).toNat % 4294967296) / 2 ^ (32 - n).toNat % 4294967296 = sextS a n := by
  obtain ⟨k, rfl⟩ : ∃ k : Nat, n = k := ⟨n.toNat, by omega⟩
  unfold sextS wrap32
  rw [if_neg (by omega), if_neg (by omega)]
  have hk : k = 1 ∨ k = 2 ∨ k = 3 ∨ k = 4 ∨ k = 5 ∨ k = 6 ∨ k = 7 ∨ k = 8 ∨ k = 9 ∨ k = 10 ∨ k = 11 ∨ k = 12 ∨ k = 13 ∨ k = 14 ∨ k = 15 ∨ k = 16 ∨ k = 17 ∨ k = 18 ∨ k = 19 ∨ k = 20 ∨ k = 21 ∨ k = 22 ∨ k = 23 ∨ k = 24 ∨ k = 25 ∨ k = 26 ∨ k = 27 ∨ k = 28 ∨ k = 29 ∨ k = 30 ∨ k = 31 := by omega
  rcases hk with rfl | rfl | rfl | rfl | rfl | rfl | rfl | rfl | rfl | rfl | rfl | rfl | rfl | rfl | rfl | rfl | rfl | rfl | rfl | rfl | rfl | rfl | rfl | rfl | rfl | rfl | rfl | rfl | rfl | rfl | rfl <;> simp <;> split <;> omega

set_option maxHeartbeats 400000 in
theorem num_sext (a n : Int) (w : World) (h0 : 0 ≤ a) (h1 : a < 4294967296) :
    Calls Try.prog 46 #[.int .u32 a, .int .i64 n] w fun e w' => e = .returned (.int .u32 (sextS a n)) ∧ w = w' := by
  go_enter Try.func46, Try.ntmps46
  go_wp2
  all_goals go_ret
  all_goals refine ⟨ret_u32 ?_, rfl⟩
  all_goals (show _ = sextS _ _)
  · unfold sextS; rw [if_pos (by assumption)]
  · unfold sextS; rw [if_neg (by omega), if_pos (by assumption)]
  · exact sext_walk h0 h1 (by assumption) (by assumption)

end Go.Proofs.Ytlieapapmkbbgaa

namespace Go.Proofs.Ytlieapapmkbbgaa
open Go Go.RowKit
set_option linter.unusedVariables false

/-- five numbers: op, d, a, b, and a number of 32 bits -/
structure Q5 where
  o : Int
  d : Int
  a : Int
  b : Int
  i : Int
deriving DecidableEq

def Q5.cells (x : Q5) : List Value := [.int .i64 x.o, .int .i64 x.d, .int .i64 x.a, .int .i64 x.b, .int .i32 x.i]
def Q5.arr (x : Q5) : Array Value := #[.int .i64 x.o, .int .i64 x.d, .int .i64 x.a, .int .i64 x.b, .int .i32 x.i]
/-- the numbers are such as their kinds have -/
def Q5.wf (x : Q5) : Prop := (Lit.int .i64 x.o).wf = true ∧ (Lit.int .i64 x.d).wf = true ∧ (Lit.int .i64 x.a).wf = true ∧ (Lit.int .i64 x.b).wf = true ∧ (Lit.int .i32 x.i).wf = true
def flat (l : List Q5) : List Value := l.flatMap Q5.cells
theorem flat_nil : flat [] = [] := rfl
theorem flat_cons (x : Q5) (l : List Q5) : flat (x :: l) = x.cells ++ flat l := by simp [flat]
theorem flat_app (l m : List Q5) : flat (l ++ m) = flat l ++ flat m := by simp [flat]
theorem flat_len (l : List Q5) : (flat l).length = l.length * 5 := by
  induction l with
  | nil => rfl
  | cons x l ih => rw [flat_cons, List.length_append, ih]; simp [Q5.cells]; omega
theorem flat_get : ∀ (l : List Q5) (k : Nat) (x : Q5), l[k]? = some x → ∀ j, j < 5 → (flat l)[k * 5 + j]? = x.cells[j]? := by
  intro l
  induction l with
  | nil => intro k x h; simp at h
  | cons y l ih =>
    intro k x h j hj
    rw [flat_cons]
    cases k with
    | zero =>
      obtain rfl : y = x := by simpa using h
      rw [List.getElem?_append_left (by simp [Q5.cells]; omega)]
      congr 1; omega
    | succ k =>
      have h' : l[k]? = some x := by simpa using h
      rw [List.getElem?_append_right (by simp [Q5.cells]; omega)]
      rw [← ih k x h' j hj]
      congr 1
      simp [Q5.cells]; omega
theorem flat_one (l : List Q5) : ∀ u ∈ flat l, u.oneCell' = true := by
  intro u hu
  simp only [flat, List.mem_flatMap] at hu
  obtain ⟨x, _, hx⟩ := hu
  simp [Q5.cells] at hx
  rcases hx with rfl | rfl | rfl | rfl | rfl <;> rfl
theorem flat_take (l : List Q5) (n : Nat) : flat (l.take n) = (flat l).take (n * 5) := by
  induction l generalizing n with
  | nil => simp [flat]
  | cons x l ih =>
    cases n with
    | zero => simp [flat]
    | succ n =>
      rw [List.take_succ_cons, flat_cons, flat_cons, ih, show (n + 1) * 5 = x.cells.length + n * 5 by simp [Q5.cells]; omega, List.take_length_add_append]

/-- a slice of such: where its cells lie -/
def L5 (w : World) (a : Option Addr) (l : List Q5) : Prop :=
  l.length ≤ 1000000000000 ∧ (l = [] ∨ ∃ b off, a = some ⟨b, off, none⟩ ∧ b < w.heap.size ∧ ∀ k x, l[k]? = some x →
    w.cell? ⟨b, off + k * 5, none⟩ = some (.int .i64 x.o) ∧ w.cell? ⟨b, off + k * 5 + 1, none⟩ = some (.int .i64 x.d) ∧ w.cell? ⟨b, off + k * 5 + 2, none⟩ = some (.int .i64 x.a) ∧
    w.cell? ⟨b, off + k * 5 + 3, none⟩ = some (.int .i64 x.b) ∧ w.cell? ⟨b, off + k * 5 + 4, none⟩ = some (.int .i32 x.i))
theorem add_at (b off j : Nat) : (⟨b, off, none⟩ : Addr).add j = ⟨b, off + j, none⟩ := by unfold Addr.add; split <;> simp_all
theorem l5_mk {w : World} {b off : Nat} {l : List Q5} (hlen : l.length ≤ 1000000000000) (hb : b < w.heap.size) (h : ∀ j u, (flat l)[j]? = some u → w.cell? ⟨b, off + j, none⟩ = some u) : L5 w (some ⟨b, off, none⟩) l := by
  refine ⟨hlen, Or.inr ⟨b, off, rfl, hb, fun k x hx => ?_⟩⟩
  have g := flat_get l k x hx
  refine ⟨h (k * 5) _ (by rw [show k * 5 = k * 5 + 0 by omega, g 0 (by omega)]; rfl), ?_, ?_, ?_, ?_⟩
  · have := h (k * 5 + 1) _ (by rw [g 1 (by omega)]; rfl); rw [← Nat.add_assoc] at this; exact this
  · have := h (k * 5 + 2) _ (by rw [g 2 (by omega)]; rfl); rw [← Nat.add_assoc] at this; exact this
  · have := h (k * 5 + 3) _ (by rw [g 3 (by omega)]; rfl); rw [← Nat.add_assoc] at this; exact this
  · have := h (k * 5 + 4) _ (by rw [g 4 (by omega)]; rfl); rw [← Nat.add_assoc] at this; exact this
theorem L5.news {w : World} {b off : Nat} {l : List Q5} (h : L5 w (some ⟨b, off, none⟩) l) : ∀ j u, (flat l)[j]? = some u → w.cell? ((⟨b, off, none⟩ : Addr).add j) = some u := by
  intro j u hj
  rw [add_at]
  obtain ⟨_, rfl | ⟨b', off', e, _, hc⟩⟩ := h
  · simp [flat] at hj
  · obtain ⟨rfl, rfl⟩ : b = b' ∧ off = off' := by simpa using e
    have hlt : j < (flat l).length := by
      rcases Nat.lt_or_ge j (flat l).length with g | g
      · exact g
      · rw [List.getElem?_eq_none g] at hj; cases hj
    rw [flat_len] at hlt
    have hk : j / 5 < l.length := by omega
    obtain ⟨x, hx⟩ : ∃ x, l[j / 5]? = some x := ⟨_, List.getElem?_eq_getElem hk⟩
    have g := flat_get l (j / 5) x hx (j % 5) (by omega)
    rw [show j / 5 * 5 + j % 5 = j by omega, hj] at g
    obtain ⟨c0, c1, c2, c3, c4⟩ := hc _ x hx
    have hm : j % 5 = 0 ∨ j % 5 = 1 ∨ j % 5 = 2 ∨ j % 5 = 3 ∨ j % 5 = 4 := by omega
    rcases hm with e | e | e | e | e <;> rw [e] at g <;> simp [Q5.cells] at g <;> subst g
    · rw [show off + j = off + j / 5 * 5 by omega]; exact c0
    · rw [show off + j = off + j / 5 * 5 + 1 by omega]; exact c1
    · rw [show off + j = off + j / 5 * 5 + 2 by omega]; exact c2
    · rw [show off + j = off + j / 5 * 5 + 3 by omega]; exact c3
    · rw [show off + j = off + j / 5 * 5 + 4 by omega]; exact c4
theorem L5.later {w w' : World} {a : Option Addr} {l : List Q5} (h : L5 w a l) (hb : Below w.heap.size w w') : L5 w' a l := by
  obtain ⟨h1, h | ⟨b, off, rfl, hlt, hc⟩⟩ := h
  · exact ⟨h1, Or.inl h⟩
  · refine ⟨h1, Or.inr ⟨b, off, rfl, Nat.lt_of_lt_of_le hlt hb.size, fun k x hx => ?_⟩⟩
    obtain ⟨c0, c1, c2, c3, c4⟩ := hc k x hx
    exact ⟨(hb.cell hlt).trans c0, (hb.cell hlt).trans c1, (hb.cell hlt).trans c2, (hb.cell hlt).trans c3, (hb.cell hlt).trans c4⟩
theorem L5.empty (w : World) (a : Option Addr) : L5 w a [] := ⟨by simp, Or.inl rfl⟩
/-- a row of the call's own that has these -/
theorem l5_own {w : World} {base : Nat} {e : TypeId} {v : Value} {n : Nat} {l : List Q5} (h : w.ownsRow base e 5 v n (flat l)) (hn : n = l.length) (hl : l.length ≤ 1000000000000) :
    ∃ a c, v = .slice a l.length c ∧ L5 w a l ∧ l.length ≤ c ∧ c ≤ 9223372036854775807 := by
  subst hn
  have hlt := h.lt
  have h' := h
  obtain ⟨_, ⟨hv, hn⟩ | ⟨g, cap, cur, hv, hg, hh, hc, hcm, _⟩⟩ := h
  · have : l = [] := List.eq_nil_of_length_eq_zero hn
    subst this
    exact ⟨none, 0, hv, L5.empty _ _, by simp, by omega⟩
  · refine ⟨some ⟨g, 0, none⟩, cap, hv, l5_mk hl (hlt g (by rw [hv]; rfl)).2 ?_, hc, by simpa [maxLen] using hcm⟩
    intro j u hj
    have := h'.cells (g := g) (by rw [hv]; rfl) j u hj
    rw [add_at] at this
    exact this
/-- one element, laid into a block of its own -/
theorem l5_lit (w : World) (e : TypeId) (l : List Q5) (xs : Array Value) (h : flat l = xs.toList) (H : Nat) (hH : w.heap.size = H) (hl : l.length ≤ 1000000000000) : L5 (w.alloc (.cells xs e)) (some ⟨H, 0, none⟩) l := by
  subst hH
  refine l5_mk hl (by simp) fun j u hj => ?_
  rw [Nat.zero_add, World.cell?_alloc_new]
  rw [h] at hj
  simpa using hj
end Go.Proofs.Ytlieapapmkbbgaa

namespace Go.Proofs.Ytlieapapmkbbgaa
open Go Go.RowKit Pl
set_option linter.unusedVariables false

def upd (f : Nat → Int) (d : Nat) (x : Int) : Nat → Int := fun k => if k = d then x else f k
/-- words -/
def WordsF (f : Nat → Int) : Prop := ∀ k, 0 ≤ f k ∧ f k < 4294967296
theorem wordsF_upd {f : Nat → Int} (h : WordsF f) (d : Nat) {x : Int} (hx : 0 ≤ x ∧ x < 4294967296) : WordsF (upd f d x) := by
  intro k
  unfold upd
  split
  · exact hx
  · exact h k
/-- the number of the operation that the document's machine does -/
def aluOf (o : Int) : Int := if o = 3 then 1 else if o = 4 then 2 else if o = 5 then 11 else if o = 6 then 12 else if o = 7 then 10 else if o = 13 then 1 else if o = 14 then 3 else if o = 15 then 7 else 8
/-- what a plain step's variable is behind it -/
def valF (x : Q5) (f : Nat → Int) : Int :=
  if x.o = 1 then x.i % 4294967296 else if x.o = 2 then f x.a.toNat
  else aluS (aluOf x.o) (f x.a.toNat) (if 13 ≤ x.o then x.i % 4294967296 else f x.b.toNat)
def stepF (x : Q5) (f : Nat → Int) : Nat → Int := upd f x.d.toNat (valF x f)
def runF : List Q5 → (Nat → Int) → Nat → Int
  | [], f => f
  | x :: l, f => runF l (stepF x f)
/-- a step that the contracts speak of -/
def OkF (x : Q5) : Prop := (x.o = 1 ∨ x.o = 2 ∨ x.o = 3 ∨ x.o = 4 ∨ x.o = 5 ∨ x.o = 6 ∨ x.o = 7 ∨ x.o = 13 ∨ x.o = 14 ∨ x.o = 15 ∨ x.o = 16) ∧ (0 ≤ x.d ∧ x.d < 64) ∧ (0 ≤ x.a ∧ x.a < 64) ∧ (0 ≤ x.b ∧ x.b < 64)
theorem words_step {x : Q5} {f : Nat → Int} (hf : WordsF f) : WordsF (stepF x f) := by
  refine wordsF_upd hf _ ?_
  unfold valF
  split
  · exact ⟨Int.emod_nonneg _ (by omega), Int.emod_lt_of_pos _ (by omega)⟩
  split
  · exact hf _
  · have h1 := hf x.a.toNat
    split
    · exact aluS_bd h1.1 h1.2 (Int.emod_nonneg _ (by omega)) (Int.emod_lt_of_pos _ (by omega))
    · have h2 := hf x.b.toNat
      exact aluS_bd h1.1 h1.2 h2.1 h2.2
theorem words_run : ∀ (l : List Q5) (f : Nat → Int), WordsF f → WordsF (runF l f)
  | [], f, h => h
  | x :: l, f, h => words_run l _ (words_step h)
theorem run_snoc : ∀ (l : List Q5) (x : Q5) (f : Nat → Int), runF (l ++ [x]) f = stepF x (runF l f)
  | [], x, f => rfl
  | y :: l, x, f => run_snoc l x (stepF y f)
theorem run_app : ∀ (l m : List Q5) (f : Nat → Int), runF (l ++ m) f = runF m (runF l f)
  | [], m, f => rfl
  | y :: l, m, f => run_app l m (stepF y f)
theorem run_other {k : Nat} : ∀ (l : List Q5) (f : Nat → Int), (∀ x ∈ l, x.d.toNat ≠ k) → runF l f k = f k
  | [], f, h => rfl
  | x :: l, f, h => by
    have e : runF (x :: l) f k = runF l (stepF x f) k := rfl
    rw [e, run_other l _ (fun y hy => h y (List.mem_cons_of_mem _ hy))]
    unfold stepF upd
    rw [if_neg (fun g => h x (List.mem_cons_self ..) g.symm)]

def clampS (n lo hi : Int) : Int := if n < lo then lo else if hi < n then hi else n
/-- steps that bring D within bounds, by help of T -/
def clampsQ (D T : Nat) (lo hi : Int) : List Q5 := [⟨13, D, D, 0, -lo⟩, ⟨16, T, D, 0, 31⟩, ⟨7, T, T, D, 0⟩, ⟨4, D, D, T, 0⟩, ⟨13, D, D, 0, lo - hi⟩, ⟨16, T, D, 0, 31⟩, ⟨7, D, D, T, 0⟩, ⟨13, D, D, 0, hi⟩]
theorem sgW (x : Int) : sg (x % 4294967296) = wrap32 x := by
  unfold sg wrap32; split <;> omega
theorem alu1 (a b : Int) : aluS 1 (a % 4294967296) (b % 4294967296) = (a + b) % 4294967296 := by
  show (a % 4294967296 + b % 4294967296) % 4294967296 = _; omega
theorem alu2 (a b : Int) : aluS 2 (a % 4294967296) (b % 4294967296) = (a - b) % 4294967296 := by
  show (a % 4294967296 - b % 4294967296) % 4294967296 = _; omega
theorem sign31 {x : Int} (h : -2147483648 ≤ x ∧ x ≤ 2147483647) : aluS 8 (x % 4294967296) 31 = (if x < 0 then -1 else 0) % 4294967296 := by
  show sg (x % 4294967296) / 2 ^ ((31 : Int) % 32).toNat % 4294967296 = _
  rw [sgW, show ((31 : Int) % 32).toNat = 31 by decide, show (2 : Int) ^ 31 = 2147483648 by decide]
  unfold wrap32
  split <;> omega
theorem and_mask (y : Int) (c : Prop) [Decidable c] : aluS 10 ((if c then -1 else 0) % 4294967296) (y % 4294967296) = (if c then y else 0) % 4294967296 := by
  show (((((if c then (-1 : Int) else 0) % 4294967296).toNat &&& (y % 4294967296).toNat : Nat)) : Int) = _
  by_cases h : c
  · rw [if_pos h, if_pos h, show ((-1 : Int) % 4294967296).toNat = 2 ^ 32 - 1 by decide, Nat.and_comm, Nat.and_two_pow_sub_one_eq_mod]
    omega
  · rw [if_neg h, if_neg h, show ((0 : Int) % 4294967296).toNat = 0 by decide, Nat.zero_and]
    rfl
theorem and_comm10 (a b : Int) : aluS 10 a b = aluS 10 b a := by
  show (((a.toNat &&& b.toNat : Nat)) : Int) = (((b.toNat &&& a.toNat : Nat)) : Int)
  rw [Nat.and_comm]
theorem and_mask' (y : Int) (c : Prop) [Decidable c] : aluS 10 (y % 4294967296) ((if c then -1 else 0) % 4294967296) = (if c then y else 0) % 4294967296 :=
  (and_comm10 _ _).trans (and_mask y c)
theorem clamps_val {f : Nat → Int} {D T : Nat} {n lo hi : Int} (hDT : D ≠ T) (hn : -536870912 ≤ n ∧ n ≤ 536870912) (hlo : -536870912 ≤ lo) (hlh : lo ≤ hi) (hhi : hi ≤ 536870912) (hf : f D = n % 4294967296) :
    runF (clampsQ D T lo hi) f D = clampS n lo hi % 4294967296 := by
  have e : runF (clampsQ D T lo hi) f D = aluS 1 (aluS 10 (aluS 1 (aluS 2 (aluS 1 (f D) (-lo % 4294967296)) (aluS 10 (aluS 8 (aluS 1 (f D) (-lo % 4294967296)) 31) (aluS 1 (f D) (-lo % 4294967296)))) ((lo - hi) % 4294967296))
      (aluS 8 (aluS 1 (aluS 2 (aluS 1 (f D) (-lo % 4294967296)) (aluS 10 (aluS 8 (aluS 1 (f D) (-lo % 4294967296)) 31) (aluS 1 (f D) (-lo % 4294967296)))) ((lo - hi) % 4294967296)) 31)) (hi % 4294967296) := by
    simp [clampsQ, runF, stepF, valF, upd, aluOf, hDT]
  rw [e, hf, alu1, sign31 (by omega), and_mask, alu2, alu1, sign31 (by split <;> omega), and_mask', alu1]
  unfold clampS
  (repeat' split) <;> omega

def sc1 (n m : Int) : Int := wrap32 ((n * m + 1073741824) / 2147483648)
def scaleS (n m s : Int) : Int := if s < 0 ∨ 31 < s then 0 else if s = 0 then sc1 n m else wrap32 (sc1 n m + 2 ^ (s - 1).toNat) / 2 ^ s.toNat
/-- steps that let D be A, scaled, by help of T and the variable behind it -/
def stepsQ8 (D A T : Nat) (m : Int) : List Q5 := [⟨1, T, 0, 0, m⟩, ⟨6, (T + 1 : Nat), A, T, 0⟩, ⟨5, T, A, T, 0⟩, ⟨15, T, T, 0, 30⟩, ⟨13, T, T, 0, 1⟩, ⟨15, T, T, 0, 1⟩, ⟨14, (T + 1 : Nat), (T + 1 : Nat), 0, 1⟩, ⟨3, D, (T + 1 : Nat), T, 0⟩]
def stepsQ2 (D : Nat) (s : Int) : List Q5 := if s = 0 then [] else [⟨13, D, D, 0, 2 ^ (s - 1).toNat⟩, ⟨16, D, D, 0, s⟩]
def stepsQ (D A T : Nat) (m s : Int) : List Q5 := stepsQ8 D A T m ++ stepsQ2 D s
theorem sg_nm {n : Int} (h : -2147483648 ≤ n ∧ n ≤ 2147483647) : sg (n % 4294967296) = n := by rw [sgW]; unfold wrap32; omega
theorem steps8_val {f : Nat → Int} {D A T : Nat} {n m : Int} (hAT : A ≠ T) (hAU : A ≠ T + 1) (hn : -2147483648 ≤ n ∧ n ≤ 2147483647) (hm : -2147483648 ≤ m ∧ m ≤ 2147483647) (hf : f A = n % 4294967296) :
    runF (stepsQ8 D A T m) f D = sc1 n m % 4294967296 := by
  have e : runF (stepsQ8 D A T m) f D = aluS 1 (aluS 3 (aluS 12 (f A) (m % 4294967296)) 1) (aluS 7 (aluS 1 (aluS 7 (aluS 11 (f A) (m % 4294967296)) 30) 1) 1) := by
    simp [stepsQ8, runF, stepF, valF, upd, aluOf, hAT, hAU]
  rw [e, hf]
  have a12 : aluS 12 (n % 4294967296) (m % 4294967296) = n * m / 4294967296 % 4294967296 := by
    show sg (n % 4294967296) * sg (m % 4294967296) / 4294967296 % 4294967296 = _
    rw [sg_nm hn, sg_nm hm]
  have a11 : aluS 11 (n % 4294967296) (m % 4294967296) = n * m % 4294967296 := by
    show n % 4294967296 * (m % 4294967296) % 4294967296 = _
    rw [← Int.mul_emod]
  rw [a12, a11]
  show (n * m / 4294967296 % 4294967296 * 2 ^ ((1 : Int) % 32).toNat % 4294967296 + (n * m % 4294967296 / 2 ^ ((30 : Int) % 32).toNat + 1) % 4294967296 / 2 ^ ((1 : Int) % 32).toNat) % 4294967296 = _
  rw [show ((1 : Int) % 32).toNat = 1 by decide, show ((30 : Int) % 32).toNat = 30 by decide, show (2 : Int) ^ 1 = 2 by decide, show (2 : Int) ^ 30 = 1073741824 by decide]
  unfold sc1 wrap32
  generalize n * m = p
  omega
theorem steps_val {f : Nat → Int} {D A T : Nat} {n m s : Int} (hAT : A ≠ T) (hAU : A ≠ T + 1) (hn : -2147483648 ≤ n ∧ n ≤ 2147483647) (hm : -2147483648 ≤ m ∧ m ≤ 2147483647) (hs : 0 ≤ s ∧ s ≤ 31) (hf : f A = n % 4294967296) :
    runF (stepsQ D A T m s) f D = scaleS n m s % 4294967296 := by
  unfold stepsQ
  rw [run_app]
  have h8 := steps8_val (f := f) (D := D) hAT hAU hn hm hf
  generalize runF (stepsQ8 D A T m) f = g at h8
  have hsc : scaleS n m s = if s = 0 then sc1 n m else wrap32 (sc1 n m + 2 ^ (s - 1).toNat) / 2 ^ s.toNat := by
    unfold scaleS; rw [if_neg (by omega)]
  rw [hsc]
  unfold stepsQ2
  by_cases h0 : s = 0
  · rw [if_pos h0, if_pos h0]; exact h8
  · rw [if_neg h0, if_neg h0]
    have e : runF [⟨13, D, D, 0, 2 ^ (s - 1).toNat⟩, ⟨16, D, D, 0, s⟩] g D = aluS 8 (aluS 1 (g D) (2 ^ (s - 1).toNat % 4294967296)) (s % 4294967296) := by
      simp [runF, stepF, valF, upd, aluOf]
    rw [e, h8, alu1]
    show sg ((sc1 n m + 2 ^ (s - 1).toNat) % 4294967296) / 2 ^ (s % 4294967296 % 32).toNat % 4294967296 = _
    rw [sgW, show s % 4294967296 % 32 = s by omega]
end Go.Proofs.Ytlieapapmkbbgaa
