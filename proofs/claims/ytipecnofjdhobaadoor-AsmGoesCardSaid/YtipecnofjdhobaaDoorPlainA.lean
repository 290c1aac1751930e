/- Plain facts on words of 32 bits, with no program in sight. -/
import Derived.WalkKit
import Derived.WalkLawsBesides
namespace Go.Proofs.YtipecnofjdhobaaDoor.Pl
open Go Go.RowKit

/-- a word as a number of two's complement -/
def sg (a : Int) : Int := if a < 2147483648 then a else a - 4294967296

theorem sg_bd {a : Int} (h0 : 0 ≤ a) (h1 : a < 4294967296) : -2147483648 ≤ sg a ∧ sg a ≤ 2147483647 := by
  unfold sg; split <;> omega
theorem wrap32_sg {a : Int} (h0 : 0 ≤ a) (h1 : a < 4294967296) : wrap32 a = sg a := by
  unfold wrap32 sg; split <;> omega
theorem sg_mod {a : Int} (h0 : 0 ≤ a) (h1 : a < 4294967296) : sg a % 4294967296 = a := by
  unfold sg; split <;> omega
theorem sg_zero {a : Int} (_ : 0 ≤ a) (_ : a < 4294967296) : sg a = 0 ↔ a = 0 := by
  unfold sg; split <;> omega
theorem sg_div {a : Int} (_ : 0 ≤ a) (_ : a < 4294967296) : (sg a - a) % 4294967296 = 0 := by
  unfold sg; split <;> omega
theorem wrap64_in' {n : Int} (h : -9223372036854775808 ≤ n ∧ n ≤ 9223372036854775807) : wrap64 n = n := IntWalk.wrap64_in n h

theorem and31 {b : Int} (h0 : 0 ≤ b) (h1 : b < 4294967296) : bits .and .u32 b 31 = b % 32 := by
  rw [u32_and b 31 h0 h1 (by omega) (by omega)]
  have : (31 : Int).toNat = 31 := rfl
  rw [this, nat_mask5]
  omega

theorem mul_bd {x y : Int} {A B : Nat} (hx : x.natAbs ≤ A) (hy : y.natAbs ≤ B) : (x * y).natAbs ≤ A * B := by
  rw [Int.natAbs_mul]; exact Nat.mul_le_mul hx hy

theorem mul_ss {a b : Int} (h0 : 0 ≤ a) (h1 : a < 4294967296) (g0 : 0 ≤ b) (g1 : b < 4294967296) :
    -4611686018427387904 ≤ sg a * sg b ∧ sg a * sg b ≤ 4611686018427387904 := by
  have ha := sg_bd h0 h1
  have hb := sg_bd g0 g1
  have := mul_bd (x := sg a) (y := sg b) (A := 2147483648) (B := 2147483648) (by omega) (by omega)
  omega
theorem mul_su {a b : Int} (h0 : 0 ≤ a) (h1 : a < 4294967296) (g0 : 0 ≤ b) (g1 : b < 4294967296) :
    -9223372034707292160 ≤ sg a * b ∧ sg a * b ≤ 9223372034707292160 := by
  have ha := sg_bd h0 h1
  have := mul_bd (x := sg a) (y := b) (A := 2147483648) (B := 4294967295) (by omega) (by omega)
  omega
theorem mul_uu {a b : Int} (h0 : 0 ≤ a) (h1 : a < 4294967296) (g0 : 0 ≤ b) (g1 : b < 4294967296) :
    0 ≤ a * b ∧ a * b < 18446744073709551615 := by
  have := mul_bd (x := a) (y := b) (A := 4294967295) (B := 4294967295) (by omega) (by omega)
  have := Int.mul_nonneg h0 g0
  omega

/-- what an operation of two registers answers -/
def aluS (op a b : Int) : Int :=
  if op = 1 then (a + b) % 4294967296 else
  if op = 2 then (a - b) % 4294967296 else
  if op = 3 then a * 2 ^ (b % 32).toNat % 4294967296 else
  if op = 4 then (if sg a < sg b then 1 else 0) else
  if op = 5 then (if a < b then 1 else 0) else
  if op = 6 then ((a.toNat ^^^ b.toNat : Nat) : Int) else
  if op = 7 then a / 2 ^ (b % 32).toNat else
  if op = 8 then sg a / 2 ^ (b % 32).toNat % 4294967296 else
  if op = 9 then ((a.toNat ||| b.toNat : Nat) : Int) else
  if op = 10 then ((a.toNat &&& b.toNat : Nat) : Int) else
  if op = 11 then a * b % 4294967296 else
  if op = 12 then sg a * sg b / 4294967296 % 4294967296 else
  if op = 13 then sg a * b / 4294967296 % 4294967296 else
  if op = 14 then a * b / 4294967296 else
  if op = 15 then (if b = 0 then 4294967295 else (sg a).tdiv (sg b) % 4294967296) else
  if op = 16 then (if b = 0 then 4294967295 else a / b) else
  if op = 17 then (if b = 0 then a else (sg a).tmod (sg b) % 4294967296) else
  (if b = 0 then a else a % b)

theorem pow_toNat_pos (n : Nat) : (0 : Int) < 2 ^ n := Int.pow_pos (by omega)

theorem div_le_self {a : Int} (n : Nat) (h0 : 0 ≤ a) : 0 ≤ a / 2 ^ n ∧ a / 2 ^ n ≤ a :=
  ⟨Int.ediv_nonneg h0 (Int.le_of_lt (pow_toNat_pos n)), Int.ediv_le_self _ h0⟩

theorem mod_pos_bd (x : Int) : 0 ≤ x % 4294967296 ∧ x % 4294967296 < 4294967296 := by omega

theorem nat_lt_xor {a b : Int} (h0 : 0 ≤ a) (h1 : a < 4294967296) (g0 : 0 ≤ b) (g1 : b < 4294967296) : a.toNat ^^^ b.toNat < 4294967296 :=
  Nat.xor_lt_two_pow (n := 32) (by omega) (by omega)
theorem nat_lt_or {a b : Int} (h0 : 0 ≤ a) (h1 : a < 4294967296) (g0 : 0 ≤ b) (g1 : b < 4294967296) : a.toNat ||| b.toNat < 4294967296 :=
  Nat.or_lt_two_pow (n := 32) (by omega) (by omega)
theorem nat_lt_and {a b : Int} (h0 : 0 ≤ a) (h1 : a < 4294967296) (_ : 0 ≤ b) (_ : b < 4294967296) : a.toNat &&& b.toNat < 4294967296 :=
  Nat.lt_of_le_of_lt Nat.and_le_left (by omega)

theorem ite_bd {c : Prop} [Decidable c] {x y : Int} (hx : c → 0 ≤ x ∧ x < 4294967296) (hy : ¬ c → 0 ≤ y ∧ y < 4294967296) : 0 ≤ (if c then x else y) ∧ (if c then x else y) < 4294967296 := by
  by_cases h : c
  · rw [if_pos h]; exact hx h
  · rw [if_neg h]; exact hy h

theorem aluS_bd {op a b : Int} (h0 : 0 ≤ a) (h1 : a < 4294967296) (g0 : 0 ≤ b) (g1 : b < 4294967296) : 0 ≤ aluS op a b ∧ aluS op a b < 4294967296 := by
  have hd := div_le_self (b % 32).toNat h0
  have hx := nat_lt_xor h0 h1 g0 g1
  have ho := nat_lt_or h0 h1 g0 g1
  have hn := nat_lt_and h0 h1 g0 g1
  have hm := mul_uu h0 h1 g0 g1
  have hm2 := mul_bd (x := a) (y := b) (A := 4294967295) (B := 4294967295) (by omega) (by omega)
  unfold aluS
  repeat' (apply ite_bd <;> intro hb)
  all_goals first
    | omega
    | exact mod_pos_bd _
    | (refine ⟨Int.ediv_nonneg h0 g0, ?_⟩; exact Int.lt_of_le_of_lt (Int.ediv_le_self _ h0) h1)
    | exact ⟨Int.emod_nonneg _ hb, Int.lt_trans (Int.emod_lt_of_pos _ (by omega)) g1⟩

/-! ### bit by bit -/
theorem bitq (n k : Nat) : n / 2^k % 2 = (n.testBit k).toNat := by
  rw [Nat.toNat_testBit]
theorem bstep (n k : Nat) : n / 2^k = n / 2^(k+1) * 2 + n / 2^k % 2 := by
  rw [Nat.pow_succ, ← Nat.div_div_eq_div_mul]; omega
theorem bit_xor (a b k : Nat) : (a ^^^ b) / 2^k % 2 = if a / 2^k % 2 + b / 2^k % 2 = 1 then 1 else 0 := by
  simp only [bitq, Nat.testBit_xor]
  cases a.testBit k <;> cases b.testBit k <;> rfl
theorem bit_or (a b k : Nat) : (a ||| b) / 2^k % 2 = if a / 2^k % 2 + b / 2^k % 2 = 0 then 0 else 1 := by
  simp only [bitq, Nat.testBit_or]
  cases a.testBit k <;> cases b.testBit k <;> rfl
theorem bit_and (a b k : Nat) : (a &&& b) / 2^k % 2 = if a / 2^k % 2 + b / 2^k % 2 = 2 then 1 else 0 := by
  simp only [bitq, Nat.testBit_and]
  cases a.testBit k <;> cases b.testBit k <;> rfl

end Go.Proofs.YtipecnofjdhobaaDoor.Pl
